import Derived.Test.YtnpkmjdlohdieaaUVm
namespace Go.Proofs.Ytnpkmjdlohdieaa
open Go.RowKit
set_option maxRecDepth 100000
set_option linter.unusedVariables false
set_option linter.unusedSimpArgs false
set_option maxHeartbeats 16000000 in
/-- a vigil with memory of its own -/
theorem vigilOf_any (A : Va) (D : Vi) (w : World) (hV : RdVg w A D) (h1 : A.nb ≤ 10000000000000) (h2 : A.np ≤ 10000000000000) (h3 : A.nt ≤ 10000000000000) :
    Calls Try.prog 15 #[.agg (vgA D A)] w fun e w' => ∃ A' : Va, e = .returned (.agg (vgA D A')) ∧ OwVg w' w.heap.size A' D ∧ w.grownBy w' none := by
  unfold vgA
  have b0 := BxS.new w 29 #[.bool D.sf, .int .i64 D.wy, .slice A.ab A.nb A.cb, .slice A.ap A.np A.cp, .int .i64 D.qu, .slice A.at' A.nt A.ct]
  have g0 := World.grownBy_alloc w (.cells #[.bool D.sf, .int .i64 D.wy, .slice A.ab A.nb A.cb, .slice A.ap A.np A.cp, .int .i64 D.qu, .slice A.at' A.nt A.ct] 29) none
  generalize hw0 : w.alloc (.cells #[.bool D.sf, .int .i64 D.wy, .slice A.ab A.nb A.cb, .slice A.ap A.np A.cp, .int .i64 D.qu, .slice A.at' A.nt A.ct] 29) = w0 at b0 g0
  have hz0 : w0.heap.size = w.heap.size + 1 := by rw [← hw0]; simp
  have b1 := BxS.new w0 29 #[.bool false, .int .i64 0, .slice none 0 0, .slice none 0 0, .int .i64 0, .slice none 0 0]
  have g1 := World.grownBy_alloc w0 (.cells #[.bool false, .int .i64 0, .slice none 0 0, .slice none 0 0, .int .i64 0, .slice none 0 0] 29) none
  generalize hw1 : w0.alloc (.cells #[.bool false, .int .i64 0, .slice none 0 0, .slice none 0 0, .int .i64 0, .slice none 0 0] 29) = w1 at b1 g1
  rw [hz0] at b1
  have hz1 : w1.heap.size = w.heap.size + 2 := by rw [← hw1]; simp [hz0]
  have p1 := b0.keep g1 (by simp)
  have G1 := grown_trans g0 g1
  have hV1 := hV.keep G1
  obtain ⟨c0, c1, c2, c3, c4, c5⟩ := p1.cell6
  have i6 := Try.info_vg
  have ngb : some (w.heap.size + 1) ≠ some w.heap.size := fun e => by have := Option.some.inj e; omega
  have s0 : True := trivial
  go_enter Try.func15, Try.ntmps15
  go_wp2_with (first
    | (at_builtin; have _t := s0; clear s0; refine wpList_apX Try.elI rfl _ _ rfl none 0 0 w1.heap.size [] rfl (AnsX.nil0 _ _ _) (Nat.le_refl _) A.ab A.nb A.cb _ rfl hV1.b (by omega) (by omega) ?_; intro aB cB w2 AB u2; rw [Nat.zero_add, List.nil_append] at AB; rw [Nat.zero_add]; have u2 : w1.grownBy w2 none := u2; have p2 := p1.keep u2 (by simp); have q2 := b1.keep u2 (by simp); have s1 : True := trivial)
    | (have _t := s1; clear s1; refine wpList_stC _ rfl _ _ _ rfl w.heap.size 2 29 _ #[.bool D.sf, .int .i64 D.wy, .slice aB A.nb cB, .slice A.ap A.np A.cp, .int .i64 D.qu, .slice A.at' A.nt A.ct] (.slice aB A.nb cB) rfl rfl p2 (stc_slI _ _ _ _ _) (by show 2 < 6; decide) rfl ?_; intro w3 p3 u3; have q3 := q2.keep u3 ngb; clear c0 c1 c2 c3 c4 c5; obtain ⟨c0, c1, c2, c3, c4, c5⟩ := p3.cell6; have B3 := AB.kept u3 (ne_of_some (fun x e e2 => by have := AB.new x e; have e2 : w.heap.size = x := Option.some.inj e2; omega)); have G3 := grown_far (grown_trans G1 u2) u3 (fun q e => by have e : w.heap.size = q := Option.some.inj e; omega); have hV3 := hV.keep G3; have s2 : True := trivial)
    | (at_builtin; have _t := s2; clear s2; refine wpList_apX Try.elH rfl _ _ rfl none 0 0 w3.heap.size [] rfl (AnsX.nil0 _ _ _) (Nat.le_refl _) A.ap A.np A.cp _ rfl hV3.p (by omega) (by omega) ?_; intro aP cP w4 AP u4; rw [Nat.zero_add, List.nil_append] at AP; rw [Nat.zero_add]; have u4 : w3.grownBy w4 none := u4; have p4 := p3.keep u4 (by simp); have q4 := q3.keep u4 (by simp); have B4 := B3.keep u4; have s3 : True := trivial)
    | (have _t := s3; clear s3; refine wpList_stC _ rfl _ _ _ rfl w.heap.size 3 29 _ #[.bool D.sf, .int .i64 D.wy, .slice aB A.nb cB, .slice aP A.np cP, .int .i64 D.qu, .slice A.at' A.nt A.ct] (.slice aP A.np cP) rfl rfl p4 (stc_slH _ _ _ _ _) (by show 3 < 6; decide) rfl ?_; intro w5 p5 u5; have q5 := q4.keep u5 ngb; clear c0 c1 c2 c3 c4 c5; obtain ⟨c0, c1, c2, c3, c4, c5⟩ := p5.cell6; have z3 := G3.size; have z13 := u2.size; have z33 := u3.size; have P5 := AP.kept u5 (ne_of_some (fun x e e2 => by have := AP.new x e; have e2 : w.heap.size = x := Option.some.inj e2; omega)); have B5 := B4.kept u5 (ne_of_some (fun x e e2 => by have := AB.new x e; have e2 : w.heap.size = x := Option.some.inj e2; omega)); have G5 := grown_far (grown_trans G3 u4) u5 (fun q e => by have e : w.heap.size = q := Option.some.inj e; omega); have hV5 := hV.keep G5; have s4 : True := trivial)
    | (at_builtin; have _t := s4; clear s4; refine wpList_apX Try.elI rfl _ _ rfl none 0 0 w5.heap.size [] rfl (AnsX.nil0 _ _ _) (Nat.le_refl _) A.at' A.nt A.ct _ rfl hV5.t (by omega) (by omega) ?_; intro aT cT w6 AT u6; rw [Nat.zero_add, List.nil_append] at AT; rw [Nat.zero_add]; have u6 : w5.grownBy w6 none := u6; have p6 := p5.keep u6 (by simp); have q6 := q5.keep u6 (by simp); have B6 := B5.keep u6; have P6 := P5.keep u6; have s5 : True := trivial)
    | (have _t := s5; clear s5; refine wpList_stC _ rfl _ _ _ rfl w.heap.size 5 29 _ #[.bool D.sf, .int .i64 D.wy, .slice aB A.nb cB, .slice aP A.np cP, .int .i64 D.qu, .slice aT A.nt cT] (.slice aT A.nt cT) rfl rfl p6 (stc_slI _ _ _ _ _) (by show 5 < 6; decide) rfl ?_; intro w7 p7 u7; have q7 := q6.keep u7 ngb; clear c0 c1 c2 c3 c4 c5; obtain ⟨c0, c1, c2, c3, c4, c5⟩ := p7.cell6; have z5 := u5.size; have z4 := u4.size; have T7 := AT.kept u7 (ne_of_some (fun x e e2 => by have := AT.new x e; have e2 : w.heap.size = x := Option.some.inj e2; omega)); have B7 := B6.kept u7 (ne_of_some (fun x e e2 => by have := AB.new x e; have e2 : w.heap.size = x := Option.some.inj e2; omega)); have P7 := P6.kept u7 (ne_of_some (fun x e e2 => by have := AP.new x e; have e2 : w.heap.size = x := Option.some.inj e2; omega)); have G7 := grown_far (grown_trans G5 u6) u7 (fun q e => by have e : w.heap.size = q := Option.some.inj e; omega); have s6 : True := trivial)
    | (have _t := s6; clear s6; refine wpList_stX _ rfl _ (.tmp 2) (.tmp 15) rfl (w.heap.size + 1) _ _ rfl rfl q7 i6 rfl (by simp [Value.oneCell']) ?_; intro w8 q8 u8))
  refine bodyPost_ret (results_cell1 rfl _ _ _ ⟨w.heap.size + 1, 0, none⟩ _ rfl (BxS.load (t := 29) q8 Try.underlying29 i6)) rfl ?_
  have z6 := u6.size
  have z7 := u7.size
  refine ⟨⟨aB, A.nb, cB, aP, A.np, cP, aT, A.nt, cT⟩, rfl, ⟨(B7.kept u8 (ne_of_some (fun x e e2 => by have := AB.new x e; have e2 : w.heap.size + 1 = x := Option.some.inj e2; omega))).low (by omega), (P7.kept u8 (ne_of_some (fun x e e2 => by have := AP.new x e; have e2 : w.heap.size + 1 = x := Option.some.inj e2; omega))).low (by omega), (T7.kept u8 (ne_of_some (fun x e e2 => by have := AT.new x e; have e2 : w.heap.size + 1 = x := Option.some.inj e2; omega))).low (by omega), fun x e e2 => ?_⟩, grown_far G7 u8 (fun q e => by have e : w.heap.size + 1 = q := Option.some.inj e; omega)⟩
  have h5 := AB.lt x e
  have h6 := AT.new x e2
  omega
end Go.Proofs.Ytnpkmjdlohdieaa
