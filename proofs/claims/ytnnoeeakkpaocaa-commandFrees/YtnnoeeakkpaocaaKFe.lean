import Derived.Test.YtnnoeeakkpaocaaKxAp
import Derived.Test.YtnnoeeakkpaocaaKHb
import Derived.Test.YtnnoeeakkpaocaaKHr2
namespace Go.Proofs.Ytnnoeeakkpaocaa
open Go.RowKit
set_option maxRecDepth 100000
set_option linter.unusedVariables false
set_option linter.unusedSimpArgs false
theorem Try.info_hn2 : (Try.prog.info? 50).map (fun i => i.size) = some 12 := by kernel_rfl
theorem fz_of {w w' : World} {r : Option Nat} (h : w.grownBy w' r) : Fz (fun i => r = some i) w w' := (Fz.refl _ w).step h (fun k e _ => e)
theorem rdW_one {w w' : World} {lo g : Nat} {a : Option Addr} {n c : Nat} {D : List Nat} (h : Ans w lo a n c D) (hg : (w.alloc (.cells #[.slice a n c] 22)).grownBy w' (some g)) (h1 : g < lo) (h2 : g < w.heap.size) : RdW w' (some ⟨w.heap.size, 0, none⟩) 1 1 [D] := by
  have gA := World.grownBy_alloc w (.cells #[.slice a n c] 22) none
  have b := (BxS.new w 22 #[.slice a n c]).keep hg (fun e => by have e := Option.some.inj e; omega)
  have hA := (h.keep gA).kept hg (by
    cases e : (Value.slice a n c).ownBlock with
    | none => exact .inl rfl
    | some x => exact .inr (fun e2 => by have := h.new x e; have e2 := Option.some.inj e2; omega))
  refine ⟨rfl, fun _ => ⟨a, n, c, D⟩, ⟨Nat.le_refl _, by unfold maxLen; omega, fun _ => ⟨w.heap.size, 0, rfl, b.lt, fun i hi => ?_⟩, fun i hi => hA.rd⟩, fun i hi => ?_⟩
  · obtain rfl : i = 0 := by omega
    exact b.cell 0 (by show 0 < 1; decide)
  · obtain rfl : i = 0 := by omega
    rfl
set_option maxHeartbeats 64000000 in
theorem rfree2_any (X : Hx) (d : Hd) (w : World) (h : RdHd w X d) :
    Calls Try.prog 41 #[.agg (hnV d X)] w fun e w' => ∃ (P1 : Hx) (xa : Option Addr) (xn xc : Nat), e = .returned (.tuple #[.agg (hnV (frV d) P1), .slice xa xn xc, .int .i64 (frE d : Int)]) ∧ RdHd w' P1 (frV d) ∧ RdW w' xa xn xc (frR d) ∧ w.grownBy w' none := by
  obtain ⟨F, hF1, hF2⟩ := h.s.ex
  obtain ⟨K, hK1, hK2⟩ := h.q.ex
  have l1 := h.s.len
  have l2 := h.q.len
  have hq := hnd_of hF1 hF2 hK1 hK2 l1 l2
  have b0 := BxS.new w 50 #[.int .i64 d.cr, .int .i64 d.nx, .int .i64 d.ah, .slice X.sa X.sn X.sc, .slice X.qa X.qn X.qc, .int .i64 d.ti, .int .i64 d.pa, .int .i64 d.tr, .int .i64 d.li, .int .i64 d.si, .int .i64 d.pu, .int .i64 d.hl]
  have g0 := World.grownBy_alloc w (.cells #[.int .i64 d.cr, .int .i64 d.nx, .int .i64 d.ah, .slice X.sa X.sn X.sc, .slice X.qa X.qn X.qc, .int .i64 d.ti, .int .i64 d.pa, .int .i64 d.tr, .int .i64 d.li, .int .i64 d.si, .int .i64 d.pu, .int .i64 d.hl] 50) none
  generalize hw0 : w.alloc (.cells #[.int .i64 d.cr, .int .i64 d.nx, .int .i64 d.ah, .slice X.sa X.sn X.sc, .slice X.qa X.qn X.qc, .int .i64 d.ti, .int .i64 d.pa, .int .i64 d.tr, .int .i64 d.li, .int .i64 d.si, .int .i64 d.pu, .int .i64 d.hl] 50) = w0 at b0 g0
  have hz0 : w0.heap.size = w.heap.size + 1 := by rw [← hw0]; simp
  have b1 := BxS.new w0 50 #[.int .i64 0, .int .i64 0, .int .i64 0, .slice none 0 0, .slice none 0 0, .int .i64 0, .int .i64 0, .int .i64 0, .int .i64 0, .int .i64 0, .int .i64 0, .int .i64 0]
  have g1 := World.grownBy_alloc w0 (.cells #[.int .i64 0, .int .i64 0, .int .i64 0, .slice none 0 0, .slice none 0 0, .int .i64 0, .int .i64 0, .int .i64 0, .int .i64 0, .int .i64 0, .int .i64 0, .int .i64 0] 50) none
  generalize hw1 : w0.alloc (.cells #[.int .i64 0, .int .i64 0, .int .i64 0, .slice none 0 0, .slice none 0 0, .int .i64 0, .int .i64 0, .int .i64 0, .int .i64 0, .int .i64 0, .int .i64 0, .int .i64 0] 50) = w1 at b1 g1
  rw [hz0] at b1
  have p0 := b0.keep g1 (by simp)
  have G1 := grown_trans g0 g1
  have sz1 := G1.size
  have sz1' : w.heap.size + 2 ≤ w1.heap.size := by rw [← hw1]; simp [hz0]
  have hM := rhmay_any d.cr d.nx d.ah X.sa X.sn X.sc F X.qa X.qn X.qc K d.ti d.pa d.tr d.li d.si d.pu d.hl w1 (hF1.keep G1) (hK1.keep G1)
  unfold hnA at hM
  rw [hq] at hM
  have i12 := Try.info_hn2
  unfold hnV
  obtain ⟨c0, c1, c2, c3, c4, c5, c6, c7, c8, c9, c10, c11⟩ := p0.cell12
  have s0 : True := trivial
  cases hB : hndB d with
  | false =>
    rw [hB] at hM
    have e1 : frV d = hd0 := if_neg (by rw [hB]; simp)
    have e2 : frE d = 11 := if_neg (by rw [hB]; simp)
    have e3 : frR d = [] := if_neg (by rw [hB]; simp)
    clear hB hq
    go_enter Try.func41, Try.ntmps41
    go_wp2_with (first
      | (go_at_call 66; have _t := s0; clear s0; refine hM.mono ?_; rintro e w2 ⟨rfl, y2⟩; have sz2 := y2.size; have p0 := p0.keep y2 (by simp); have p1 := b1.keep y2 (by simp); clear c0 c1 c2 c3 c4 c5 c6 c7 c8 c9 c10 c11; obtain ⟨c0, c1, c2, c3, c4, c5, c6, c7, c8, c9, c10, c11⟩ := p0.cell12; have s1 : True := trivial)
      | (have _t := s1; clear s1; refine wpList_stX _ rfl _ (.tmp 2) (.tmp 10) rfl (w.heap.size + 1) _ _ rfl rfl p1 i12 rfl (by simp [Value.oneCell']) ?_; intro w9 b9 g9))
    refine bodyPost_ret (results_cell3 rfl _ _ _ ⟨w.heap.size + 1, 0, none⟩ _ (.slice none 0 0) (.int .i64 11) rfl (BxS.load (t := 50) b9 Try.underlying50 i12) rfl rfl) rfl ?_
    rw [e1, e2, e3]
    exact ⟨hx0, none, 0, 0, rfl, ⟨RdW.nil _, RdW.nil _⟩, RdW.nil _, grown_far (grown_trans G1 y2) g9 (fun q e => by have e := Option.some.inj e; omega)⟩
  | true =>
    rw [hB] at hM
    obtain ⟨⟨c0', c1'⟩, n1, n2, f1, f2, _, _⟩ := hnd_ok hB
    have kH := fun wz (h : RdHd wz X d) => handOf2_any X d wz h (fun r hr => by have := f1 r hr; omega) (by omega) (fun r hr => by have := f2 r hr; omega) (by omega)
    unfold hnV at kH
    clear hq hF1 hF2 hK1 hK2
    cases hO : fOk d with
    | false =>
      have e1 : frV d = d := by unfold frV; rw [if_pos hB, if_neg (by rw [hO]; simp)]
      have e2 : frE d = 6 := by unfold frE; rw [if_pos hB, if_neg (by rw [hO]; simp)]
      have e3 : frR d = [] := by unfold frR; rw [if_pos hB, if_neg (by rw [hO]; simp)]
      unfold fOk at hO
      have hO := of_decide_eq_false hO
      have n15 : (d.hl != 15) = true := by simp; exact fun e => hO (.inl e)
      have n19 : (d.hl != 19) = true := by simp; exact fun e => hO (.inr e)
      clear hB hO
      rw [e1, e2, e3]
      clear e1 e2 e3
      go_enter Try.func41, Try.ntmps41
      go_wp2_with (first
        | (go_at_call 66; have _t := s0; clear s0; refine hM.mono ?_; rintro e w2 ⟨rfl, y2⟩; have sz2 := y2.size; have p0 := p0.keep y2 (by simp); have p1 := b1.keep y2 (by simp); clear c0 c1 c2 c3 c4 c5 c6 c7 c8 c9 c10 c11; obtain ⟨c0, c1, c2, c3, c4, c5, c6, c7, c8, c9, c10, c11⟩ := p0.cell12; have s1 : True := trivial)
        | (go_at_call 37; have _t := s1; clear s1; refine (kH _ (h.keep (grown_trans G1 y2))).mono ?_; rintro e w3 ⟨Y, rs, qs, rfl, hk, y3⟩; have sz3 := y3.size; have p0 := p0.keep y3 (by simp); have p1 := p1.keep y3 (by simp); clear c0 c1 c2 c3 c4 c5 c6 c7 c8 c9 c10 c11; have s2 : True := trivial)
        | (have _t := s2; clear s2; refine wpList_stX _ rfl _ (.tmp 1) (.tmp 12) rfl w.heap.size _ _ rfl rfl p0 i12 rfl (by simp [Value.oneCell']) ?_; intro w4 p4 u4; obtain ⟨c0, c1, c2, c3, c4, c5, c6, c7, c8, c9, c10, c11⟩ := p4.cell12; have p14 := p1.keep u4 (fun e => by have := Option.some.inj e; omega); have hk4 := hk.fz (fz_of u4) (fun x hx e => by have := hk.lo' x hx; have e := Option.some.inj e; omega); have s3 : True := trivial)
        | (have _t := s3; clear s3; refine wpList_stX _ rfl _ (.tmp 2) (.tmp 21) rfl (w.heap.size + 1) _ _ rfl rfl p14 i12 rfl (by simp [Value.oneCell']) ?_; intro w9 b9 g9))
      refine bodyPost_ret (results_cell3 rfl _ _ _ ⟨w.heap.size + 1, 0, none⟩ _ (.slice none 0 0) (.int .i64 6) rfl (BxS.load (t := 50) b9 Try.underlying50 i12) rfl rfl) rfl ?_
      have hk9 := hk4.fz (fz_of g9) (fun x hx e => by have := hk.lo' x hx; have := y2.size; have e := Option.some.inj e; omega)
      exact ⟨Y, none, 0, 0, rfl, hk9.rd, RdW.nil _, grown_far (grown_far (grown_trans (grown_trans G1 y2) y3) u4 (fun q e => by have e := Option.some.inj e; omega)) g9 (fun q e => by have e := Option.some.inj e; omega)⟩
    | true =>
      have e1 : frV d = ⟨d.cr, d.nx, d.ah, 0, d.pa, 0, d.li, d.pu, d.pu, 0, d.S, d.Q⟩ := by unfold frV; rw [if_pos hB, if_pos hO]
      have e2 : frE d = 0 := by unfold frE; rw [if_pos hB, if_pos hO]
      have e3 : frR d = [orL d.cr.toNat true true 0 [0]] := by unfold frR; rw [if_pos hB, if_pos hO]
      have eB : ordB d.cr true true 0 [0] = orL d.cr.toNat true true 0 [0] := by
        unfold ordB
        rw [if_pos]
        · rfl
        · unfold orE kwB
          simp [c0', c1']
      have kB := fun a n c wz (hR : Rd wz a n c [0]) => robytes_any d.cr true true 0 a n c [0] wz hR
      rw [eB] at kB
      unfold orA at kB
      unfold fOk at hO
      have hO := of_decide_eq_true hO
      clear hB
      rw [e1, e2, e3]
      clear e1 e2 e3 eB
      generalize orL d.cr.toNat true true 0 [0] = DD at *
      rcases hO with hO | hO
      · have HO : Hid _ := hO
        clear hO
        have nb : some (w.heap.size + 1) ≠ some w.heap.size := fun e => by have e := Option.some.inj e; omega
        go_enter Try.func41, Try.ntmps41
        go_wp2_with (first
          | (go_at_call 66; have _t := s0; clear s0; refine hM.mono ?_; rintro e w2 ⟨rfl, y2⟩; have sz2 := y2.size; have p0 := p0.keep y2 (by simp); have p1 := b1.keep y2 (by simp); clear c0 c1 c2 c3 c4 c5 c6 c7 c8 c9 c10 c11; obtain ⟨c0, c1, c2, c3, c4, c5, c6, c7, c8, c9, c10, c11⟩ := p0.cell12; have s1 : True := trivial)
          | (go_at_call 37; have _t := s1; clear s1; refine (kH _ (h.keep (grown_trans G1 y2))).mono ?_; rintro e w3 ⟨Y, rs, qs, rfl, hk, y3⟩; have sz3 := y3.size; have p0 := p0.keep y3 (by simp); have p1 := p1.keep y3 (by simp); clear c0 c1 c2 c3 c4 c5 c6 c7 c8 c9 c10 c11; have s2 : True := trivial)
          | (have _t := s2; clear s2; refine wpList_stX _ rfl _ (.tmp 1) (.tmp 12) rfl w.heap.size _ _ rfl rfl p0 i12 rfl (by simp [Value.oneCell']) ?_; intro w4 p4 u4; obtain ⟨c0, c1, c2, c3, c4, c5, c6, c7, c8, c9, c10, c11⟩ := p4.cell12; have p14 := p1.keep u4 (fun e => by have := Option.some.inj e; omega); have hk4 := hk.fz (fz_of u4) (fun x hx e => by have := hk.lo' x hx; have e := Option.some.inj e; omega); rw [HO.out] at c11; have s3 : True := trivial)
          | (have _t := s3; clear s3; refine wpList_stC _ rfl _ _ _ rfl w.heap.size 11 50 _ #[.int .i64 d.cr, .int .i64 d.nx, .int .i64 d.ah, .slice Y.sa Y.sn Y.sc, .slice Y.qa Y.qn Y.qc, .int .i64 d.ti, .int .i64 d.pa, .int .i64 d.tr, .int .i64 d.li, .int .i64 d.si, .int .i64 d.pu, .int .i64 0] (.int .i64 0) rfl rfl p4 (stc_err _ _ _) (by show 11 < 12; decide) rfl ?_; intro x3 p5 v3; clear c0 c1 c2 c3 c4 c5 c6 c7 c8 c9 c10 c11; obtain ⟨c0, c1, c2, c3, c4, c5, c6, c7, c8, c9, c10, c11⟩ := p5.cell12; have s4 : True := trivial)
          | (have _t := s4; clear s4; refine wpList_stC _ rfl _ _ _ rfl w.heap.size 5 50 _ #[.int .i64 d.cr, .int .i64 d.nx, .int .i64 d.ah, .slice Y.sa Y.sn Y.sc, .slice Y.qa Y.qn Y.qc, .int .i64 0, .int .i64 d.pa, .int .i64 d.tr, .int .i64 d.li, .int .i64 d.si, .int .i64 d.pu, .int .i64 0] (.int .i64 0) rfl rfl p5 (stc_int _ _ _) (by show 5 < 12; decide) rfl ?_; intro x4 p6 v4; clear c0 c1 c2 c3 c4 c5 c6 c7 c8 c9 c10 c11; obtain ⟨c0, c1, c2, c3, c4, c5, c6, c7, c8, c9, c10, c11⟩ := p6.cell12; have s5 : True := trivial)
          | (have _t := s5; clear s5; refine wpList_stC _ rfl _ _ _ rfl w.heap.size 7 50 _ #[.int .i64 d.cr, .int .i64 d.nx, .int .i64 d.ah, .slice Y.sa Y.sn Y.sc, .slice Y.qa Y.qn Y.qc, .int .i64 0, .int .i64 d.pa, .int .i64 0, .int .i64 d.li, .int .i64 d.si, .int .i64 d.pu, .int .i64 0] (.int .i64 0) rfl rfl p6 (stc_int _ _ _) (by show 7 < 12; decide) rfl ?_; intro x5 p7 v5; clear c0 c1 c2 c3 c4 c5 c6 c7 c8 c9 c10 c11; obtain ⟨c0, c1, c2, c3, c4, c5, c6, c7, c8, c9, c10, c11⟩ := p7.cell12; have s6 : True := trivial)
          | (have _t := s6; clear s6; refine wpList_stC _ rfl _ _ _ rfl w.heap.size 9 50 _ #[.int .i64 d.cr, .int .i64 d.nx, .int .i64 d.ah, .slice Y.sa Y.sn Y.sc, .slice Y.qa Y.qn Y.qc, .int .i64 0, .int .i64 d.pa, .int .i64 0, .int .i64 d.li, .int .i64 d.pu, .int .i64 d.pu, .int .i64 0] (.int .i64 d.pu) rfl rfl p7 (stc_int _ _ _) (by show 9 < 12; decide) rfl ?_; intro x6 p8 v6; clear c0 c1 c2 c3 c4 c5 c6 c7 c8 c9 c10 c11; obtain ⟨c0, c1, c2, c3, c4, c5, c6, c7, c8, c9, c10, c11⟩ := p8.cell12; have s7 : True := trivial)
          | (go_at_call 14; have _t := s7; clear s7; refine (kB _ _ _ _ (rd_nought _)).mono ?_; rintro e w8 ⟨a8, n8, k8, rfl, hA8, y8⟩; have yN := World.grownBy_alloc x6 (.cells #[.int .u8 0] 5) none; have Y8 := grown_trans yN y8; have p9 := p8.keep Y8 (by simp); clear c0 c1 c2 c3 c4 c5 c6 c7 c8 c9 c10 c11; obtain ⟨c0, c1, c2, c3, c4, c5, c6, c7, c8, c9, c10, c11⟩ := p9.cell12; have q8 := ((((p14.keep v3 nb).keep v4 nb).keep v5 nb).keep v6 nb).keep Y8 (by simp); have q9 := q8.keep (World.grownBy_alloc w8 (.cells #[.slice a8 n8 k8] 22) none) (by simp); have s8 : True := trivial)
          | (have _t := s8; clear s8; refine wpList_stX _ rfl _ (.tmp 2) (.tmp 36) rfl (w.heap.size + 1) _ _ rfl rfl q9 i12 rfl (by simp [Value.oneCell']) ?_; intro w9 b9 g9))
        refine bodyPost_ret (results_cell3 rfl _ _ _ ⟨w.heap.size + 1, 0, none⟩ _ (.slice (some ⟨w8.heap.size, 0, none⟩) 1 1) (.int .i64 0) rfl (BxS.load (t := 50) b9 Try.underlying50 i12) rfl rfl) rfl ?_
        have hbx : ∀ x, Hbl Y rs qs x → w.heap.size + 1 < x := fun x hx => by have := hk.lo' x hx; omega
        have z3 := v3.size
        have z4 := v4.size
        have z5 := v5.size
        have z6 := v6.size
        have z8 := Y8.size
        have z4' := u4.size
        have hk6 := (((hk4.fz (fz_of v3) (fun x hx e => by have := hbx x hx; have e := Option.some.inj e; omega)).fz (fz_of v4) (fun x hx e => by have := hbx x hx; have e := Option.some.inj e; omega)).fz (fz_of v5) (fun x hx e => by have := hbx x hx; have e := Option.some.inj e; omega)).fz (fz_of v6) (fun x hx e => by have := hbx x hx; have e := Option.some.inj e; omega)
        have yR := World.grownBy_alloc w8 (.cells #[.slice a8 n8 k8] 22) none
        have hk9 := ((hk6.keep Y8).keep yR).fz (fz_of g9) (fun x hx e => by have := hbx x hx; have e := Option.some.inj e; omega)
        have hlo : (x6.alloc (.cells #[.int .u8 0] 5)).heap.size = x6.heap.size + 1 := by simp
        have G4 := grown_far (grown_trans (grown_trans G1 y2) y3) u4 (fun q e => by have e := Option.some.inj e; omega)
        have G6 := grown_far (grown_far (grown_far (grown_far G4 v3 (fun q e => by have e := Option.some.inj e; omega)) v4 (fun q e => by have e := Option.some.inj e; omega)) v5 (fun q e => by have e := Option.some.inj e; omega)) v6 (fun q e => by have e := Option.some.inj e; omega)
        exact ⟨Y, some ⟨w8.heap.size, 0, none⟩, 1, 1, rfl, ⟨hk9.s.rd, hk9.q.rd⟩, rdW_one hA8 g9 (by omega) (by omega), grown_far (grown_trans (grown_trans G6 Y8) yR) g9 (fun q e => by have e := Option.some.inj e; omega)⟩
      · have HO : Hid _ := hO
        clear hO
        have nb : some (w.heap.size + 1) ≠ some w.heap.size := fun e => by have e := Option.some.inj e; omega
        go_enter Try.func41, Try.ntmps41
        go_wp2_with (first
          | (go_at_call 66; have _t := s0; clear s0; refine hM.mono ?_; rintro e w2 ⟨rfl, y2⟩; have sz2 := y2.size; have p0 := p0.keep y2 (by simp); have p1 := b1.keep y2 (by simp); clear c0 c1 c2 c3 c4 c5 c6 c7 c8 c9 c10 c11; obtain ⟨c0, c1, c2, c3, c4, c5, c6, c7, c8, c9, c10, c11⟩ := p0.cell12; have s1 : True := trivial)
          | (go_at_call 37; have _t := s1; clear s1; refine (kH _ (h.keep (grown_trans G1 y2))).mono ?_; rintro e w3 ⟨Y, rs, qs, rfl, hk, y3⟩; have sz3 := y3.size; have p0 := p0.keep y3 (by simp); have p1 := p1.keep y3 (by simp); clear c0 c1 c2 c3 c4 c5 c6 c7 c8 c9 c10 c11; have s2 : True := trivial)
          | (have _t := s2; clear s2; refine wpList_stX _ rfl _ (.tmp 1) (.tmp 12) rfl w.heap.size _ _ rfl rfl p0 i12 rfl (by simp [Value.oneCell']) ?_; intro w4 p4 u4; obtain ⟨c0, c1, c2, c3, c4, c5, c6, c7, c8, c9, c10, c11⟩ := p4.cell12; have p14 := p1.keep u4 (fun e => by have := Option.some.inj e; omega); have hk4 := hk.fz (fz_of u4) (fun x hx e => by have := hk.lo' x hx; have e := Option.some.inj e; omega); rw [HO.out] at c11; have s3 : True := trivial)
          | (have _t := s3; clear s3; refine wpList_stC _ rfl _ _ _ rfl w.heap.size 11 50 _ #[.int .i64 d.cr, .int .i64 d.nx, .int .i64 d.ah, .slice Y.sa Y.sn Y.sc, .slice Y.qa Y.qn Y.qc, .int .i64 d.ti, .int .i64 d.pa, .int .i64 d.tr, .int .i64 d.li, .int .i64 d.si, .int .i64 d.pu, .int .i64 0] (.int .i64 0) rfl rfl p4 (stc_err _ _ _) (by show 11 < 12; decide) rfl ?_; intro x3 p5 v3; clear c0 c1 c2 c3 c4 c5 c6 c7 c8 c9 c10 c11; obtain ⟨c0, c1, c2, c3, c4, c5, c6, c7, c8, c9, c10, c11⟩ := p5.cell12; have s4 : True := trivial)
          | (have _t := s4; clear s4; refine wpList_stC _ rfl _ _ _ rfl w.heap.size 5 50 _ #[.int .i64 d.cr, .int .i64 d.nx, .int .i64 d.ah, .slice Y.sa Y.sn Y.sc, .slice Y.qa Y.qn Y.qc, .int .i64 0, .int .i64 d.pa, .int .i64 d.tr, .int .i64 d.li, .int .i64 d.si, .int .i64 d.pu, .int .i64 0] (.int .i64 0) rfl rfl p5 (stc_int _ _ _) (by show 5 < 12; decide) rfl ?_; intro x4 p6 v4; clear c0 c1 c2 c3 c4 c5 c6 c7 c8 c9 c10 c11; obtain ⟨c0, c1, c2, c3, c4, c5, c6, c7, c8, c9, c10, c11⟩ := p6.cell12; have s5 : True := trivial)
          | (have _t := s5; clear s5; refine wpList_stC _ rfl _ _ _ rfl w.heap.size 7 50 _ #[.int .i64 d.cr, .int .i64 d.nx, .int .i64 d.ah, .slice Y.sa Y.sn Y.sc, .slice Y.qa Y.qn Y.qc, .int .i64 0, .int .i64 d.pa, .int .i64 0, .int .i64 d.li, .int .i64 d.si, .int .i64 d.pu, .int .i64 0] (.int .i64 0) rfl rfl p6 (stc_int _ _ _) (by show 7 < 12; decide) rfl ?_; intro x5 p7 v5; clear c0 c1 c2 c3 c4 c5 c6 c7 c8 c9 c10 c11; obtain ⟨c0, c1, c2, c3, c4, c5, c6, c7, c8, c9, c10, c11⟩ := p7.cell12; have s6 : True := trivial)
          | (have _t := s6; clear s6; refine wpList_stC _ rfl _ _ _ rfl w.heap.size 9 50 _ #[.int .i64 d.cr, .int .i64 d.nx, .int .i64 d.ah, .slice Y.sa Y.sn Y.sc, .slice Y.qa Y.qn Y.qc, .int .i64 0, .int .i64 d.pa, .int .i64 0, .int .i64 d.li, .int .i64 d.pu, .int .i64 d.pu, .int .i64 0] (.int .i64 d.pu) rfl rfl p7 (stc_int _ _ _) (by show 9 < 12; decide) rfl ?_; intro x6 p8 v6; clear c0 c1 c2 c3 c4 c5 c6 c7 c8 c9 c10 c11; obtain ⟨c0, c1, c2, c3, c4, c5, c6, c7, c8, c9, c10, c11⟩ := p8.cell12; have s7 : True := trivial)
          | (go_at_call 14; have _t := s7; clear s7; refine (kB _ _ _ _ (rd_nought _)).mono ?_; rintro e w8 ⟨a8, n8, k8, rfl, hA8, y8⟩; have yN := World.grownBy_alloc x6 (.cells #[.int .u8 0] 5) none; have Y8 := grown_trans yN y8; have p9 := p8.keep Y8 (by simp); clear c0 c1 c2 c3 c4 c5 c6 c7 c8 c9 c10 c11; obtain ⟨c0, c1, c2, c3, c4, c5, c6, c7, c8, c9, c10, c11⟩ := p9.cell12; have q8 := ((((p14.keep v3 nb).keep v4 nb).keep v5 nb).keep v6 nb).keep Y8 (by simp); have q9 := q8.keep (World.grownBy_alloc w8 (.cells #[.slice a8 n8 k8] 22) none) (by simp); have s8 : True := trivial)
          | (have _t := s8; clear s8; refine wpList_stX _ rfl _ (.tmp 2) (.tmp 36) rfl (w.heap.size + 1) _ _ rfl rfl q9 i12 rfl (by simp [Value.oneCell']) ?_; intro w9 b9 g9))
        refine bodyPost_ret (results_cell3 rfl _ _ _ ⟨w.heap.size + 1, 0, none⟩ _ (.slice (some ⟨w8.heap.size, 0, none⟩) 1 1) (.int .i64 0) rfl (BxS.load (t := 50) b9 Try.underlying50 i12) rfl rfl) rfl ?_
        have hbx : ∀ x, Hbl Y rs qs x → w.heap.size + 1 < x := fun x hx => by have := hk.lo' x hx; omega
        have z3 := v3.size
        have z4 := v4.size
        have z5 := v5.size
        have z6 := v6.size
        have z8 := Y8.size
        have z4' := u4.size
        have hk6 := (((hk4.fz (fz_of v3) (fun x hx e => by have := hbx x hx; have e := Option.some.inj e; omega)).fz (fz_of v4) (fun x hx e => by have := hbx x hx; have e := Option.some.inj e; omega)).fz (fz_of v5) (fun x hx e => by have := hbx x hx; have e := Option.some.inj e; omega)).fz (fz_of v6) (fun x hx e => by have := hbx x hx; have e := Option.some.inj e; omega)
        have yR := World.grownBy_alloc w8 (.cells #[.slice a8 n8 k8] 22) none
        have hk9 := ((hk6.keep Y8).keep yR).fz (fz_of g9) (fun x hx e => by have := hbx x hx; have e := Option.some.inj e; omega)
        have hlo : (x6.alloc (.cells #[.int .u8 0] 5)).heap.size = x6.heap.size + 1 := by simp
        have G4 := grown_far (grown_trans (grown_trans G1 y2) y3) u4 (fun q e => by have e := Option.some.inj e; omega)
        have G6 := grown_far (grown_far (grown_far (grown_far G4 v3 (fun q e => by have e := Option.some.inj e; omega)) v4 (fun q e => by have e := Option.some.inj e; omega)) v5 (fun q e => by have e := Option.some.inj e; omega)) v6 (fun q e => by have e := Option.some.inj e; omega)
        exact ⟨Y, some ⟨w8.heap.size, 0, none⟩, 1, 1, rfl, ⟨hk9.s.rd, hk9.q.rd⟩, rdW_one hA8 g9 (by omega) (by omega), grown_far (grown_trans (grown_trans G6 Y8) yR) g9 (fun q e => by have e := Option.some.inj e; omega)⟩
end Go.Proofs.Ytnnoeeakkpaocaa
