import Derived.Test.YtnpkmjdlohdieaaUVS
import Derived.Test.YtnpkmjdlohdieaaUGu
import Derived.Test.YtnpkmjdlohdieaaUSg
import Derived.Deep.DeepCutAuto
import Derived.Deep.CutBlock
namespace Go.Proofs.Ytnpkmjdlohdieaa
open Go.RowKit
set_option maxRecDepth 100000
set_option linter.unusedVariables false
set_option linter.unusedSimpArgs false

theorem sts_at (L : List ByteArray) (i : Nat) (hi : i < L.length) : (sts L)[i]? = some (.string (L.getD i ⟨#[]⟩)) := by
  unfold sts
  rw [List.getElem?_map, List.getElem?_eq_getElem hi, List.getD_eq_getElem?_getD, List.getElem?_eq_getElem hi]; rfl
theorem vigilOf2_any (A : Va) (D : Vi) (w : World) (hV : RdVg w A D) (h1 : A.nb ≤ 17592186043904) (h2 : A.np ≤ 140737488351232) (h3 : A.nt ≤ 17592186043904) :
    Calls Try.prog 15 #[.agg (vgA D A)] w fun e w' => ∃ A' : Va, e = .returned (.agg (vgA D A')) ∧ OwVg w' w.heap.size A' D ∧ w.grownBy w' none := by
  unfold vgA
  have b0 := BxS.new w 29 #[.bool D.sf, .int .i64 D.wy, .slice A.ab A.nb A.cb, .slice A.ap A.np A.cp, .int .i64 D.qu, .slice A.at' A.nt A.ct]
  have g0 := World.grownBy_alloc w (.cells #[.bool D.sf, .int .i64 D.wy, .slice A.ab A.nb A.cb, .slice A.ap A.np A.cp, .int .i64 D.qu, .slice A.at' A.nt A.ct] 29) none
  generalize hw0 : w.alloc (.cells #[.bool D.sf, .int .i64 D.wy, .slice A.ab A.nb A.cb, .slice A.ap A.np A.cp, .int .i64 D.qu, .slice A.at' A.nt A.ct] 29) = w0 at b0 g0
  have hz0 : w0.heap.size = w.heap.size + 1 := by rw [← hw0]; simp
  have b1 := BxS.new w0 29 #[.bool false, .int .i64 0, .slice none 0 0, .slice none 0 0, .int .i64 0, .slice none 0 0]
  have g1 := World.grownBy_alloc w0 (.cells #[.bool false, .int .i64 0, .slice none 0 0, .slice none 0 0, .int .i64 0, .slice none 0 0] 29) none
  generalize hw1 : w0.alloc (.cells #[.bool false, .int .i64 0, .slice none 0 0, .slice none 0 0, .int .i64 0, .slice none 0 0] 29) = w1 at b1 g1
  rw [hz0] at b1
  have hz1 : w1.heap.size = w.heap.size + 2 := by rw [← hw1]; simp [hz0]
  have p1 := b0.keep g1 (by simp)
  have G1 := grown_trans g0 g1
  have hV1 := hV.keep G1
  obtain ⟨c0, c1, c2, c3, c4, c5⟩ := p1.cell6
  have i6 := Try.info_vg
  have ngb : some (w.heap.size + 1) ≠ some w.heap.size := fun e => by have := Option.some.inj e; omega
  have s0 : True := trivial
  go_enter Try.func15, Try.ntmps15
  go_wp2_with (first
    | (at_builtin; have _t := s0; clear s0; refine wpList_apX Try.elI rfl _ _ rfl none 0 0 w1.heap.size [] rfl (AnsX.nil0 _ _ _) (Nat.le_refl _) A.ab A.nb A.cb _ rfl hV1.b (by omega) (by omega) ?_; intro aB cB w2 AB u2; rw [Nat.zero_add, List.nil_append] at AB; rw [Nat.zero_add]; have u2 : w1.grownBy w2 none := u2; have p2 := p1.keep u2 (by simp); have q2 := b1.keep u2 (by simp); have s1 : True := trivial)
    | (have _t := s1; clear s1; refine wpList_stC _ rfl _ _ _ rfl w.heap.size 2 29 _ #[.bool D.sf, .int .i64 D.wy, .slice aB A.nb cB, .slice A.ap A.np A.cp, .int .i64 D.qu, .slice A.at' A.nt A.ct] (.slice aB A.nb cB) rfl rfl p2 (stc_slI _ _ _ _ _) (by show 2 < 6; decide) rfl ?_; intro w3 p3 u3; have q3 := q2.keep u3 ngb; clear c0 c1 c2 c3 c4 c5; obtain ⟨c0, c1, c2, c3, c4, c5⟩ := p3.cell6; have B3 := AB.kept u3 (ne_of_some (fun x e e2 => by have := AB.new x e; have e2 : w.heap.size = x := Option.some.inj e2; omega)); have G3 := grown_far (grown_trans G1 u2) u3 (fun q e => by have e : w.heap.size = q := Option.some.inj e; omega); have hV3 := hV.keep G3; have s2 : True := trivial)
    | (at_builtin; have _t := s2; clear s2; refine wpList_apX Try.elH rfl _ _ rfl none 0 0 w3.heap.size [] rfl (AnsX.nil0 _ _ _) (Nat.le_refl _) A.ap A.np A.cp _ rfl hV3.p (by omega) (by omega) ?_; intro aP cP w4 AP u4; rw [Nat.zero_add, List.nil_append] at AP; rw [Nat.zero_add]; have u4 : w3.grownBy w4 none := u4; have p4 := p3.keep u4 (by simp); have q4 := q3.keep u4 (by simp); have B4 := B3.keep u4; have s3 : True := trivial)
    | (have _t := s3; clear s3; refine wpList_stC _ rfl _ _ _ rfl w.heap.size 3 29 _ #[.bool D.sf, .int .i64 D.wy, .slice aB A.nb cB, .slice aP A.np cP, .int .i64 D.qu, .slice A.at' A.nt A.ct] (.slice aP A.np cP) rfl rfl p4 (stc_slH _ _ _ _ _) (by show 3 < 6; decide) rfl ?_; intro w5 p5 u5; have q5 := q4.keep u5 ngb; clear c0 c1 c2 c3 c4 c5; obtain ⟨c0, c1, c2, c3, c4, c5⟩ := p5.cell6; have z3 := G3.size; have z13 := u2.size; have z33 := u3.size; have P5 := AP.kept u5 (ne_of_some (fun x e e2 => by have := AP.new x e; have e2 : w.heap.size = x := Option.some.inj e2; omega)); have B5 := B4.kept u5 (ne_of_some (fun x e e2 => by have := AB.new x e; have e2 : w.heap.size = x := Option.some.inj e2; omega)); have G5 := grown_far (grown_trans G3 u4) u5 (fun q e => by have e : w.heap.size = q := Option.some.inj e; omega); have hV5 := hV.keep G5; have s4 : True := trivial)
    | (at_builtin; have _t := s4; clear s4; refine wpList_apX Try.elI rfl _ _ rfl none 0 0 w5.heap.size [] rfl (AnsX.nil0 _ _ _) (Nat.le_refl _) A.at' A.nt A.ct _ rfl hV5.t (by omega) (by omega) ?_; intro aT cT w6 AT u6; rw [Nat.zero_add, List.nil_append] at AT; rw [Nat.zero_add]; have u6 : w5.grownBy w6 none := u6; have p6 := p5.keep u6 (by simp); have q6 := q5.keep u6 (by simp); have B6 := B5.keep u6; have P6 := P5.keep u6; have s5 : True := trivial)
    | (have _t := s5; clear s5; refine wpList_stC _ rfl _ _ _ rfl w.heap.size 5 29 _ #[.bool D.sf, .int .i64 D.wy, .slice aB A.nb cB, .slice aP A.np cP, .int .i64 D.qu, .slice aT A.nt cT] (.slice aT A.nt cT) rfl rfl p6 (stc_slI _ _ _ _ _) (by show 5 < 6; decide) rfl ?_; intro w7 p7 u7; have q7 := q6.keep u7 ngb; clear c0 c1 c2 c3 c4 c5; obtain ⟨c0, c1, c2, c3, c4, c5⟩ := p7.cell6; have z5 := u5.size; have z4 := u4.size; have T7 := AT.kept u7 (ne_of_some (fun x e e2 => by have := AT.new x e; have e2 : w.heap.size = x := Option.some.inj e2; omega)); have B7 := B6.kept u7 (ne_of_some (fun x e e2 => by have := AB.new x e; have e2 : w.heap.size = x := Option.some.inj e2; omega)); have P7 := P6.kept u7 (ne_of_some (fun x e e2 => by have := AP.new x e; have e2 : w.heap.size = x := Option.some.inj e2; omega)); have G7 := grown_far (grown_trans G5 u6) u7 (fun q e => by have e : w.heap.size = q := Option.some.inj e; omega); have s6 : True := trivial)
    | (have _t := s6; clear s6; refine wpList_stX _ rfl _ (.tmp 2) (.tmp 15) rfl (w.heap.size + 1) _ _ rfl rfl q7 i6 rfl (by simp [Value.oneCell']) ?_; intro w8 q8 u8))
  refine bodyPost_ret (results_cell1 rfl _ _ _ ⟨w.heap.size + 1, 0, none⟩ _ rfl (BxS.load (t := 29) q8 Try.underlying29 i6)) rfl ?_
  have z6 := u6.size
  have z7 := u7.size
  refine ⟨⟨aB, A.nb, cB, aP, A.np, cP, aT, A.nt, cT⟩, rfl, ⟨(B7.kept u8 (ne_of_some (fun x e e2 => by have := AB.new x e; have e2 : w.heap.size + 1 = x := Option.some.inj e2; omega))).low (by omega), (P7.kept u8 (ne_of_some (fun x e e2 => by have := AP.new x e; have e2 : w.heap.size + 1 = x := Option.some.inj e2; omega))).low (by omega), (T7.kept u8 (ne_of_some (fun x e e2 => by have := AT.new x e; have e2 : w.heap.size + 1 = x := Option.some.inj e2; omega))).low (by omega), fun x e e2 => ?_⟩, grown_far G7 u8 (fun q e => by have e : w.heap.size + 1 = q := Option.some.inj e; omega)⟩
  have h5 := AB.lt x e
  have h6 := AT.new x e2
  omega
theorem wpList_psY {t e : TypeId} {z : Value} {by' : Nat} (E : ElT t e z by') (w : World) (u : Value) (h1 : u.oneCell' = true) {ops : Array Oper} {rest : List Oper} {o : Oper} {a : Act} {Q : Exit → Act → World → Prop} (hg : o.guard = none) (s x : Operand)
    (hop : o.op = Op.call { callee := .builtin .append, args := #[s, x], argTypes := #[t, t] }) (ao : Option Addr) (m co lo : Nat) (D : List Value) (hs : a.eval s = .slice ao m co)
    (hA : AnsX e w lo ao m co D) (hlo : lo ≤ w.heap.size) (hx : a.eval x = .slice (some ⟨w.heap.size, 0, none⟩) 1 1) (hb : (m + 1) * by' ≤ 140737488351400) (hb3 : m + 1 ≤ 140737488351400)
    (hK : ∀ gx cx w', AnsX e w' lo (some ⟨gx, 0, none⟩) (m + 1) cx (D ++ [u]) → w.grownBy w' (Value.slice ao m co).ownBlock → ((Value.slice ao m co).ownBlock = some gx ∨ w.heap.size ≤ gx) → wpList Try.prog ops Q rest (a.put o.dst (.slice (some ⟨gx, 0, none⟩) (m + 1) cx)) w') :
    wpList Try.prog ops Q (o :: rest) a (w.alloc (.cells #[u] e)) := by
  obtain ⟨i0, hi, hz0, hz1, hz2⟩ := info_parts E.inf
  have gA := World.grownBy_alloc w (.cells #[u] e) none
  have hR := rdX_one w e u h1
  have hpos := E.pos
  refine wpList_apS _ hg s x t e i0 z 1 by' E.und hi hz0 hz1 hz2 E.one (by decide) hop (.slice ao m co) m D hs (hA.own.alloc _) ⟨w.heap.size, 0, none⟩ 1 1 [u] hx rfl ?_ hR.one (by decide) (by unfold maxLen; omega) (by omega) ?_
  · intro j v hv
    obtain ⟨b, off, e', _, hc⟩ := hR.at' (by decide)
    cases e'
    rw [addr_add]
    exact hc j v hv
  · intro g c w' hgx hgr hown
    have hsz := gA.size
    refine hK g c w' ⟨hown, ?_, fun y hy => ?_⟩ (grown_trans (grown_weak gA _) hgr) ?_
    · intro v hv
      rcases List.mem_append.1 hv with h | h
      · exact hA.one v h
      · exact hR.one v h
    · have e' : g = y := Option.some.inj hy
      subst e'
      rcases hgx with h | h
      · exact hA.new g h
      · omega
    · rcases hgx with h | h
      · exact .inl h
      · exact .inr (by omega)
theorem over2_any (mk : Int) (a : Option Addr) (n cap lo : Nat) (S : List Int) (w : World) (h : AnsX 3 w lo a n cap (zys S)) (hn : n ≤ 17592186043904) :
    Calls Try.prog 28 #[.slice a n cap, .int .i64 mk] w fun e w' => e = .returned (.tuple #[]) ∧ w.grownBy w' (Value.slice a n cap).ownBlock := by
  have hm2 := h.max
  unfold maxLen at hm2
  go_enter Try.func28, Try.ntmps28
  go_wp2
  go_loopw [4] (fun i wr => ∃ (k : Nat) (X : List Value), k ≤ n ∧ i = .int .i64 k ∧ w.grownBy wr (Value.slice a n cap).ownBlock ∧ AnsX 3 wr lo a n cap X) (fun i _ => n - (intOf i).toNat)
  case atStart => exact ⟨0, _, by omega, rfl, World.grownBy.refl _ _, h⟩
  case round =>
    obtain ⟨k, X, hk, rfl, hgr, hA⟩ := hrel
    by_cases hlt : k < n
    · have hlt' : (k : Int) < (n : Int) := by omega
      rcases hA.cases with ⟨_, h0, _⟩ | ⟨g, e, _, _⟩
      · omega
      subst e
      have hc := hA.cell k _ (List.getElem?_eq_getElem (by rw [hA.len]; exact hlt))
      have hf := hA.free k
      have R := hA.set k (.int .i64 mk) rfl
      go_wp2
      go_roundw
      case rel => exact ⟨k + 1, _, by omega, by go_num, grown_trans hgr (grown_set _ _ _ _), R⟩
      case measure => simp [intOf]; omega
    · have hlt' : ¬ (k : Int) < (n : Int) := by omega
      go_wp2
      go_loopw [0, 5] (fun v i wq => ∃ (q : Nat) (b : Option Addr) (m c : Nat) (Y : List Value), q ≤ 20 ∧ m = n + q ∧ i = .int .i64 q ∧ v = .slice b m c ∧ w.grownBy wq (Value.slice a n cap).ownBlock ∧ AnsX 3 wq 0 b m c Y ∧ (∀ y, (Value.slice b m c).ownBlock = some y → (Value.slice a n cap).ownBlock = some y ∨ w.heap.size ≤ y)) (fun _ i _ => 20 - (intOf i).toNat)
      case atStart => exact ⟨0, a, n, cap, X, by omega, rfl, rfl, rfl, hgr, hA.low (Nat.zero_le _), fun y hy => .inl hy⟩
      case round =>
        obtain ⟨q, b, m, c, Y, hq, hmq, rfl, rfl, hgq, hY, hb⟩ := hrel
        by_cases hlq : q < 20
        · have hlq' : (q : Int) < 20 := by omega
          have hsz := hgq.size
          go_wp2_with (at_builtin; refine wpList_psY Try.elI wr (.int .i64 mk) rfl rfl _ _ rfl b m c 0 Y rfl hY (Nat.zero_le _) rfl (by omega) (by omega) ?_; intro gx cx w2 hA2 hg2 hx2)
          go_roundw
          case rel =>
            refine ⟨q + 1, some ⟨gx, 0, none⟩, m + 1, cx, _, by omega, by omega, by go_num, by rw [hmq], ?_, hA2, ?_⟩
            · cases hbo : (Value.slice b m c).ownBlock with
              | none => rw [hbo] at hg2; exact grown_trans hgq (grown_weak hg2 _)
              | some y => rw [hbo] at hg2; exact grown_new hgq hg2 (hb y hbo)
            · intro y hy
              have e : gx = y := Option.some.inj hy
              subst e
              rcases hx2 with h | h
              · exact hb gx h
              · exact .inr (by omega)
          case measure => simp [intOf]; omega
        · have hlq' : ¬ (q : Int) < 20 := by omega
          go_wp2
          go_end0
          exact ⟨rfl, hgq⟩
theorem overVigil2_any (A : Va) (D : Vi) (lo : Nat) (w : World) (h : OwVg w lo A D) (h1 : A.nb ≤ 17592186043904) (h2 : A.nt ≤ 17592186043904) :
    Calls Try.prog 13 #[.agg (vgA D A)] w fun e w' => e = .returned (.tuple #[]) ∧ Fz (Vbl A) w w' := by
  have b0 := BxS.new w 29 (vgA D A)
  have g0 := World.grownBy_alloc w (.cells (vgA D A) 29) none
  generalize hw0 : w.alloc (.cells (vgA D A) 29) = w0 at b0 g0
  have hz0 : w0.heap.size = w.heap.size + 1 := by rw [← hw0]; simp
  have hhi := h.hi
  have h0 := h.keep g0
  have hO1 := over2_any (-7) A.ab A.nb A.cb lo D.bd w0 h0.b h1
  have hO2 := fun wz (hz : w0.grownBy wz (Value.slice A.ab A.nb A.cb).ownBlock) => over2_any (-7) A.at' A.nt A.ct lo D.tr wz (h0.t.kept hz (by
    cases hb : (Value.slice A.at' A.nt A.ct).ownBlock with
    | none => exact .inl rfl
    | some y => exact .inr fun e => h0.ne y e.symm hb)) h2
  have hpne : ∀ (r : Option Nat), (∀ g, r = some g → ∀ y, (Value.slice A.ap A.np A.cp).ownBlock = some y → y ≠ g) → (Value.slice A.ap A.np A.cp).ownBlock = none ∨ (Value.slice A.ap A.np A.cp).ownBlock ≠ r := by
    intro r hr
    cases hb : (Value.slice A.ap A.np A.cp).ownBlock with
    | none => exact .inl rfl
    | some y => exact .inr fun e => hr y e.symm y hb rfl
  have ap1 := ans_apart h0.b h0.p (by decide)
  have ap2 := ans_apart h0.t h0.p (by decide)
  have hmx := h0.p.max
  unfold maxLen at hmx
  unfold vgA at hw0 b0 ⊢
  obtain ⟨c0, c1, c2, c3, c4, c5⟩ := b0.cell6
  have bne : ∀ (r : Option Nat), (∀ g, r = some g → Vbl A g) → some w.heap.size ≠ r := by
    intro r hr e
    have := hhi w.heap.size (hr _ e.symm)
    omega
  have t0 : True := trivial
  go_enter Try.func13, Try.ntmps13
  go_wp2_with (first
    | (go_at_call 28; have _t := t0; clear t0; refine hO1.mono ?_; rintro e w2 ⟨rfl, g2⟩; clear c0 c1 c2 c3 c4 c5; have b2 := b0.keep g2 (bne _ (fun g e => .inl e)); obtain ⟨c0, c1, c2, c3, c4, c5⟩ := b2.cell6; have t1 : True := trivial)
    | (go_at_call 28; have _t := t1; clear t1; refine (hO2 _ g2).mono ?_; rintro e w3 ⟨rfl, g3⟩; clear c0 c1 c2 c3 c4 c5; have b3 := b2.keep g3 (bne _ (fun g e => .inr (.inr e)))))
  have hp3 := (h0.p.kept g2 (hpne _ (fun g e y hy he => ap1 g e (he ▸ hy)))).kept g3 (hpne _ (fun g e y hy he => ap2 g e (he ▸ hy)))
  have F3 : Fz (Vbl A) w w3 := (((Fz.refl _ w).step g0 (fun k e _ => by cases e)).step g2 (fun k e _ => .inl e)).step g3 (fun k e _ => .inr (.inr e))
  clear hO1 hO2 ap1 ap2
  go_loopw [2] (fun i wr => ∃ (k : Nat) (H : List Bool), k ≤ A.np ∧ i = .int .i64 k ∧ w3.grownBy wr (Value.slice A.ap A.np A.cp).ownBlock ∧ AnsX 4 wr lo A.ap A.np A.cp (hls H)) (fun i _ => A.np - (intOf i).toNat)
  case atStart => exact ⟨0, D.tp, by omega, rfl, World.grownBy.refl _ _, hp3⟩
  case round =>
    obtain ⟨k, H, hk, rfl, hgr, hA⟩ := hrel
    obtain ⟨c0, c1, c2, c3, c4, c5⟩ := (b3.keep hgr (bne _ (fun g e => .inr (.inl e)))).cell6
    by_cases hlt : k < A.np
    · have hlt' : (k : Int) < (A.np : Int) := by omega
      rcases hA.cases with ⟨_, hx, _⟩ | ⟨g, e, _, hgl⟩
      · omega
      have hln : H.length = A.np := by rw [← hls_len]; exact hA.len
      generalize A.ap = zp at *
      generalize A.np = zn at *
      generalize A.cp = zc at *
      subst e
      have hc := hA.cell k _ (hls_at H k (by omega))
      have hf := hA.free k
      have R := hA.set k (.bool (!hat H k)) rfl
      rw [show (hls H).set k (.bool (!hat H k)) = hls (H.set k (!hat H k)) by simp [hls, List.map_set]] at R
      generalize hat H k = hb at *
      go_wp2
      refine wp_regionL (fun wz => wz.cell? ⟨w.heap.size, 3, none⟩ = some (.slice (some ⟨g, 0, none⟩) zn zc) ∧ wz.cell? ⟨g, k, none⟩ = some (.bool hb)) [10] #[false, false, false, false, false, false, false, false, false, false, false] rfl (by kernel_rfl) ?_
      refine wpAnyZ_take [10] 0 (.pointer (some ⟨w.heap.size, 3, none⟩)) rfl (by kernel_rfl) (fun _ _ _ h => h) ⟨c3, hc⟩ rfl (by rintro wz ⟨z3, zk⟩; go_simp) ?_
      try simp only [List.getElem_toArray, List.getElem_cons_succ, List.getElem_cons_zero, Act.put, List.setIfInBounds_toArray, List.set_cons_zero, List.set_cons_succ]
      refine wpAnyZ_take [10] 1 (.slice (some ⟨g, 0, none⟩) zn zc) rfl (by kernel_rfl) (fun _ _ _ h => h) ⟨c3, hc⟩ rfl (by rintro wz ⟨z3, zk⟩; go_simp) ?_
      try simp only [List.getElem_toArray, List.getElem_cons_succ, List.getElem_cons_zero, Act.put, List.setIfInBounds_toArray, List.set_cons_zero, List.set_cons_succ]
      refine wpAnyZ_take [10] 2 (.int .i64 (k : Int)) rfl (by kernel_rfl) (fun _ _ _ h => h) ⟨c3, hc⟩ rfl (by rintro wz ⟨z3, zk⟩; go_simp) ?_
      try simp only [List.getElem_toArray, List.getElem_cons_succ, List.getElem_cons_zero, Act.put, List.setIfInBounds_toArray, List.set_cons_zero, List.set_cons_succ]
      refine wpAnyZ_take [10] 3 (.pointer (some ⟨w.heap.size, 3, none⟩)) rfl (by kernel_rfl) (fun _ _ _ h => h) ⟨c3, hc⟩ rfl (by rintro wz ⟨z3, zk⟩; go_simp) ?_
      try simp only [List.getElem_toArray, List.getElem_cons_succ, List.getElem_cons_zero, Act.put, List.setIfInBounds_toArray, List.set_cons_zero, List.set_cons_succ]
      refine wpAnyZ_take [10] 4 (.slice (some ⟨g, 0, none⟩) zn zc) rfl (by kernel_rfl) (fun _ _ _ h => h) ⟨c3, hc⟩ rfl (by rintro wz ⟨z3, zk⟩; go_simp) ?_
      try simp only [List.getElem_toArray, List.getElem_cons_succ, List.getElem_cons_zero, Act.put, List.setIfInBounds_toArray, List.set_cons_zero, List.set_cons_succ]
      refine wpAnyZ_take [10] 5 (.int .i64 (k : Int)) rfl (by kernel_rfl) (fun _ _ _ h => h) ⟨c3, hc⟩ rfl (by rintro wz ⟨z3, zk⟩; go_simp) ?_
      try simp only [List.getElem_toArray, List.getElem_cons_succ, List.getElem_cons_zero, Act.put, List.setIfInBounds_toArray, List.set_cons_zero, List.set_cons_succ]
      refine wpAnyZ_take [10] 6 (.pointer (some ⟨g, k, none⟩)) rfl (by kernel_rfl) (fun _ _ _ h => h) ⟨c3, hc⟩ rfl (by rintro wz ⟨z3, zk⟩; go_simp) ?_
      try simp only [List.getElem_toArray, List.getElem_cons_succ, List.getElem_cons_zero, Act.put, List.setIfInBounds_toArray, List.set_cons_zero, List.set_cons_succ]
      refine wpAnyZ_take [10] 7 (.bool hb) rfl (by kernel_rfl) (fun _ _ _ h => h) ⟨c3, hc⟩ rfl (by rintro wz ⟨z3, zk⟩; go_simp) ?_
      try simp only [List.getElem_toArray, List.getElem_cons_succ, List.getElem_cons_zero, Act.put, List.setIfInBounds_toArray, List.set_cons_zero, List.set_cons_succ]
      refine wpAnyZ_take [10] 8 (.bool (!hb)) rfl (by kernel_rfl) (fun _ _ _ h => h) ⟨c3, hc⟩ rfl (by rintro wz ⟨z3, zk⟩; go_simp) ?_
      try simp only [List.getElem_toArray, List.getElem_cons_succ, List.getElem_cons_zero, Act.put, List.setIfInBounds_toArray, List.set_cons_zero, List.set_cons_succ]
      refine wpAnyZ_take [10] 9 (.pointer (some ⟨g, k, none⟩)) rfl (by kernel_rfl) (fun _ _ _ h => h) ⟨c3, hc⟩ rfl (by rintro wz ⟨z3, zk⟩; go_simp) ?_
      try simp only [List.getElem_toArray, List.getElem_cons_succ, List.getElem_cons_zero, Act.put, List.setIfInBounds_toArray, List.set_cons_zero, List.set_cons_succ]
      refine wpAnyZ_oneB 10 rfl (by kernel_rfl) (fun K hK => ?_)
      refine step_skip (w' := wr.drew.setCell ⟨g, k, none⟩ (.bool (!hb))) rfl (by go_simp) ?_
      refine hK _ _ (fun h => absurd (by decide) h) ?_
      try simp only [List.getElem_toArray, List.getElem_cons_succ, List.getElem_cons_zero, Act.put, List.setIfInBounds_toArray, List.set_cons_zero, List.set_cons_succ]
      refine wpAnyZ_doneB (by kernel_rfl) ?_ _
      go_wp2
      exact ⟨⟨k + 1, _, by omega, by go_num, grown_trans (grown_trans hgr (grown_set _ _ _ _)) (grown_drew _ _), R.keep (grown_drew _ _)⟩, by simp [intOf]; omega⟩
    · have hlt' : ¬ (k : Int) < (A.np : Int) := by omega
      go_wp2
      go_end0
      exact ⟨rfl, F3.step hgr (fun k e _ => .inr (.inl e))⟩
set_option maxHeartbeats 8000000 in
theorem guardOwn2_any (ma : Option Addr) (n mc : Nat) (si mo wi : Int) (sa : ByteArray) (F : Nat → Mo) (w : World) (hM : RdM w ma n mc F) (hb : n ≤ 2600000000000) : Calls Try.prog 6 #[.agg #[.slice ma n mc, .int .i64 si, .int .i64 mo, .int .i64 wi, .string sa]] w fun e w' => ∃ q c, e = .returned (.agg #[.slice q n c, .int .i64 si, .int .i64 mo, .int .i64 wi, .string sa]) ∧ RdM w' q n c F ∧ (∀ b off, q = some ⟨b, off, none⟩ → w.heap.size ≤ b) ∧ w.grownBy w' none := by
  have b0 := BxS.new w 24 #[.slice ma n mc, .int .i64 si, .int .i64 mo, .int .i64 wi, .string sa]
  have g0 := World.grownBy_alloc w (.cells #[.slice ma n mc, .int .i64 si, .int .i64 mo, .int .i64 wi, .string sa] 24) none
  generalize hw0 : w.alloc (.cells #[.slice ma n mc, .int .i64 si, .int .i64 mo, .int .i64 wi, .string sa] 24) = w0 at b0 g0
  have hz0 : w0.heap.size = w.heap.size + 1 := by rw [← hw0]; simp
  have b1 := BxS.new w0 24 #[.slice none 0 0, .int .i64 0, .int .i64 0, .int .i64 0, .string ⟨#[]⟩]
  have g1 := World.grownBy_alloc w0 (.cells #[.slice none 0 0, .int .i64 0, .int .i64 0, .int .i64 0, .string ⟨#[]⟩] 24) none
  generalize hw1 : w0.alloc (.cells #[.slice none 0 0, .int .i64 0, .int .i64 0, .int .i64 0, .string ⟨#[]⟩] 24) = w1 at b1 g1
  rw [hz0] at b1
  have b01 := b0.keep g1 (by simp)
  have G1 := grown_trans g0 g1
  obtain ⟨c0, c1, c2, c3, c4⟩ := b01.cell5
  have i5 := Try.info_gd
  have hz1 : w1.heap.size = w.heap.size + 2 := by rw [← hw1]; simp [hz0]
  have hM1 := hM.keep G1
  have t9 : True := trivial
  go_enter Try.func6, Try.ntmps6
  go_wp2_with (first
    | (at_builtin; refine wpList_clM rfl _ _ rfl rfl ma n mc F rfl hM1 hb ?_; intro q c w2 hM2 hq2 g2; have b2 := b01.keep g2 (by simp); have d2 := b1.keep g2 (by simp); have t2 : True := trivial)
    | (have _t := t2; refine wpList_stC _ rfl _ _ _ rfl w.heap.size 0 24 _ #[.slice q n c, .int .i64 si, .int .i64 mo, .int .i64 wi, .string sa] (.slice q n c) rfl rfl b2 (stc_slM _ _ _ _ _) (by show 0 < 5; decide) rfl ?_; clear t2; intro w3 b3 g3; have d3 := d2.keep g3 (fun e => by have := Option.some.inj e; omega); clear c0 c1 c2 c3 c4; obtain ⟨c0, c1, c2, c3, c4⟩ := b3.cell5; have t3 : True := trivial)
    | (have _t := t3; refine wpList_stX _ rfl _ (.tmp 2) (.tmp 7) rfl (w.heap.size + 1) _ _ rfl rfl d3 i5 rfl (by simp [Value.oneCell']) ?_; clear t3; intro w9 b9 g9))
  refine bodyPost_ret (results_cell1 rfl _ _ _ ⟨w.heap.size + 1, 0, none⟩ _ rfl (BxS.load (t := 24) b9 Try.underlying24 i5)) rfl ?_
  refine ⟨q, c, rfl, ?_, (fun b off e => by have := hq2 b off e; omega), grown_far (grown_far (grown_trans G1 g2) g3 (fun q e => by have e : w.heap.size = q := Option.some.inj e; omega)) g9 (fun q e => by have e : w.heap.size + 1 = q := Option.some.inj e; omega)⟩
  refine (hM2.kept g3 (fun b off e _ e2 => ?_)).kept g9 (fun b off e _ e2 => ?_)
  · have := hq2 b off e
    have e2 : b = w.heap.size := Option.some.inj e2
    omega
  · have := hq2 b off e
    have e2 : b = w.heap.size + 1 := Option.some.inj e2
    omega
set_option maxHeartbeats 1000000 in
theorem sameTexts_any (a b : Option Addr) (n m cap cap' : Nat) (H : List ByteArray) (w : World) (h : RdX w a n cap (sts H)) (k : RdX w b m cap' (sts H)) :
    Calls Try.prog 18 #[.slice a n cap, .slice b m cap'] w fun e w' => e = .returned (.bool true) ∧ w.grownBy w' none := by
  have e0 : n = m := by rw [← h.len, ← k.len]
  subst e0
  have hm1 := h.le; have hm2 := h.max
  unfold maxLen at hm2
  have hln : H.length = n := by rw [← sts_len]; exact h.len
  go_enter Try.func18, Try.ntmps18
  go_wp2
  go_loopw [5] (fun i wr => ∃ q : Nat, q ≤ n ∧ i = .int .i64 q ∧ w.grownBy wr none) (fun i _ => n - (intOf i).toNat)
  case atStart => exact ⟨0, by omega, rfl, World.grownBy.refl _ _⟩
  case round =>
    obtain ⟨q, hq, rfl, hgr⟩ := hrel
    by_cases hlt : q < n
    · obtain ⟨b1, o1, e1, _, hc1⟩ := (h.keep hgr).at' (by omega)
      obtain ⟨b2, o2, e2, _, hc2⟩ := (k.keep hgr).at' (by omega)
      subst e1
      subst e2
      have c1 := hc1 q _ (sts_at H q (by omega))
      have c2 := hc2 q _ (sts_at H q (by omega))
      have hqi : (q : Int) < (n : Int) := by omega
      clear hc1 hc2 h k
      generalize H.getD q ⟨#[]⟩ = x at *
      go_wp2
      go_quiet (fail)
      go_wp2
      go_roundw
      case rel => exact ⟨q + 1, by omega, by go_num, grown_trans hgr (grown_drewN _ _ _)⟩
      case measure => simp [intOf]; omega
    · go_wp2
      go_ret
      exact ⟨rfl, hgr⟩
theorem copied2_any (a : Option Addr) (n cap : Nat) (S : List Int) (w : World) (hp : RdX w a n cap (zys S)) (hn : n ≤ 17592186043904) :
    Calls Try.prog 16 #[.slice a n cap] w fun e w' => ∃ a' c', e = .returned (.slice a' n c') ∧ AnsX 3 w' w.heap.size a' n c' (zys S) ∧ w.grownBy w' none := by
  have hm1 := hp.le; have hm2 := hp.max
  unfold maxLen at hm2
  go_enter Try.func16, Try.ntmps16
  go_wp2_with (at_builtin; refine wpList_apX Try.elI rfl _ _ rfl none 0 0 w.heap.size [] rfl (AnsX.nil0 _ _ _) (Nat.le_refl _) a n cap _ rfl hp (by omega) (by omega) ?_; intro aB cB w2 AB u2; rw [Nat.zero_add, List.nil_append] at AB)
  go_ret
  exact ⟨aB, cB, by simp, AB, u2⟩

theorem below_grownX {w w' : World} (h : w.grownBy w' none) : Below w.heap.size w w' := (Below.refl _ _).grown h (Nat.le_refl _) (fun k hk => by cases hk)
set_option maxHeartbeats 64000000 in
theorem gs_t5 {u0 u1 u3 u4 u7 u8 u9 u10 u23 u24 u25 u26 u27 u28 u29 u30 u31 u32 u33 u34 u35 u36 u37 u38 u39 u40 u41 u42 u43 u44 u45 u46 u47 u48 u49 u50 u51 u52 u53 u54 u55 u56 u57 u58 u59 u60 u61 u62 u63 u64 u65 u66 u67 u68 u69 u70 u71 u72 u73 u74 u75 u76 u77 u78 u79 u80 u81 u82 u83 u84 u85 u86 u87 u88 u89 u90 u91 u92 u93 u94 u95 u96 u97 u98 u99 u100 u101 u102 u103 u104 u105 u106 u107 u108 u109 u110 u111 u112 u113 u114 u115 u116 u117 u118 u119 u120 u121 u122 u123 u124 u125 u126 u127 u128 u129 u130 u131 u132 u133 : Value} (w wd : World) (G : Gd) (F : Nat → Mo) (A A1 A2 A3 A4 : Va) (D W : Vi) (Vs : List Int) (L : List ByteArray) (g5 g6 g11 g14 g15 g17 g20 m2 m3 m4 Er : Nat) (va na q xa sa ta : Option Addr) (vn vc nn nc c xc sn sc tn tc : Nat)
    (b5 : BxS wd g5 24 #[.slice G.ma G.n G.mc, .int .i64 G.si, .int .i64 G.mo, .int .i64 G.wi, .string G.sa]) (b6 : BxS wd g6 29 #[.bool D.sf, .int .i64 D.wy, .slice A.ab A.nb A.cb, .slice A.ap A.np A.cp, .int .i64 D.qu, .slice A.at' A.nt A.ct]) (b11 : BxS wd g11 29 #[.bool W.sf, .int .i64 W.wy, .slice A1.ab A1.nb A1.cb, .slice A1.ap A1.np A1.cp, .int .i64 W.qu, .slice A1.at' A1.nt A1.ct]) (b14 : BxS wd g14 24 #[.slice q G.n c, .int .i64 G.si, .int .i64 G.mo, .int .i64 G.wi, .string G.sa]) (b15 : BxS wd g15 29 #[.bool D.sf, .int .i64 D.wy, .slice A2.ab A2.nb A2.cb, .slice A2.ap A2.np A2.cp, .int .i64 D.qu, .slice A2.at' A2.nt A2.ct]) (b17 : BxS wd g17 29 #[.bool W.sf, .int .i64 W.wy, .slice A3.ab A3.nb A3.cb, .slice A3.ap A3.np A3.cp, .int .i64 W.qu, .slice A3.at' A3.nt A3.ct]) (b20 : BxS wd g20 29 #[.bool W.sf, .int .i64 W.wy, .slice A4.ab A4.nb A4.cb, .slice A4.ap A4.np A4.cp, .int .i64 W.qu, .slice A4.at' A4.nt A4.ct])
    (hM : RdM wd G.ma G.n G.mc F) (hQ : RdM wd q G.n c F) (hV : RdVg wd A D) (h1 : RdVg wd A1 W) (h2 : OwVg wd m2 A2 D) (h3 : OwVg wd m3 A3 W) (h4 : OwVg wd m4 A4 W) (hX : RdX wd va vn vc (zys Vs)) (hXc : RdX wd xa vn xc (zys Vs))
    (hna : AnsX 9 wd w.heap.size na nn nc (sts L)) (hnl : ∀ x, (Value.slice na nn nc).ownBlock = some x → x < m2) (hs : AnsX 9 wd m3 sa sn sc (sts L)) (ht : AnsX 9 wd m4 ta tn tc (sts L)) (hsl : ∀ x, (Value.slice sa sn sc).ownBlock = some x → x < m4)
    (o1 : w.heap.size ≤ m2) (o2 : m2 ≤ m3) (o3 : m3 ≤ m4) (o4 : m4 ≤ wd.heap.size) (h2l : ∀ i, Vbl A2 i → i < m3) (h3l : ∀ i, Vbl A3 i → i < m4) (k15 : g15 < m3) (k20 : m4 ≤ g20)
    (z1 : A1.nb ≤ 1000 ∧ A1.np ≤ 1000 ∧ A1.nt ≤ 1000) (z2 : A2.nb ≤ 17592186043904 ∧ A2.nt ≤ 17592186043904) (z3 : A3.nb ≤ 1000 ∧ A3.nt ≤ 1000) (zs : sn ≤ 1000) (Gd : w.grownBy wd none) :
    Code.wp Try.prog (tailR 5 (Try.f4.body.getD .skip)) (bodyPost Try.prog Try.f4 (fun e w' => e = .returned (.bool true) ∧ Below w.heap.size w w')) (Act.mk (List.toArray (u0 :: u1 :: (.slice va vn vc) :: u3 :: u4 :: (.pointer (some ⟨g5, 0, none⟩)) :: (.pointer (some ⟨g6, 0, none⟩)) :: u7 :: u8 :: u9 :: u10 :: (.pointer (some ⟨g11, 0, none⟩)) :: (.slice na nn nc) :: (.int .i64 (Er : Int)) :: (.pointer (some ⟨g14, 0, none⟩)) :: (.pointer (some ⟨g15, 0, none⟩)) :: (.slice xa vn xc) :: (.pointer (some ⟨g17, 0, none⟩)) :: (.slice sa sn sc) :: (.int .i64 (Er : Int)) :: (.pointer (some ⟨g20, 0, none⟩)) :: (.slice ta tn tc) :: (.int .i64 (Er : Int)) :: u23 :: u24 :: u25 :: u26 :: u27 :: u28 :: u29 :: u30 :: u31 :: u32 :: u33 :: u34 :: u35 :: u36 :: u37 :: u38 :: u39 :: u40 :: u41 :: u42 :: u43 :: u44 :: u45 :: u46 :: u47 :: u48 :: u49 :: u50 :: u51 :: u52 :: u53 :: u54 :: u55 :: u56 :: u57 :: u58 :: u59 :: u60 :: u61 :: u62 :: u63 :: u64 :: u65 :: u66 :: u67 :: u68 :: u69 :: u70 :: u71 :: u72 :: u73 :: u74 :: u75 :: u76 :: u77 :: u78 :: u79 :: u80 :: u81 :: u82 :: u83 :: u84 :: u85 :: u86 :: u87 :: u88 :: u89 :: u90 :: u91 :: u92 :: u93 :: u94 :: u95 :: u96 :: u97 :: u98 :: u99 :: u100 :: u101 :: u102 :: u103 :: u104 :: u105 :: u106 :: u107 :: u108 :: u109 :: u110 :: u111 :: u112 :: u113 :: u114 :: u115 :: u116 :: u117 :: u118 :: u119 :: u120 :: u121 :: u122 :: u123 :: u124 :: u125 :: u126 :: u127 :: u128 :: u129 :: u130 :: u131 :: u132 :: u133 :: [])) []) wd := by
  let pq : Exit → Act → World → Prop := bodyPost Try.prog Try.f4 (fun _ _ => True)
  conv => enter [2]; whnf
  have kS := fun A B wz (h : RdVg wz A W) (k : RdVg wz B W) => sameVigil_any A B W wz h k
  have kD := fun A B wz (h : RdVg wz A D) (k : RdVg wz B D) => sameVigil_any A B D wz h k
  have kK := fun wz (h : RdVg wz A1 W) => vigilOf2_any A1 W wz h (by omega) (by omega) (by omega)
  have kO := fun (A : Va) lo wz (h : OwVg wz lo A W) h1 h2 => overVigil2_any A W lo wz h h1 h2
  have kP := fun (A : Va) lo wz (h : OwVg wz lo A D) h1 h2 => overVigil2_any A D lo wz h h1 h2
  unfold vgA at kS kD kK kO kP
  have hee : ((Er : Int) != (Er : Int)) = false := by simp
  obtain ⟨c0, c1, c2, c3, c4, c5⟩ := b17.cell6
  obtain ⟨d0, d1, d2, d3, d4, d5⟩ := b11.cell6
  have s0 : True := trivial
  go_wp2_with (first
    | (go_at_call 11; have _t := s0; clear s0; refine (kS A3 A1 _ h3.rd h1).mono ?_; rintro e w1 ⟨rfl, y1⟩; clear c0 c1 c2 c3 c4 c5 d0 d1 d2 d3 d4 d5; obtain ⟨c0, c1, c2, c3, c4, c5⟩ := (b20.keep y1 (by simp)).cell6; obtain ⟨d0, d1, d2, d3, d4, d5⟩ := (b11.keep y1 (by simp)).cell6; have s1 : True := trivial)
    | (go_at_call 11; have _t := s1; clear s1; refine (kS A4 A1 _ (h4.rd.keep y1) (h1.keep y1)).mono ?_; rintro e w2 ⟨rfl, y2⟩; have Y2 := grown_trans y1 y2; clear c0 c1 c2 c3 c4 c5 d0 d1 d2 d3 d4 d5; have s2 : True := trivial)
    | (go_at_call 18; have _t := s2; clear s2; refine (sameTexts_any sa na sn nn sc nc L _ (hs.rd.keep Y2) (hna.rd.keep Y2)).mono ?_; rintro e w3 ⟨rfl, y3⟩; have Y3 := grown_trans Y2 y3; have s3 : True := trivial)
    | (go_at_call 18; have _t := s3; clear s3; refine (sameTexts_any ta na tn nn tc nc L _ (ht.rd.keep Y3) (hna.rd.keep Y3)).mono ?_; rintro e w4 ⟨rfl, y4⟩; have Y4 := grown_trans Y3 y4; obtain ⟨c0, c1, c2, c3, c4⟩ := (b14.keep Y4 (by simp)).cell5; obtain ⟨d0, d1, d2, d3, d4⟩ := (b5.keep Y4 (by simp)).cell5; have s4 : True := trivial)
    | (go_at_call 12; have _t := s4; clear s4; refine (sameGuard_any q G.ma G.n c G.mc G.si G.mo G.wi G.sa F _ (hQ.keep Y4) (hM.keep Y4)).mono ?_; rintro e w5 ⟨rfl, y5⟩; have Y5 := grown_trans Y4 y5; clear c0 c1 c2 c3 c4 d0 d1 d2 d3 d4; obtain ⟨c0, c1, c2, c3, c4, c5⟩ := (b15.keep Y5 (by simp)).cell6; obtain ⟨d0, d1, d2, d3, d4, d5⟩ := (b6.keep Y5 (by simp)).cell6; have s5 : True := trivial)
    | (go_at_call 11; have _t := s5; clear s5; refine (kD A2 A _ (h2.rd.keep Y5) (hV.keep Y5)).mono ?_; rintro e w6 ⟨rfl, y6⟩; have Y6 := grown_trans Y5 y6; clear c0 c1 c2 c3 c4 c5 d0 d1 d2 d3 d4 d5; have s6 : True := trivial)
    | (go_at_call 19; have _t := s6; clear s6; refine (sameInts_any xa va vn vn xc vc Vs _ (hXc.keep Y6).rdI (hX.keep Y6).rdI).mono ?_; rintro e w7 ⟨rfl, y7⟩; have Y7 := grown_trans Y6 y7; obtain ⟨c0, c1, c2, c3, c4, c5⟩ := (b11.keep Y7 (by simp)).cell6; have s7 : True := trivial)
    | (go_at_call 15; have _t := s7; clear s7; refine (kK _ (h1.keep Y7)).mono ?_; rintro e w8 ⟨A5, rfl, h5, y8⟩; have yA := World.grownBy_alloc w8 (.cells #[.bool W.sf, .int .i64 W.wy, .slice A5.ab A5.nb A5.cb, .slice A5.ap A5.np A5.cp, .int .i64 W.qu, .slice A5.at' A5.nt A5.ct] 29) none; have b23 := BxS.new w8 29 #[.bool W.sf, .int .i64 W.wy, .slice A5.ab A5.nb A5.cb, .slice A5.ap A5.np A5.cp, .int .i64 W.qu, .slice A5.at' A5.nt A5.ct]; have YA := grown_trans (grown_trans Y7 y8) yA; clear c0 c1 c2 c3 c4 c5; obtain ⟨c0, c1, c2, c3, c4, c5⟩ := (b17.keep YA (by simp)).cell6; have s8 : True := trivial)
    | (go_at_call 13; have _t := s8; clear s8; refine (kO A3 m3 _ (h3.keep YA) (by omega) (by omega)).mono ?_; rintro e w9 ⟨rfl, f9⟩; clear c0 c1 c2 c3 c4 c5; have b15' := (b15.keep YA (by simp)).fz f9 (fun h => by have := h3.lo _ h; omega); obtain ⟨c0, c1, c2, c3, c4, c5⟩ := b15'.cell6; have s9 : True := trivial)
    | (go_at_call 13; have _t := s9; clear s9; refine (kP A2 m2 _ ((h2.keep YA).fz f9 (fun i h h' => by have := h3.lo _ h'; have := h2l _ h; omega)) (by omega) (by omega)).mono ?_; rintro e w10 ⟨rfl, f10⟩; clear c0 c1 c2 c3 c4 c5))
  have szA := YA.size
  have hs9 := (hs.keep YA).fz f9 (fun g e h => by
    rcases h with h | h | h
    · exact ans_apart (h3.keep YA).b (hs.keep YA) (by decide) g h e
    · exact ans_apart (h3.keep YA).p (hs.keep YA) (by decide) g h e
    · exact ans_apart (h3.keep YA).t (hs.keep YA) (by decide) g h e)
  have hs10 := hs9.fz f10 (fun g e h => by have := h2l g h; have := hs.new g e; omega)
  have hp : ∀ i, (Vbl A3 i ∨ Vbl A2 i ∨ (Value.slice sa sn sc).ownBlock = some i) → m2 ≤ i ∧ i < m4 := fun i h => by
    rcases h with h | h | h
    · have := h3.lo i h; have := h3l i h; omega
    · have := h2.lo i h; have := h2l i h; omega
    · have := hs.new i h; have := hsl i h; omega
  have f0 : Fz (fun i => Vbl A3 i ∨ Vbl A2 i ∨ (Value.slice sa sn sc).ownBlock = some i) _ w10 := (Fz.trans (p := fun i => Vbl A3 i ∨ Vbl A2 i ∨ (Value.slice sa sn sc).ownBlock = some i) ((Fz.trans (p := fun i => Vbl A3 i ∨ Vbl A2 i ∨ (Value.slice sa sn sc).ownBlock = some i) (Fz.refl _ _) f9 (fun i _ h => .inl h))) f10 (fun i _ h => .inr (.inl h)))
  generalize hwA : w8.alloc (.cells #[.bool W.sf, .int .i64 W.wy, .slice A5.ab A5.nb A5.cb, .slice A5.ap A5.np A5.cp, .int .i64 W.qu, .slice A5.at' A5.nt A5.ct] 29) = wA at *
  have hmm : maxLen ≤ 9223372036854775807 := by decide
  have hsm := hs.max
  go_loopw [24] (fun iv wr => ∃ (k : Nat) (X : List Value), iv = .int .i64 k ∧ k ≤ sn ∧ AnsX 9 wr m3 sa sn sc X ∧ Fz (fun i => Vbl A3 i ∨ Vbl A2 i ∨ (Value.slice sa sn sc).ownBlock = some i) wA wr) (fun iv _ => sn - (intOf iv).toNat)
  case atStart => exact ⟨0, _, by go_num, Nat.zero_le _, hs10, f0⟩
  case round =>
    obtain ⟨k, X, rfl, hk, hA, fr⟩ := hrel
    by_cases hlt : k < sn
    · have hlt' : (k : Int) < (sn : Int) := by omega
      obtain ⟨gs, es, _, _⟩ := hA.some_of (by omega)
      subst es
      obtain ⟨u, hu⟩ : ∃ u, X[k]? = some u := ⟨_, List.getElem?_eq_getElem (by rw [hA.len]; exact hlt)⟩
      have ck := hA.cell k u hu
      have fk := hA.free k
      have R := hA.set k (.string ⟨#[111, 118, 101, 114]⟩) rfl
      go_wp2
      go_roundw
      case rel => exact ⟨k + 1, _, by go_num, by omega, R, fr.step (grown_set wr gs k _) (fun i e _ => .inr (.inr e))⟩
      case measure => simp [intOf]; omega
    · have hlt' : ¬ (k : Int) < (sn : Int) := by omega
      have b20r := (b20.keep YA (by simp)).fz fr (fun h => by have := hp _ h; omega)
      have sz8 := grown_trans Y7 y8
      have sz8 := sz8.size
      have sz7 := Y7.size
      have b23r := b23.fz fr (fun h => by have := hp _ h; omega)
      have h4r := (h4.keep YA).fz fr (fun i h h' => by have := h4.lo i h; have := hp _ h'; omega)
      have h5r := (h5.keep yA).fz fr (fun i h h' => by have := h5.lo i h; have := hp _ h'; omega)
      have htr := (ht.keep YA).fz fr (fun g e h => by have := ht.new g e; have := hp _ h; omega)
      have hnr := (hna.keep YA).fz fr (fun g e h => by have := hnl g e; have := hp _ h; omega)
      have GR : w.grownBy wr none := Fz.grown (grown_trans Gd YA) fr (fun i h => by have := hp _ h; omega)
      obtain ⟨c0, c1, c2, c3, c4, c5⟩ := b20r.cell6
      obtain ⟨d0, d1, d2, d3, d4, d5⟩ := b23r.cell6
      have s0 : True := trivial
      go_wp2_with (first
        | (go_at_call 11; have _t := s0; clear s0; refine (kS A4 A5 _ h4r.rd h5r.rd).mono ?_; rintro e x1 ⟨rfl, y1'⟩; have s1 : True := trivial)
        | (go_at_call 18; have _t := s1; clear s1; refine (sameTexts_any ta na tn nn tc nc L _ (htr.rd.keep y1') (hnr.rd.keep y1')).mono ?_; rintro e x2 ⟨rfl, y2'⟩))
      go_ret
      exact ⟨rfl, below_grownX (grown_trans GR (grown_trans y1' y2'))⟩
end Go.Proofs.Ytnpkmjdlohdieaa
