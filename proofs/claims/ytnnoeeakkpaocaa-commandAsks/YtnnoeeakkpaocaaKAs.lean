import Derived.Test.YtnnoeeakkpaocaaKAr
import Derived.Test.YtnnoeeakkpaocaaKHr2
namespace Go.Proofs.Ytnnoeeakkpaocaa
open Go.RowKit
set_option maxRecDepth 100000
set_option linter.unusedVariables false
set_option linter.unusedSimpArgs false
theorem step_joinK {w : World} {ops : Array Oper} {o : Oper} {a : Act} {K : Act → World → Prop} {Q : Exit → Act → World → Prop} {E : Prop} (hg : o.guard = none) (s x : Operand)
    (hop : o.op = Op.call { callee := .builtin .append, args := #[s, x], argTypes := #[22, 22] }) (ao : Option Addr) (m co lo : Nat) (D : List Nat) (hs : a.eval s = .slice ao m co)
    (hA : Ans w lo ao m co D) (hlo : lo ≤ w.heap.size) (ad : Addr) (nx cx : Nat) (X : List Nat) (hx : a.eval x = .slice (some ad) nx cx) (hR : Rd w (some ad) nx cx X) (h0 : 0 < nx) (hb : m + nx ≤ 140737488355328)
    (hK : ∀ a' c' w', Ans w' lo a' (m + nx) c' (D ++ X) → w.grownBy w' (Value.slice ao m co).ownBlock → K (a.put o.dst (.slice a' (m + nx) c')) w') :
    if Region.wanted o (yielded ops a.tmps) = true then Oper.wp Try.prog o a w K Q else E := by
  have hw : Region.wanted o (yielded ops a.tmps) = true := by simp [Region.wanted, hg]
  rw [if_pos hw]
  obtain ⟨i0, hi, hz0, hz1, hz2⟩ := info_parts Try.info_u8
  obtain ⟨b, off, e, _, hc⟩ := hR.at' h0
  cases e
  obtain ⟨v', w', hr, hown, hgr, _⟩ := run_append_own (P := Try.prog) w lo 22 o.type 5 i0 (.int .u8 0) 1 1 Try.underlying22 hi hz0 hz1 hz2 rfl (by decide) (.slice ao m co) m (bys D) hA.up ⟨b, off, none⟩ nx cx (bys X) (by rw [bys_length, hR.len]; omega) (by
    intro j u hu
    have hj : j < X.length := by
      have := (List.getElem?_eq_some_iff.1 hu).1
      rw [bys_length] at this; exact this
    rw [nth_bys X j hj] at hu
    rw [← hu, addr_add]
    exact hc j (by rw [← hR.len]; exact hj)) (bys_one _) (by unfold maxLen; omega) (by omega) hlo
  unfold Oper.wp execOp
  simp only [hop, resolve, invoke, builtin, Sem.run_bind, Sem.run_pure, Result.andThen_ok, List.map_toArray, List.map_cons, List.map_nil, hs, hx, hr]
  show K _ _
  rw [bys_app] at hown
  have hown' := hown
  rcases hown.2 with ⟨h1, h2⟩ | ⟨g, c1, cur, h1, h2, h3⟩
  · omega
  · subst h1
    exact hK (some ⟨g, 0, none⟩) c1 w' ⟨own_base hown', isB_append hA.byte hR.byte, fun g' h => by have e : g = g' := Option.some.inj h; omega⟩ hgr

def asV (d : Hd) (D : List Nat) : Hd := if hndB d = true then axV d D else hd0
def asE (d : Hd) (D : List Nat) : Nat := if hndB d = true then axE d D else 11
set_option maxHeartbeats 64000000 in
theorem rask_any (X : Hx) (d : Hd) (a : Option Addr) (n c : Nat) (D : List Nat) (w : World) (h : RdHd w X d) (hR : Rd w a n c D) :
    Calls Try.prog 33 #[.agg (hnV d X), .slice a n c] w fun e w' => ∃ (P1 : Hx), e = .returned (.tuple #[.agg (hnV (asV d D) P1), .int .i64 (asE d D : Int)]) ∧ RdHd w' P1 (asV d D) ∧ w.grownBy w' none := by
  obtain ⟨F, hF1, hF2⟩ := h.s.ex
  obtain ⟨K, hK1, hK2⟩ := h.q.ex
  have l1 := h.s.len
  have l2 := h.q.len
  have hl := hR.len
  have hq := hnd_of hF1 hF2 hK1 hK2 l1 l2
  have b0 := BxS.new w 50 #[.int .i64 d.cr, .int .i64 d.nx, .int .i64 d.ah, .slice X.sa X.sn X.sc, .slice X.qa X.qn X.qc, .int .i64 d.ti, .int .i64 d.pa, .int .i64 d.tr, .int .i64 d.li, .int .i64 d.si, .int .i64 d.pu, .int .i64 d.hl]
  have g0 := World.grownBy_alloc w (.cells #[.int .i64 d.cr, .int .i64 d.nx, .int .i64 d.ah, .slice X.sa X.sn X.sc, .slice X.qa X.qn X.qc, .int .i64 d.ti, .int .i64 d.pa, .int .i64 d.tr, .int .i64 d.li, .int .i64 d.si, .int .i64 d.pu, .int .i64 d.hl] 50) none
  generalize hw0 : w.alloc (.cells #[.int .i64 d.cr, .int .i64 d.nx, .int .i64 d.ah, .slice X.sa X.sn X.sc, .slice X.qa X.qn X.qc, .int .i64 d.ti, .int .i64 d.pa, .int .i64 d.tr, .int .i64 d.li, .int .i64 d.si, .int .i64 d.pu, .int .i64 d.hl] 50) = w0 at b0 g0
  have hz0 : w0.heap.size = w.heap.size + 1 := by rw [← hw0]; simp
  have b1 := BxS.new w0 50 #[.int .i64 0, .int .i64 0, .int .i64 0, .slice none 0 0, .slice none 0 0, .int .i64 0, .int .i64 0, .int .i64 0, .int .i64 0, .int .i64 0, .int .i64 0, .int .i64 0]
  have g1 := World.grownBy_alloc w0 (.cells #[.int .i64 0, .int .i64 0, .int .i64 0, .slice none 0 0, .slice none 0 0, .int .i64 0, .int .i64 0, .int .i64 0, .int .i64 0, .int .i64 0, .int .i64 0, .int .i64 0] 50) none
  generalize hw1 : w0.alloc (.cells #[.int .i64 0, .int .i64 0, .int .i64 0, .slice none 0 0, .slice none 0 0, .int .i64 0, .int .i64 0, .int .i64 0, .int .i64 0, .int .i64 0, .int .i64 0, .int .i64 0] 50) = w1 at b1 g1
  rw [hz0] at b1
  have p0 := b0.keep g1 (by simp)
  have G1 := grown_trans g0 g1
  have sz1' : w.heap.size + 2 ≤ w1.heap.size := by rw [← hw1]; simp [hz0]
  have hM := rhmay_any d.cr d.nx d.ah X.sa X.sn X.sc F X.qa X.qn X.qc K d.ti d.pa d.tr d.li d.si d.pu d.hl w1 (hF1.keep G1) (hK1.keep G1)
  unfold hnA at hM
  rw [hq] at hM
  have i12 := Try.info_hn3
  unfold hnV
  obtain ⟨c0, c1, c2, c3, c4, c5, c6, c7, c8, c9, c10, c11⟩ := p0.cell12
  have s0 : True := trivial
  cases hB : hndB d with
  | false =>
    rw [hB] at hM
    have e1 : asV d D = hd0 := if_neg (by rw [hB]; simp)
    have e2 : asE d D = 11 := if_neg (by rw [hB]; simp)
    clear hB hq
    go_enter Try.func33, Try.ntmps33
    go_wp2_with (first
      | (go_at_call 66; have _t := s0; clear s0; refine hM.mono ?_; rintro e w2 ⟨rfl, y2⟩; have sz2 := y2.size; have p0 := p0.keep y2 (by simp); have p1 := b1.keep y2 (by simp); clear c0 c1 c2 c3 c4 c5 c6 c7 c8 c9 c10 c11; obtain ⟨c0, c1, c2, c3, c4, c5, c6, c7, c8, c9, c10, c11⟩ := p0.cell12; have s1 : True := trivial)
      | (have _t := s1; clear s1; refine wpList_stX _ rfl _ (.tmp 4) (.tmp 9) rfl (w.heap.size + 1) _ _ rfl rfl p1 i12 rfl (by simp [Value.oneCell']) ?_; intro w9 b9 g9))
    refine bodyPost_ret (results_cell1t rfl _ _ _ ⟨w.heap.size + 1, 0, none⟩ _ (.int .i64 11) rfl (BxS.load (t := 50) b9 Try.underlying50 i12) rfl) rfl ?_
    rw [e1, e2]
    exact ⟨hx0, rfl, ⟨RdW.nil _, RdW.nil _⟩, grown_far (grown_trans G1 y2) g9 (fun q e => by have e := Option.some.inj e; omega)⟩
  | true =>
    rw [hB] at hM
    obtain ⟨⟨c0', c1'⟩, n1, n2, f1, f2, _, _⟩ := hnd_ok hB
    have kH := fun wz (h : RdHd wz X d) => handOf2_any X d wz h (fun r hr => by have := f1 r hr; omega) (by omega) (fun r hr => by have := f2 r hr; omega) (by omega)
    unfold hnV at kH
    have e1 : asV d D = axV d D := if_pos hB
    have e2 : asE d D = axE d D := if_pos hB
    rw [e1, e2]
    clear hq hF1 hF2 hK1 hK2 e1 e2 hB
    by_cases hk : 1 ≤ n ∧ n ≤ 1017
    · have hkw : kwB (n : Nat) 1 1017 = true := by unfold kwB; simp; omega
      obtain ⟨hk1, hk2⟩ := hk
      by_cases h100 : d.Q.length < 100
      · have e1 : axV d D = ⟨d.cr, d.nx, d.ah, d.ti, d.pa, d.tr, d.li, d.si, d.pu, d.hl, d.S, d.Q ++ [D]⟩ := by unfold axV axO; rw [hl, hkw, decide_eq_true h100]; rfl
        have e2 : axE d D = 0 := by unfold axE; rw [hl, hkw, if_pos rfl, if_pos h100]
        rw [e1, e2]
        clear e1 e2 hkw
        obtain ⟨b, off, rfl, hbw, _⟩ := hR.at' (by omega)
        obtain ⟨i0, hi, hz0', hz1', hz2'⟩ := info_parts Try.info_rw
        have m1 : ¬ (n : Int) < 1 := by omega
        have m2 : ¬ (1017 : Int) < (n : Int) := by omega
        go_enter Try.func33, Try.ntmps33
        go_wp2_with (first
          | (go_at_call 66; have _t := s0; clear s0; refine hM.mono ?_; rintro e w2 ⟨rfl, y2⟩; have sz2 := y2.size; have p0 := p0.keep y2 (by simp); have p1 := b1.keep y2 (by simp); clear c0 c1 c2 c3 c4 c5 c6 c7 c8 c9 c10 c11; obtain ⟨c0, c1, c2, c3, c4, c5, c6, c7, c8, c9, c10, c11⟩ := p0.cell12; have s1 : True := trivial)
          | (go_at_call 37; have _t := s1; clear s1; refine (kH _ (h.keep (grown_trans G1 y2))).mono ?_; rintro e w3 ⟨Y, rs, qs, rfl, hk, y3⟩; have sz3 := y3.size; have p0 := p0.keep y3 (by simp); have p1 := p1.keep y3 (by simp); clear c0 c1 c2 c3 c4 c5 c6 c7 c8 c9 c10 c11; have s2 : True := trivial)
          | (have _t := s2; clear s2; refine wpList_stX _ rfl _ (.tmp 2) (.tmp 11) rfl w.heap.size _ _ rfl rfl p0 i12 rfl (by simp [Value.oneCell']) ?_; intro w4 p4 u4; obtain ⟨c0, c1, c2, c3, c4, c5, c6, c7, c8, c9, c10, c11⟩ := p4.cell12; have p14 := p1.keep u4 (fun e => by have := Option.some.inj e; omega); have hk4 := hk.fz (fz_of2 u4) (fun x hx e => by have := hk.lo' x hx; have e := Option.some.inj e; omega); have lY := hk.q.len; have m3 : ¬ (100 : Int) ≤ (Y.qn : Int) := (by omega); have s3 : True := trivial))
        clear p0 p1 hM kH
        clear c0 c1 c2 c3 c4 c5 c6 c7 c8 c9 c10 c11
        have hR4 := hR.keep (grown_far (grown_trans (grown_trans G1 y2) y3) u4 (fun q e => by have e := Option.some.inj e; omega))
        have p4d := p4.keep (grown_drew w4 none) (by simp)
        have U1 := hk4.q.o
        have ub := U1.box p4 (by decide)
        refine wp_regionL (fun wz => BxS wz w.heap.size 50 #[.int .i64 d.cr, .int .i64 d.nx, .int .i64 d.ah, .slice Y.sa Y.sn Y.sc, .slice Y.qa Y.qn Y.qc, .int .i64 d.ti, .int .i64 d.pa, .int .i64 d.tr, .int .i64 d.li, .int .i64 d.si, .int .i64 d.pu, .int .i64 d.hl]) [7] #[false, false, false, false, false, false, false, false] rfl (by kernel_rfl) ?_
        refine wpAnyZ_take [7] 0 (.pointer (some ⟨w.heap.size, 4, none⟩)) rfl (by kernel_rfl) (fun _ _ _ h => h) p4d rfl (by intro wz hz; obtain ⟨z0, z1, z2, z3, z4, z5, z6, z7, z8, z9, z10, z11⟩ := BxS.cell12 hz; go_simp) ?_
        try simp only [List.getElem_toArray, List.getElem_cons_succ, List.getElem_cons_zero, Act.put, List.setIfInBounds_toArray, List.set_cons_zero, List.set_cons_succ]
        refine wpAnyZ_take [7] 1 (.slice Y.qa Y.qn Y.qc) rfl (by kernel_rfl) (fun _ _ _ h => h) p4d rfl (by intro wz hz; obtain ⟨z0, z1, z2, z3, z4, z5, z6, z7, z8, z9, z10, z11⟩ := BxS.cell12 hz; go_simp) ?_
        try simp only [List.getElem_toArray, List.getElem_cons_succ, List.getElem_cons_zero, Act.put, List.setIfInBounds_toArray, List.set_cons_zero, List.set_cons_succ]
        refine wpAnyZ_take [7] 2 (.slice (some ⟨b, off, none⟩) n c) rfl (by kernel_rfl) (fun _ _ _ h => h) p4d rfl (by intro wz hz; obtain ⟨z0, z1, z2, z3, z4, z5, z6, z7, z8, z9, z10, z11⟩ := BxS.cell12 hz; go_simp) ?_
        try simp only [List.getElem_toArray, List.getElem_cons_succ, List.getElem_cons_zero, Act.put, List.setIfInBounds_toArray, List.set_cons_zero, List.set_cons_succ]
        refine wpAnyZ_oneB 3 rfl (by kernel_rfl) (fun K hK => ?_)
        refine step_joinK rfl _ _ rfl none 0 0 w4.drew.heap.size [] rfl (ans_nil _ _) (Nat.le_refl _) ⟨b, off, none⟩ n c D rfl (hR4.keep (grown_drew w4 none)) (by omega) (by omega) ?_
        intro a5 c5 w5 hA5 g5
        have g5 : w4.drew.grownBy w5 none := g5
        simp only [Nat.zero_add, List.nil_append] at hA5 ⊢
        have B5 := p4d.keep g5 (by simp)
        refine hK _ _ (fun _ => B5) ?_
        try simp only [List.getElem_toArray, List.getElem_cons_succ, List.getElem_cons_zero, Act.put, List.setIfInBounds_toArray, List.set_cons_zero, List.set_cons_succ]
        refine wpAnyZ_oneB 4 rfl (by kernel_rfl) (fun K hK => ?_)
        go_simp
        have gA := World.grownBy_alloc w5 (.cells #[.slice a5 n c5] 22) none
        have BA := B5.keep gA (by simp)
        refine hK _ _ (fun _ => BA) ?_
        try simp only [List.getElem_toArray, List.getElem_cons_succ, List.getElem_cons_zero, Act.put, List.setIfInBounds_toArray, List.set_cons_zero, List.set_cons_succ]
        have g45 := grown_trans (grown_drew w4 none) g5
        have U5 := U1.keep g45
        refine wpAnyZ_oneB 5 rfl (by kernel_rfl) (fun K hK => ?_)
        refine step_apS _ rfl _ _ 48 22 i0 Go.Proofs.Ytnnoeeakkpaocaa.zr 1 24 Try.underlying48 hi hz0' hz1' hz2' rfl (by decide) rfl (.slice Y.qa Y.qn Y.qc) Y.qn (flatR qs) rfl (U5.own.alloc _) ⟨w5.heap.size, 0, none⟩ 1 1 [.slice a5 n c5] rfl rfl (one_row w5 _) (by simp [Value.oneCell']) (by decide) (by unfold maxLen; omega) (by omega) ?_
        intro gx cx w6 hgx g6 hown6
        have B6 := BA.keep g6 (fun e => ub e.symm)
        refine hK _ _ (fun _ => B6) ?_
        try simp only [List.getElem_toArray, List.getElem_cons_succ, List.getElem_cons_zero, Act.put, List.setIfInBounds_toArray, List.set_cons_zero, List.set_cons_succ]
        refine wpAnyZ_take [7] 6 (.pointer (some ⟨w.heap.size, 4, none⟩)) rfl (by kernel_rfl) (fun _ _ _ h => h) B6 rfl (by intro wz hz; go_simp) ?_
        try simp only [List.getElem_toArray, List.getElem_cons_succ, List.getElem_cons_zero, Act.put, List.setIfInBounds_toArray, List.set_cons_zero, List.set_cons_succ]
        refine wpAnyZ_oneB 7 rfl (by kernel_rfl) (fun K hK => ?_)
        refine step_stC _ rfl _ _ _ rfl w.heap.size 4 50 _ #[.int .i64 d.cr, .int .i64 d.nx, .int .i64 d.ah, .slice Y.sa Y.sn Y.sc, .slice (some ⟨gx, 0, none⟩) (Y.qn + 1) cx, .int .i64 d.ti, .int .i64 d.pa, .int .i64 d.tr, .int .i64 d.li, .int .i64 d.si, .int .i64 d.pu, .int .i64 d.hl] (.slice (some ⟨gx, 0, none⟩) (Y.qn + 1) cx) rfl rfl B6 (stc_rows _ _ _ _ _) (by show 4 < 12; decide) rfl ?_
        intro w7 B7 u7
        refine hK _ _ (fun h => absurd (by decide) h) ?_
        try simp only [List.getElem_toArray, List.getElem_cons_succ, List.getElem_cons_zero, Act.put, List.setIfInBounds_toArray, List.set_cons_zero, List.set_cons_succ]
        refine wpAnyZ_doneB (by kernel_rfl) ?_ _
        have hz4d : w4.drew.heap.size = w4.heap.size := rfl
        have hz45 := g5.size
        have hgA := gA.size
        have hrA := (hA5.wide (show w2.heap.size ≤ w4.drew.heap.size by have := u4.size; omega)).keep gA
        have hap : ∀ q, q ∈ qs → ∀ y, q.v.ownBlock = some y → (Rw.mk a5 n c5 D).v.ownBlock ≠ some y := by
          intro q hq y hy e
          have h1 : w4.heap.size ≤ y := hA5.new y e
          have h2 := U1.bef.2 q hq y hy
          omega
        have hpu := OwR.push (r := ⟨a5, n, c5, D⟩) (U5.keep gA) hrA hap g6 hown6 (by
          rcases hgx with h | h
          · exact .inl h
          · exact .inr (by have := u4.size; omega))
        have hq7 := hpu.fz (fz_of2 u7) (fun x hx e => ofr_box hpu B6 (by decide) (by decide) hx (Option.some.inj e).symm)
        have hS6 := ((hk4.s.keep g45).keep gA).fz (fz_of2 g6) (fun x hx e => hk4.ap x hx (.inl e))
        have hS7 := hS6.fz (fz_of2 u7) (fun x hx e => ofr_box hS6.o B6 (by decide) (by decide) hx (Option.some.inj e).symm)
        have eD : (qs ++ [(⟨a5, n, c5, D⟩ : Rw)]).map Rw.D = d.Q ++ [D] := by rw [List.map_append, hk4.q.d]; rfl
        have hW7 : RdHd w7 ⟨Y.sa, Y.sn, Y.sc, some ⟨gx, 0, none⟩, Y.qn + 1, cx⟩ ⟨d.cr, d.nx, d.ah, d.ti, d.pa, d.tr, d.li, d.si, d.pu, d.hl, d.S, d.Q ++ [D]⟩ := ⟨hS7.rd, (OwW.mk hq7 eD).rd⟩
        have hlq : ∀ x, Ofr (.slice (some ⟨gx, 0, none⟩) (Y.qn + 1) cx) (qs ++ [⟨a5, n, c5, D⟩]) x → w2.heap.size ≤ x := fun x hx => ofr_lo hq7 hx
        have p17 := ((p14.keep g45 (by simp)).keep gA (by simp)).keep g6 (fun e => by have := U1.new _ e.symm; omega)
        have p18 := p17.keep u7 (fun e => by have e := Option.some.inj e; omega)
        obtain ⟨r0, r1, r2, r3, r4, r5, r6, r7, r8, r9, r10, r11⟩ := B7.cell12
        have s9 : True := trivial
        go_wp2_with (have _t := s9; clear s9; refine wpList_stX _ rfl _ (.tmp 4) (.tmp 33) rfl (w.heap.size + 1) _ _ rfl rfl p18 i12 rfl (by simp [Value.oneCell']) ?_; intro w9 b9 g9)
        refine bodyPost_ret (results_cell1t rfl _ _ _ ⟨w.heap.size + 1, 0, none⟩ _ (.int .i64 0) rfl (BxS.load (t := 50) b9 Try.underlying50 i12) rfl) rfl ?_
        have hS9 := hS7.fz (fz_of2 g9) (fun x hx e => by have := hS7.lo' x hx; have e := Option.some.inj e; omega)
        have hq9 := hq7.fz (fz_of2 g9) (fun x hx e => by have := hlq x hx; have e := Option.some.inj e; omega)
        have G4 := grown_far (grown_trans (grown_trans G1 y2) y3) u4 (fun q e => by have e := Option.some.inj e; omega)
        have G6 := grown_far (grown_trans (grown_trans G4 g45) gA) g6 (fun q e => by have := U1.new q e; omega)
        exact ⟨⟨Y.sa, Y.sn, Y.sc, some ⟨gx, 0, none⟩, Y.qn + 1, cx⟩, rfl, ⟨hS9.rd, (OwW.mk hq9 eD).rd⟩, grown_far (grown_far G6 u7 (fun q e => by have e := Option.some.inj e; omega)) g9 (fun q e => by have e := Option.some.inj e; omega)⟩
      · have e1 : axV d D = d := by unfold axV axO; rw [decide_eq_false h100, Bool.and_false]; rfl
        have e2 : axE d D = 12 := by unfold axE; rw [hl, hkw, if_pos rfl, if_neg h100]
        rw [e1, e2]
        clear e1 e2 hkw
        have m1 : ¬ (n : Int) < 1 := by omega
        have m2 : ¬ (1017 : Int) < (n : Int) := by omega
        go_enter Try.func33, Try.ntmps33
        go_wp2_with (first
          | (go_at_call 66; have _t := s0; clear s0; refine hM.mono ?_; rintro e w2 ⟨rfl, y2⟩; have sz2 := y2.size; have p0 := p0.keep y2 (by simp); have p1 := b1.keep y2 (by simp); clear c0 c1 c2 c3 c4 c5 c6 c7 c8 c9 c10 c11; obtain ⟨c0, c1, c2, c3, c4, c5, c6, c7, c8, c9, c10, c11⟩ := p0.cell12; have s1 : True := trivial)
          | (go_at_call 37; have _t := s1; clear s1; refine (kH _ (h.keep (grown_trans G1 y2))).mono ?_; rintro e w3 ⟨Y, rs, qs, rfl, hk, y3⟩; have sz3 := y3.size; have p0 := p0.keep y3 (by simp); have p1 := p1.keep y3 (by simp); clear c0 c1 c2 c3 c4 c5 c6 c7 c8 c9 c10 c11; have s2 : True := trivial)
          | (have _t := s2; clear s2; refine wpList_stX _ rfl _ (.tmp 2) (.tmp 11) rfl w.heap.size _ _ rfl rfl p0 i12 rfl (by simp [Value.oneCell']) ?_; intro w4 p4 u4; obtain ⟨c0, c1, c2, c3, c4, c5, c6, c7, c8, c9, c10, c11⟩ := p4.cell12; have p14 := p1.keep u4 (fun e => by have := Option.some.inj e; omega); have hk4 := hk.fz (fz_of2 u4) (fun x hx e => by have := hk.lo' x hx; have e := Option.some.inj e; omega); have lY := hk.q.len; have m3 : (100 : Int) ≤ (Y.qn : Int) := (by omega); have s3 : True := trivial)
          | (have _t := s3; clear s3; refine wpList_stX _ rfl _ (.tmp 4) (.tmp 25) rfl (w.heap.size + 1) _ _ rfl rfl p14 i12 rfl (by simp [Value.oneCell']) ?_; intro w9 b9 g9))
        refine bodyPost_ret (results_cell1t rfl _ _ _ ⟨w.heap.size + 1, 0, none⟩ _ (.int .i64 12) rfl (BxS.load (t := 50) b9 Try.underlying50 i12) rfl) rfl ?_
        have hk9 := hk4.fz (fz_of2 g9) (fun x hx e => by have := hk.lo' x hx; have e := Option.some.inj e; omega)
        exact ⟨Y, rfl, hk9.rd, grown_far (grown_far (grown_trans (grown_trans G1 y2) y3) u4 (fun q e => by have e := Option.some.inj e; omega)) g9 (fun q e => by have e := Option.some.inj e; omega)⟩
    · have hkw : kwB (n : Nat) 1 1017 = false := by
        cases hkw : kwB (n : Nat) 1 1017 with
        | false => rfl
        | true => exact absurd (by have := kwB_ok hkw; omega) hk
      have e1 : axV d D = d := by unfold axV axO; rw [hl, hkw]; rfl
      have e2 : axE d D = 1 := by unfold axE; rw [hl, hkw]; rfl
      rw [e1, e2]
      clear e1 e2 hkw
      by_cases m1 : (n : Int) < 1
      · clear hk
        go_enter Try.func33, Try.ntmps33
        go_wp2_with (first
          | (go_at_call 66; have _t := s0; clear s0; refine hM.mono ?_; rintro e w2 ⟨rfl, y2⟩; have sz2 := y2.size; have p0 := p0.keep y2 (by simp); have p1 := b1.keep y2 (by simp); clear c0 c1 c2 c3 c4 c5 c6 c7 c8 c9 c10 c11; obtain ⟨c0, c1, c2, c3, c4, c5, c6, c7, c8, c9, c10, c11⟩ := p0.cell12; have s1 : True := trivial)
          | (go_at_call 37; have _t := s1; clear s1; refine (kH _ (h.keep (grown_trans G1 y2))).mono ?_; rintro e w3 ⟨Y, rs, qs, rfl, hk, y3⟩; have sz3 := y3.size; have p0 := p0.keep y3 (by simp); have p1 := p1.keep y3 (by simp); clear c0 c1 c2 c3 c4 c5 c6 c7 c8 c9 c10 c11; have s2 : True := trivial)
          | (have _t := s2; clear s2; refine wpList_stX _ rfl _ (.tmp 2) (.tmp 11) rfl w.heap.size _ _ rfl rfl p0 i12 rfl (by simp [Value.oneCell']) ?_; intro w4 p4 u4; obtain ⟨c0, c1, c2, c3, c4, c5, c6, c7, c8, c9, c10, c11⟩ := p4.cell12; have p14 := p1.keep u4 (fun e => by have := Option.some.inj e; omega); have hk4 := hk.fz (fz_of2 u4) (fun x hx e => by have := hk.lo' x hx; have e := Option.some.inj e; omega); have s3 : True := trivial)
          | (have _t := s3; clear s3; refine wpList_stX _ rfl _ (.tmp 4) (.tmp 20) rfl (w.heap.size + 1) _ _ rfl rfl p14 i12 rfl (by simp [Value.oneCell']) ?_; intro w9 b9 g9))
        refine bodyPost_ret (results_cell1t rfl _ _ _ ⟨w.heap.size + 1, 0, none⟩ _ (.int .i64 1) rfl (BxS.load (t := 50) b9 Try.underlying50 i12) rfl) rfl ?_
        have hk9 := hk4.fz (fz_of2 g9) (fun x hx e => by have := hk.lo' x hx; have e := Option.some.inj e; omega)
        exact ⟨Y, rfl, hk9.rd, grown_far (grown_far (grown_trans (grown_trans G1 y2) y3) u4 (fun q e => by have e := Option.some.inj e; omega)) g9 (fun q e => by have e := Option.some.inj e; omega)⟩
      · have m2 : (1017 : Int) < (n : Int) := by omega
        clear hk
        go_enter Try.func33, Try.ntmps33
        go_wp2_with (first
          | (go_at_call 66; have _t := s0; clear s0; refine hM.mono ?_; rintro e w2 ⟨rfl, y2⟩; have sz2 := y2.size; have p0 := p0.keep y2 (by simp); have p1 := b1.keep y2 (by simp); clear c0 c1 c2 c3 c4 c5 c6 c7 c8 c9 c10 c11; obtain ⟨c0, c1, c2, c3, c4, c5, c6, c7, c8, c9, c10, c11⟩ := p0.cell12; have s1 : True := trivial)
          | (go_at_call 37; have _t := s1; clear s1; refine (kH _ (h.keep (grown_trans G1 y2))).mono ?_; rintro e w3 ⟨Y, rs, qs, rfl, hk, y3⟩; have sz3 := y3.size; have p0 := p0.keep y3 (by simp); have p1 := p1.keep y3 (by simp); clear c0 c1 c2 c3 c4 c5 c6 c7 c8 c9 c10 c11; have s2 : True := trivial)
          | (have _t := s2; clear s2; refine wpList_stX _ rfl _ (.tmp 2) (.tmp 11) rfl w.heap.size _ _ rfl rfl p0 i12 rfl (by simp [Value.oneCell']) ?_; intro w4 p4 u4; obtain ⟨c0, c1, c2, c3, c4, c5, c6, c7, c8, c9, c10, c11⟩ := p4.cell12; have p14 := p1.keep u4 (fun e => by have := Option.some.inj e; omega); have hk4 := hk.fz (fz_of2 u4) (fun x hx e => by have := hk.lo' x hx; have e := Option.some.inj e; omega); have s3 : True := trivial)
          | (have _t := s3; clear s3; refine wpList_stX _ rfl _ (.tmp 4) (.tmp 20) rfl (w.heap.size + 1) _ _ rfl rfl p14 i12 rfl (by simp [Value.oneCell']) ?_; intro w9 b9 g9))
        refine bodyPost_ret (results_cell1t rfl _ _ _ ⟨w.heap.size + 1, 0, none⟩ _ (.int .i64 1) rfl (BxS.load (t := 50) b9 Try.underlying50 i12) rfl) rfl ?_
        have hk9 := hk4.fz (fz_of2 g9) (fun x hx e => by have := hk.lo' x hx; have e := Option.some.inj e; omega)
        exact ⟨Y, rfl, hk9.rd, grown_far (grown_far (grown_trans (grown_trans G1 y2) y3) u4 (fun q e => by have e := Option.some.inj e; omega)) g9 (fun q e => by have e := Option.some.inj e; omega)⟩
end Go.Proofs.Ytnnoeeakkpaocaa
