import Derived.Test.YtnnoeeakkpaocaaKxSd
import Derived.Test.YtnnoeeakkpaocaaKxOw
import Derived.Test.YtnnoeeakkpaocaaKHa
namespace Go.Proofs.Ytnnoeeakkpaocaa
open Go.RowKit
set_option maxRecDepth 100000
set_option linter.unusedVariables false
set_option linter.unusedSimpArgs false

set_option maxHeartbeats 32000000 in
theorem apart_free_no (cr : Nat) (nx ah : Int) (sa : Option Addr) (sn sc : Nat) (F : Nat → Rw) (qa : Option Addr) (qn qc : Nat) (K : Nat → Rw) (ti pa tr li si pu hl : Int) (w : World) (hS : RdR w sa sn sc F) (hQ : RdR w qa qn qc K) (hM : hnB cr nx ah sn F qn K ti pa tr li si pu hl = true)
    (hfS : ∀ i, i < sn → 1 ≤ (F i).n ∧ (F i).n ≤ 1017) (hnS : sn ≤ 1000) (hfQ : ∀ i, i < qn → 1 ≤ (K i).n ∧ (K i).n ≤ 1017) (hnQ : qn ≤ 1000) (hh1 : hl ≠ 15) (hh2 : hl ≠ 19) :
    Calls Try.prog 67 #[.agg (hnA cr nx ah (.slice sa sn sc) (.slice qa qn qc) ti pa tr li si pu hl), .func (Fn.func 75) #[] #[]] w fun e w' => ∃ aS cS rs aq cq qs, e = .returned (.tuple #[.agg #[.int .i64 (cr : Int), .int .i64 nx, .int .i64 ah, .slice aS sn cS, .slice aq qn cq, .int .i64 ti, .int .i64 pa, .int .i64 tr, .int .i64 li, .int .i64 si, .int .i64 pu, .int .i64 hl], .slice none 0 0, .int .i64 6]) ∧ OwR w' w.heap.size aS sn cS rs ∧ (∀ i, i < sn → (rs.getD i kr0).D = (F i).D) ∧ OwR w' w.heap.size aq qn cq qs ∧ (∀ i, i < qn → (qs.getD i kr0).D = (K i).D) ∧ (∀ x, Ofr (.slice aS sn cS) rs x → ¬ Ofr (.slice aq qn cq) qs x) ∧ w.grownBy w' none := by
  have h0 := fun wz h1 h2 => hmay_any cr nx ah sa sn sc F qa qn qc K ti pa tr li si pu hl wz h1 h2
  rw [hM] at h0
  have hCS := fun wz h1 => copyAll_any sa sn sc F wz h1 hfS hnS
  have hCQ := fun wz h1 => copyAll_any qa qn qc K wz h1 hfQ hnQ
  unfold hnA at h0 ⊢
  have b0 := BxS.new w 50 #[.int .i64 (cr : Int), .int .i64 nx, .int .i64 ah, .slice sa sn sc, .slice qa qn qc, .int .i64 ti, .int .i64 pa, .int .i64 tr, .int .i64 li, .int .i64 si, .int .i64 pu, .int .i64 hl]
  have g0 := World.grownBy_alloc w (.cells #[.int .i64 (cr : Int), .int .i64 nx, .int .i64 ah, .slice sa sn sc, .slice qa qn qc, .int .i64 ti, .int .i64 pa, .int .i64 tr, .int .i64 li, .int .i64 si, .int .i64 pu, .int .i64 hl] 50) none
  generalize hw0 : w.alloc (.cells #[.int .i64 (cr : Int), .int .i64 nx, .int .i64 ah, .slice sa sn sc, .slice qa qn qc, .int .i64 ti, .int .i64 pa, .int .i64 tr, .int .i64 li, .int .i64 si, .int .i64 pu, .int .i64 hl] 50) = w0 at b0 g0
  have z0 := BxS.new w0 50 #[.int .i64 0, .int .i64 0, .int .i64 0, .slice none 0 0, .slice none 0 0, .int .i64 0, .int .i64 0, .int .i64 0, .int .i64 0, .int .i64 0, .int .i64 0, .int .i64 0]
  have g1 := World.grownBy_alloc w0 (.cells #[.int .i64 0, .int .i64 0, .int .i64 0, .slice none 0 0, .slice none 0 0, .int .i64 0, .int .i64 0, .int .i64 0, .int .i64 0, .int .i64 0, .int .i64 0, .int .i64 0] 50) none
  generalize hw1 : w0.alloc (.cells #[.int .i64 0, .int .i64 0, .int .i64 0, .slice none 0 0, .slice none 0 0, .int .i64 0, .int .i64 0, .int .i64 0, .int .i64 0, .int .i64 0, .int .i64 0, .int .i64 0] 50) = w1 at z0 g1
  have B1 := b0.keep g1 (by simp)
  obtain ⟨c0, c1, c2, c3, c4, c5, c6, c7, c8, c9, c10, c11⟩ := B1.cell12
  have G1 := grown_trans g0 g1
  have i12 := Try.info_hn
  have l0 := b0.lt
  have l1 := z0.lt
  have t1 : True := trivial
  go_enter Try.func67, Try.ntmps67
  go_wp2_with (first
    | (go_at_call 64; have _t := t1; clear t1; refine (h0 w1 (hS.keep G1) (hQ.keep G1)).mono ?_; rintro e w2 ⟨rfl, g2⟩; clear c0 c1 c2 c3 c4 c5 c6 c7 c8 c9 c10 c11; have B2 := B1.keep g2 (by simp); obtain ⟨c0, c1, c2, c3, c4, c5, c6, c7, c8, c9, c10, c11⟩ := B2.cell12))
  have gA := World.grownBy_alloc w2 (.cells #[.int .i64 (cr : Int), .int .i64 nx, .int .i64 ah, .slice sa sn sc, .slice qa qn qc, .int .i64 ti, .int .i64 pa, .int .i64 tr, .int .i64 li, .int .i64 si, .int .i64 pu, .int .i64 hl, .slice none 0 0] 96) none
  have H3 := BxS.new w2 96 #[.int .i64 (cr : Int), .int .i64 nx, .int .i64 ah, .slice sa sn sc, .slice qa qn qc, .int .i64 ti, .int .i64 pa, .int .i64 tr, .int .i64 li, .int .i64 si, .int .i64 pu, .int .i64 hl, .slice none 0 0]
  have B3 := B2.keep gA (by simp)
  have G3 := grown_trans (grown_trans G1 g2) gA
  have z3 := (z0.keep g2 (by simp)).keep gA (by simp)
  have S3 := hS.keep G3
  have Q3 := hQ.keep G3
  have l2 : w0.heap.size < w2.heap.size := Nat.lt_of_lt_of_le l1 g2.size
  generalize w2.alloc (.cells #[.int .i64 (cr : Int), .int .i64 nx, .int .i64 ah, .slice sa sn sc, .slice qa qn qc, .int .i64 ti, .int .i64 pa, .int .i64 tr, .int .i64 li, .int .i64 si, .int .i64 pu, .int .i64 hl, .slice none 0 0] 96) = w3 at gA H3 B3 G3 z3 S3 Q3 ⊢
  have l3 := H3.lt
  clear c0 c1 c2 c3 c4 c5 c6 c7 c8 c9 c10 c11 B2 B1 h0
  obtain ⟨c0, c1, c2, c3, c4, c5, c6, c7, c8, c9, c10, c11⟩ := B3.cell12
  have tA : True := trivial
  have tB : True := trivial
  go_region_law (first
    | (go_simp; go_at_call 85; have _t := tA; have _u := tB; refine (hCS _ (S3.keep (grown_drew w3 none))).mono ?_; clear tA tB; rintro e w4 ⟨aS, cS, rs, rfl, OS4, dS, g4⟩; have k4 := grown_trans (grown_drew w3 none) g4; have Q4 := Q3.keep k4; obtain ⟨c0, c1, c2, c3, c4, c5, c6, c7, c8, c9, c10, c11⟩ := (B3.keep k4 (by simp)).cell12; have uA : True := trivial)
    | (go_simp; go_at_call 85; have _t := uA; refine (hCQ w4 Q4).mono ?_; clear uA; rintro e w5 ⟨aq, cq, qs, rfl, OQ5, dQ, g5⟩; have k5 := grown_trans k4 g5; have OS5 := OS4.keep g5; have DJ : ∀ x, Ofr (.slice aS sn cS) rs x → ¬ Ofr (.slice aq qn cq) qs x := fun x h1 h2 => Nat.lt_irrefl x (Nat.lt_of_lt_of_le (ofr_hi OS4.bef h1) (ofr_lo OQ5 h2)); have OS5 := OS5.wide (show w3.heap.size ≤ w3.drew.heap.size from Nat.le_refl _); have OQ5 := OQ5.wide k4.size; have H5 := H3.keep k5 (by simp); obtain ⟨m0, m1, m2, m3, m4, m5, m6, m7, m8, m9, m10, m11, m12⟩ := H5.cell13; have f3 := H5.free 3; have f4 := H5.free 4)
    | (go_simp; go_at_call 85; have _t := tA; have _u := tB; refine (hCQ _ (Q3.keep (grown_drew w3 none))).mono ?_; clear tA tB; rintro e w4 ⟨aq, cq, qs, rfl, OQ4, dQ, g4⟩; have k4 := grown_trans (grown_drew w3 none) g4; have S4 := S3.keep k4; obtain ⟨c0, c1, c2, c3, c4, c5, c6, c7, c8, c9, c10, c11⟩ := (B3.keep k4 (by simp)).cell12; have uB : True := trivial)
    | (go_simp; go_at_call 85; have _t := uB; refine (hCS w4 S4).mono ?_; clear uB; rintro e w5 ⟨aS, cS, rs, rfl, OS5, dS, g5⟩; have k5 := grown_trans k4 g5; have OQ5 := OQ4.keep g5; have DJ : ∀ x, Ofr (.slice aS sn cS) rs x → ¬ Ofr (.slice aq qn cq) qs x := fun x h1 h2 => Nat.lt_irrefl x (Nat.lt_of_lt_of_le (ofr_hi OQ4.bef h2) (ofr_lo OS5 h1)); have OQ5 := OQ5.wide (show w3.heap.size ≤ w3.drew.heap.size from Nat.le_refl _); have OS5 := OS5.wide k4.size; have H5 := H3.keep k5 (by simp); obtain ⟨m0, m1, m2, m3, m4, m5, m6, m7, m8, m9, m10, m11, m12⟩ := H5.cell13; have f3 := H5.free 3; have f4 := H5.free 4))
  all_goals
    have H6 : BxS _ w2.heap.size 96 #[.int .i64 (cr : Int), .int .i64 nx, .int .i64 ah, .slice aS sn cS, .slice aq qn cq, .int .i64 ti, .int .i64 pa, .int .i64 tr, .int .i64 li, .int .i64 si, .int .i64 pu, .int .i64 hl, .slice none 0 0] := (H5.set 3 (.slice aS sn cS)).set 4 (.slice aq qn cq)
    have F6 : Fz (fun i => i = w2.heap.size) w5 ((w5.setCell ⟨w2.heap.size, 3, none⟩ (.slice aS sn cS)).setCell ⟨w2.heap.size, 4, none⟩ (.slice aq qn cq)) := ((Fz.refl _ w5).step (grown_set w5 w2.heap.size 3 (.slice aS sn cS)) (fun q e _ => by cases e; rfl)).step (grown_set (w5.setCell ⟨w2.heap.size, 3, none⟩ (.slice aS sn cS)) w2.heap.size 4 (.slice aq qn cq)) (fun q e _ => by cases e; rfl)
    have OS6 := OS5.fz F6 (fun x hx => ofr_box OS5 H5 (by decide) (by decide) hx)
    have OQ6 := OQ5.fz F6 (fun x hx => ofr_box OQ5 H5 (by decide) (by decide) hx)
    have z6 := (z3.keep k5 (by simp)).fz F6 (by omega)
    have hs5 := k5.size
    generalize (w5.setCell ⟨w2.heap.size, 3, none⟩ (.slice aS sn cS)).setCell ⟨w2.heap.size, 4, none⟩ (.slice aq qn cq) = w6 at H6 F6 OS6 OQ6 z6 ⊢
    clear m0 m1 m2 m3 m4 m5 m6 m7 m8 m9 m10 m11 m12 f3 f4 c0 c1 c2 c3 c4 c5 c6 c7 c8 c9 c10 c11
    go_wp2_with (first
      | (go_at_call 75; refine (free1_no w2.heap.size cr nx ah aS sn cS aq qn cq ti pa tr li si pu hl _ H6 hh1 hh2).mono ?_; rintro e wx ⟨rfl, hw⟩; have hw := hw.symm; subst hw))
    have z7 := z6
    have OS7 := OS6
    have OQ7 := OQ6
    have H7 := H6
    obtain ⟨m0, m1, m2, m3, m4, m5, m6, m7, m8, m9, m10, m11, m12⟩ := H7.cell13
    obtain ⟨y0, y1, y2, y3, y4, y5, y6, y7, y8, y9, y10, y11⟩ := z7.cell12
    have hfr := fun i => z7.free i
    have r0 := hfr 0; have r1 := hfr 1; have r2 := hfr 2; have r3 := hfr 3; have r4 := hfr 4; have r5 := hfr 5; have r6 := hfr 6; have r7 := hfr 7; have r8 := hfr 8; have r9 := hfr 9; have r10 := hfr 10; have r11 := hfr 11
    clear hfr
    go_region_law (fail)
    all_goals
      have b9 := set12_box z7 (.int .i64 (cr : Int)) (.int .i64 nx) (.int .i64 ah) (.slice aS sn cS) (.slice aq qn cq) (.int .i64 ti) (.int .i64 pa) (.int .i64 tr) (.int .i64 li) (.int .i64 si) (.int .i64 pu) (.int .i64 hl)
      have g9 := set12_grown w6 w0.heap.size (.int .i64 (cr : Int)) (.int .i64 nx) (.int .i64 ah) (.slice aS sn cS) (.slice aq qn cq) (.int .i64 ti) (.int .i64 pa) (.int .i64 tr) (.int .i64 li) (.int .i64 si) (.int .i64 pu) (.int .i64 hl)
      unfold set12 at b9 g9
      generalize (((((((((((w6.setCell ⟨w0.heap.size, 0, none⟩ (.int .i64 (cr : Int))).setCell ⟨w0.heap.size, 1, none⟩ (.int .i64 nx)).setCell ⟨w0.heap.size, 2, none⟩ (.int .i64 ah)).setCell ⟨w0.heap.size, 3, none⟩ (.slice aS sn cS)).setCell ⟨w0.heap.size, 4, none⟩ (.slice aq qn cq)).setCell ⟨w0.heap.size, 5, none⟩ (.int .i64 ti)).setCell ⟨w0.heap.size, 6, none⟩ (.int .i64 pa)).setCell ⟨w0.heap.size, 7, none⟩ (.int .i64 tr)).setCell ⟨w0.heap.size, 8, none⟩ (.int .i64 li)).setCell ⟨w0.heap.size, 9, none⟩ (.int .i64 si)).setCell ⟨w0.heap.size, 10, none⟩ (.int .i64 pu)).setCell ⟨w0.heap.size, 11, none⟩ (.int .i64 hl) = w9 at b9 g9 ⊢
      have gd := grown_drew w9 none
      have F9 : Fz (fun i => i = w0.heap.size) w6 w9 := (Fz.refl _ w6).step g9 (fun q e _ => by cases e; rfl)
      have OSz := OS7
      have OQz := OQ7
      have OSe := ((OSz.fz F9 (fun x hx => ofr_box OSz z7 (by decide) (by decide) hx)).keep gd).wide G3.size
      have OQe := ((OQz.fz F9 (fun x hx => ofr_box OQz z7 (by decide) (by decide) hx)).keep gd).wide G3.size
      have F57 : Fz (fun i => i = w2.heap.size) w5 w6 := F6
      have FE : Fz (fun i => i = w2.heap.size ∨ i = w0.heap.size) w5 w9 := (((Fz.refl _ w5).trans F57 (fun i _ h => .inl h))).step g9 (fun q e _ => by cases e; exact .inr rfl)
      have GE : w.grownBy w9 none := Fz.grown (grown_trans G3 k5) FE (fun i h => by have := g0.size; rcases h with h | h <;> omega)
      go_wp2
      refine bodyPost_ret (results_cell3 rfl _ _ _ ⟨w0.heap.size, 0, none⟩ _ (.slice none 0 0) (.int .i64 6) rfl (BxS.load (t := 50) (b9.keep gd (by simp)) Try.underlying50 Try.info_hn) rfl rfl) rfl ?_
      exact ⟨aS, cS, rs, aq, cq, qs, rfl, OSe, dS, OQe, dQ, DJ, grown_trans GE gd⟩

set_option maxHeartbeats 32000000 in
theorem apart_free_ok (cr : Nat) (nx ah : Int) (sa : Option Addr) (sn sc : Nat) (F : Nat → Rw) (qa : Option Addr) (qn qc : Nat) (K : Nat → Rw) (ti pa tr li si pu hl : Int) (w : World) (hS : RdR w sa sn sc F) (hQ : RdR w qa qn qc K) (hM : hnB cr nx ah sn F qn K ti pa tr li si pu hl = true)
    (hfS : ∀ i, i < sn → 1 ≤ (F i).n ∧ (F i).n ≤ 1017) (hnS : sn ≤ 1000) (hfQ : ∀ i, i < qn → 1 ≤ (K i).n ∧ (K i).n ≤ 1017) (hnQ : qn ≤ 1000) (hhl : hl = 15 ∨ hl = 19) (hcr : cr < 1024) :
    Calls Try.prog 67 #[.agg (hnA cr nx ah (.slice sa sn sc) (.slice qa qn qc) ti pa tr li si pu hl), .func (Fn.func 75) #[] #[]] w fun e w' => ∃ aS cS rs aq cq qs ua uc r, e = .returned (.tuple #[.agg #[.int .i64 (cr : Int), .int .i64 nx, .int .i64 ah, .slice aS sn cS, .slice aq qn cq, .int .i64 0, .int .i64 pa, .int .i64 0, .int .i64 li, .int .i64 pu, .int .i64 pu, .int .i64 0], .slice ua 1 uc, .int .i64 0]) ∧ OwR w' w.heap.size aS sn cS rs ∧ (∀ i, i < sn → (rs.getD i kr0).D = (F i).D) ∧ OwR w' w.heap.size aq qn cq qs ∧ (∀ i, i < qn → (qs.getD i kr0).D = (K i).D) ∧ (∀ x, Ofr (.slice aS sn cS) rs x → ¬ Ofr (.slice aq qn cq) qs x) ∧ OwR w' w.heap.size ua 1 uc [r] ∧ r.D = orL cr true true 0 [0] ∧ (∀ x, Ofr (.slice ua 1 uc) [r] x → ¬ Ofr (.slice aS sn cS) rs x ∧ ¬ Ofr (.slice aq qn cq) qs x) ∧ w.grownBy w' none := by
  have h0 := fun wz h1 h2 => hmay_any cr nx ah sa sn sc F qa qn qc K ti pa tr li si pu hl wz h1 h2
  rw [hM] at h0
  have hCS := fun wz h1 => copyAll_any sa sn sc F wz h1 hfS hnS
  have hCQ := fun wz h1 => copyAll_any qa qn qc K wz h1 hfQ hnQ
  unfold hnA at h0 ⊢
  have b0 := BxS.new w 50 #[.int .i64 (cr : Int), .int .i64 nx, .int .i64 ah, .slice sa sn sc, .slice qa qn qc, .int .i64 ti, .int .i64 pa, .int .i64 tr, .int .i64 li, .int .i64 si, .int .i64 pu, .int .i64 hl]
  have g0 := World.grownBy_alloc w (.cells #[.int .i64 (cr : Int), .int .i64 nx, .int .i64 ah, .slice sa sn sc, .slice qa qn qc, .int .i64 ti, .int .i64 pa, .int .i64 tr, .int .i64 li, .int .i64 si, .int .i64 pu, .int .i64 hl] 50) none
  generalize hw0 : w.alloc (.cells #[.int .i64 (cr : Int), .int .i64 nx, .int .i64 ah, .slice sa sn sc, .slice qa qn qc, .int .i64 ti, .int .i64 pa, .int .i64 tr, .int .i64 li, .int .i64 si, .int .i64 pu, .int .i64 hl] 50) = w0 at b0 g0
  have z0 := BxS.new w0 50 #[.int .i64 0, .int .i64 0, .int .i64 0, .slice none 0 0, .slice none 0 0, .int .i64 0, .int .i64 0, .int .i64 0, .int .i64 0, .int .i64 0, .int .i64 0, .int .i64 0]
  have g1 := World.grownBy_alloc w0 (.cells #[.int .i64 0, .int .i64 0, .int .i64 0, .slice none 0 0, .slice none 0 0, .int .i64 0, .int .i64 0, .int .i64 0, .int .i64 0, .int .i64 0, .int .i64 0, .int .i64 0] 50) none
  generalize hw1 : w0.alloc (.cells #[.int .i64 0, .int .i64 0, .int .i64 0, .slice none 0 0, .slice none 0 0, .int .i64 0, .int .i64 0, .int .i64 0, .int .i64 0, .int .i64 0, .int .i64 0, .int .i64 0] 50) = w1 at z0 g1
  have B1 := b0.keep g1 (by simp)
  obtain ⟨c0, c1, c2, c3, c4, c5, c6, c7, c8, c9, c10, c11⟩ := B1.cell12
  have G1 := grown_trans g0 g1
  have i12 := Try.info_hn
  have l0 := b0.lt
  have l1 := z0.lt
  have t1 : True := trivial
  go_enter Try.func67, Try.ntmps67
  go_wp2_with (first
    | (go_at_call 64; have _t := t1; clear t1; refine (h0 w1 (hS.keep G1) (hQ.keep G1)).mono ?_; rintro e w2 ⟨rfl, g2⟩; clear c0 c1 c2 c3 c4 c5 c6 c7 c8 c9 c10 c11; have B2 := B1.keep g2 (by simp); obtain ⟨c0, c1, c2, c3, c4, c5, c6, c7, c8, c9, c10, c11⟩ := B2.cell12))
  have gA := World.grownBy_alloc w2 (.cells #[.int .i64 (cr : Int), .int .i64 nx, .int .i64 ah, .slice sa sn sc, .slice qa qn qc, .int .i64 ti, .int .i64 pa, .int .i64 tr, .int .i64 li, .int .i64 si, .int .i64 pu, .int .i64 hl, .slice none 0 0] 96) none
  have H3 := BxS.new w2 96 #[.int .i64 (cr : Int), .int .i64 nx, .int .i64 ah, .slice sa sn sc, .slice qa qn qc, .int .i64 ti, .int .i64 pa, .int .i64 tr, .int .i64 li, .int .i64 si, .int .i64 pu, .int .i64 hl, .slice none 0 0]
  have B3 := B2.keep gA (by simp)
  have G3 := grown_trans (grown_trans G1 g2) gA
  have z3 := (z0.keep g2 (by simp)).keep gA (by simp)
  have S3 := hS.keep G3
  have Q3 := hQ.keep G3
  have l2 : w0.heap.size < w2.heap.size := Nat.lt_of_lt_of_le l1 g2.size
  generalize w2.alloc (.cells #[.int .i64 (cr : Int), .int .i64 nx, .int .i64 ah, .slice sa sn sc, .slice qa qn qc, .int .i64 ti, .int .i64 pa, .int .i64 tr, .int .i64 li, .int .i64 si, .int .i64 pu, .int .i64 hl, .slice none 0 0] 96) = w3 at gA H3 B3 G3 z3 S3 Q3 ⊢
  have l3 := H3.lt
  clear c0 c1 c2 c3 c4 c5 c6 c7 c8 c9 c10 c11 B2 B1 h0
  obtain ⟨c0, c1, c2, c3, c4, c5, c6, c7, c8, c9, c10, c11⟩ := B3.cell12
  have tA : True := trivial
  have tB : True := trivial
  go_region_law (first
    | (go_simp; go_at_call 85; have _t := tA; have _u := tB; refine (hCS _ (S3.keep (grown_drew w3 none))).mono ?_; clear tA tB; rintro e w4 ⟨aS, cS, rs, rfl, OS4, dS, g4⟩; have k4 := grown_trans (grown_drew w3 none) g4; have Q4 := Q3.keep k4; obtain ⟨c0, c1, c2, c3, c4, c5, c6, c7, c8, c9, c10, c11⟩ := (B3.keep k4 (by simp)).cell12; have uA : True := trivial)
    | (go_simp; go_at_call 85; have _t := uA; refine (hCQ w4 Q4).mono ?_; clear uA; rintro e w5 ⟨aq, cq, qs, rfl, OQ5, dQ, g5⟩; have k5 := grown_trans k4 g5; have OS5 := OS4.keep g5; have DJ : ∀ x, Ofr (.slice aS sn cS) rs x → ¬ Ofr (.slice aq qn cq) qs x := fun x h1 h2 => Nat.lt_irrefl x (Nat.lt_of_lt_of_le (ofr_hi OS4.bef h1) (ofr_lo OQ5 h2)); have OS5 := OS5.wide (show w3.heap.size ≤ w3.drew.heap.size from Nat.le_refl _); have OQ5 := OQ5.wide k4.size; have H5 := H3.keep k5 (by simp); obtain ⟨m0, m1, m2, m3, m4, m5, m6, m7, m8, m9, m10, m11, m12⟩ := H5.cell13; have f3 := H5.free 3; have f4 := H5.free 4)
    | (go_simp; go_at_call 85; have _t := tA; have _u := tB; refine (hCQ _ (Q3.keep (grown_drew w3 none))).mono ?_; clear tA tB; rintro e w4 ⟨aq, cq, qs, rfl, OQ4, dQ, g4⟩; have k4 := grown_trans (grown_drew w3 none) g4; have S4 := S3.keep k4; obtain ⟨c0, c1, c2, c3, c4, c5, c6, c7, c8, c9, c10, c11⟩ := (B3.keep k4 (by simp)).cell12; have uB : True := trivial)
    | (go_simp; go_at_call 85; have _t := uB; refine (hCS w4 S4).mono ?_; clear uB; rintro e w5 ⟨aS, cS, rs, rfl, OS5, dS, g5⟩; have k5 := grown_trans k4 g5; have OQ5 := OQ4.keep g5; have DJ : ∀ x, Ofr (.slice aS sn cS) rs x → ¬ Ofr (.slice aq qn cq) qs x := fun x h1 h2 => Nat.lt_irrefl x (Nat.lt_of_lt_of_le (ofr_hi OQ4.bef h2) (ofr_lo OS5 h1)); have OQ5 := OQ5.wide (show w3.heap.size ≤ w3.drew.heap.size from Nat.le_refl _); have OS5 := OS5.wide k4.size; have H5 := H3.keep k5 (by simp); obtain ⟨m0, m1, m2, m3, m4, m5, m6, m7, m8, m9, m10, m11, m12⟩ := H5.cell13; have f3 := H5.free 3; have f4 := H5.free 4))
  all_goals
    have H6 : BxS _ w2.heap.size 96 #[.int .i64 (cr : Int), .int .i64 nx, .int .i64 ah, .slice aS sn cS, .slice aq qn cq, .int .i64 ti, .int .i64 pa, .int .i64 tr, .int .i64 li, .int .i64 si, .int .i64 pu, .int .i64 hl, .slice none 0 0] := (H5.set 3 (.slice aS sn cS)).set 4 (.slice aq qn cq)
    have F6 : Fz (fun i => i = w2.heap.size) w5 ((w5.setCell ⟨w2.heap.size, 3, none⟩ (.slice aS sn cS)).setCell ⟨w2.heap.size, 4, none⟩ (.slice aq qn cq)) := ((Fz.refl _ w5).step (grown_set w5 w2.heap.size 3 (.slice aS sn cS)) (fun q e _ => by cases e; rfl)).step (grown_set (w5.setCell ⟨w2.heap.size, 3, none⟩ (.slice aS sn cS)) w2.heap.size 4 (.slice aq qn cq)) (fun q e _ => by cases e; rfl)
    have OS6 := OS5.fz F6 (fun x hx => ofr_box OS5 H5 (by decide) (by decide) hx)
    have OQ6 := OQ5.fz F6 (fun x hx => ofr_box OQ5 H5 (by decide) (by decide) hx)
    have z6 := (z3.keep k5 (by simp)).fz F6 (by omega)
    have hs5 := k5.size
    generalize (w5.setCell ⟨w2.heap.size, 3, none⟩ (.slice aS sn cS)).setCell ⟨w2.heap.size, 4, none⟩ (.slice aq qn cq) = w6 at H6 F6 OS6 OQ6 z6 ⊢
    clear m0 m1 m2 m3 m4 m5 m6 m7 m8 m9 m10 m11 m12 f3 f4 c0 c1 c2 c3 c4 c5 c6 c7 c8 c9 c10 c11
    go_wp2_with (first
      | (go_at_call 75; refine (free1_ok w2.heap.size cr nx ah aS sn cS aq qn cq ti pa tr li si pu hl _ H6 hhl hcr).mono ?_; rintro e w7 ⟨ua, uc, r, rfl, H7, OU7, hr7, F7⟩))
    have z7 := z6.fz F7 (by omega)
    have OS7 := OS6.fz F7 (fun x hx => ofr_box OS6 H6 (by decide) (by decide) hx)
    have OQ7 := OQ6.fz F7 (fun x hx => ofr_box OQ6 H6 (by decide) (by decide) hx)
    obtain ⟨m0, m1, m2, m3, m4, m5, m6, m7, m8, m9, m10, m11, m12⟩ := H7.cell13
    obtain ⟨y0, y1, y2, y3, y4, y5, y6, y7, y8, y9, y10, y11⟩ := z7.cell12
    have hfr := fun i => z7.free i
    have r0 := hfr 0; have r1 := hfr 1; have r2 := hfr 2; have r3 := hfr 3; have r4 := hfr 4; have r5 := hfr 5; have r6 := hfr 6; have r7 := hfr 7; have r8 := hfr 8; have r9 := hfr 9; have r10 := hfr 10; have r11 := hfr 11
    clear hfr
    go_region_law (fail)
    all_goals
      have b9 := set12_box z7 (.int .i64 (cr : Int)) (.int .i64 nx) (.int .i64 ah) (.slice aS sn cS) (.slice aq qn cq) (.int .i64 0) (.int .i64 pa) (.int .i64 0) (.int .i64 li) (.int .i64 pu) (.int .i64 pu) (.int .i64 0)
      have g9 := set12_grown w7 w0.heap.size (.int .i64 (cr : Int)) (.int .i64 nx) (.int .i64 ah) (.slice aS sn cS) (.slice aq qn cq) (.int .i64 0) (.int .i64 pa) (.int .i64 0) (.int .i64 li) (.int .i64 pu) (.int .i64 pu) (.int .i64 0)
      unfold set12 at b9 g9
      generalize (((((((((((w7.setCell ⟨w0.heap.size, 0, none⟩ (.int .i64 (cr : Int))).setCell ⟨w0.heap.size, 1, none⟩ (.int .i64 nx)).setCell ⟨w0.heap.size, 2, none⟩ (.int .i64 ah)).setCell ⟨w0.heap.size, 3, none⟩ (.slice aS sn cS)).setCell ⟨w0.heap.size, 4, none⟩ (.slice aq qn cq)).setCell ⟨w0.heap.size, 5, none⟩ (.int .i64 0)).setCell ⟨w0.heap.size, 6, none⟩ (.int .i64 pa)).setCell ⟨w0.heap.size, 7, none⟩ (.int .i64 0)).setCell ⟨w0.heap.size, 8, none⟩ (.int .i64 li)).setCell ⟨w0.heap.size, 9, none⟩ (.int .i64 pu)).setCell ⟨w0.heap.size, 10, none⟩ (.int .i64 pu)).setCell ⟨w0.heap.size, 11, none⟩ (.int .i64 0) = w9 at b9 g9 ⊢
      have gd := grown_drew w9 none
      have F9 : Fz (fun i => i = w0.heap.size) w7 w9 := (Fz.refl _ w7).step g9 (fun q e _ => by cases e; rfl)
      have OSz := OS7
      have OQz := OQ7
      have OSe := ((OSz.fz F9 (fun x hx => ofr_box OSz z7 (by decide) (by decide) hx)).keep gd).wide G3.size
      have OQe := ((OQz.fz F9 (fun x hx => ofr_box OQz z7 (by decide) (by decide) hx)).keep gd).wide G3.size
      have OUz : OwR w7 w6.heap.size ua 1 uc [r] := OU7
      have OUe := ((OUz.fz F9 (fun x hx => ofr_box OUz z7 (by decide) (by decide) hx)).keep gd).wide (show w.heap.size ≤ w6.heap.size from Nat.le_trans G3.size (Nat.le_trans hs5 F6.size))
      have DU : ∀ x, Ofr (.slice ua 1 uc) [r] x → ¬ Ofr (.slice aS sn cS) rs x ∧ ¬ Ofr (.slice aq qn cq) qs x := fun x h1 => ⟨fun h2 => Nat.lt_irrefl x (Nat.lt_of_lt_of_le (ofr_hi OS6.bef h2) (ofr_lo OU7 h1)), fun h2 => Nat.lt_irrefl x (Nat.lt_of_lt_of_le (ofr_hi OQ6.bef h2) (ofr_lo OU7 h1))⟩
      have F57 : Fz (fun i => i = w2.heap.size) w5 w7 := F6.trans F7 (fun i _ h => h)
      have FE : Fz (fun i => i = w2.heap.size ∨ i = w0.heap.size) w5 w9 := (((Fz.refl _ w5).trans F57 (fun i _ h => .inl h))).step g9 (fun q e _ => by cases e; exact .inr rfl)
      have GE : w.grownBy w9 none := Fz.grown (grown_trans G3 k5) FE (fun i h => by have := g0.size; rcases h with h | h <;> omega)
      go_wp2
      refine bodyPost_ret (results_cell3 rfl _ _ _ ⟨w0.heap.size, 0, none⟩ _ (.slice ua 1 uc) (.int .i64 0) rfl (BxS.load (t := 50) (b9.keep gd (by simp)) Try.underlying50 Try.info_hn) rfl rfl) rfl ?_
      exact ⟨aS, cS, rs, aq, cq, qs, ua, uc, r, rfl, OSe, dS, OQe, dQ, DJ, OUe, hr7, DU, grown_trans GE gd⟩

set_option maxHeartbeats 8000000 in
theorem free_bad (cr : Int) (nx ah : Int) (sa : Option Addr) (sn sc : Nat) (F : Nat → Rw) (qa : Option Addr) (qn qc : Nat) (K : Nat → Rw) (ti pa tr li si pu hl : Int) (w : World) (hS : RdR w sa sn sc F) (hQ : RdR w qa qn qc K) (hM : hnB cr nx ah sn F qn K ti pa tr li si pu hl = false) :
    Calls Try.prog 42 #[.agg (hnA cr nx ah (.slice sa sn sc) (.slice qa qn qc) ti pa tr li si pu hl)] w fun e w' => e = .returned (.tuple #[.agg #[.int .i64 0, .int .i64 0, .int .i64 0, .slice none 0 0, .slice none 0 0, .int .i64 0, .int .i64 0, .int .i64 0, .int .i64 0, .int .i64 0, .int .i64 0, .int .i64 0], .slice none 0 0, .int .i64 11]) ∧ w.grownBy w' none := by
  have h0 := fun wz h1 h2 => apart_bad (.func (Fn.func 75) #[] #[]) cr nx ah sa sn sc F qa qn qc K ti pa tr li si pu hl wz h1 h2 hM
  unfold hnA at h0 ⊢
  have b0 := BxS.new w 50 #[.int .i64 cr, .int .i64 nx, .int .i64 ah, .slice sa sn sc, .slice qa qn qc, .int .i64 ti, .int .i64 pa, .int .i64 tr, .int .i64 li, .int .i64 si, .int .i64 pu, .int .i64 hl]
  have g0 := World.grownBy_alloc w (.cells #[.int .i64 cr, .int .i64 nx, .int .i64 ah, .slice sa sn sc, .slice qa qn qc, .int .i64 ti, .int .i64 pa, .int .i64 tr, .int .i64 li, .int .i64 si, .int .i64 pu, .int .i64 hl] 50) none
  generalize hw0 : w.alloc (.cells #[.int .i64 cr, .int .i64 nx, .int .i64 ah, .slice sa sn sc, .slice qa qn qc, .int .i64 ti, .int .i64 pa, .int .i64 tr, .int .i64 li, .int .i64 si, .int .i64 pu, .int .i64 hl] 50) = w0 at b0 g0
  have z0 := BxS.new w0 50 #[.int .i64 0, .int .i64 0, .int .i64 0, .slice none 0 0, .slice none 0 0, .int .i64 0, .int .i64 0, .int .i64 0, .int .i64 0, .int .i64 0, .int .i64 0, .int .i64 0]
  have g1 := World.grownBy_alloc w0 (.cells #[.int .i64 0, .int .i64 0, .int .i64 0, .slice none 0 0, .slice none 0 0, .int .i64 0, .int .i64 0, .int .i64 0, .int .i64 0, .int .i64 0, .int .i64 0, .int .i64 0] 50) none
  generalize hw1 : w0.alloc (.cells #[.int .i64 0, .int .i64 0, .int .i64 0, .slice none 0 0, .slice none 0 0, .int .i64 0, .int .i64 0, .int .i64 0, .int .i64 0, .int .i64 0, .int .i64 0, .int .i64 0] 50) = w1 at z0 g1
  have B1 := b0.keep g1 (by simp)
  obtain ⟨c0, c1, c2, c3, c4, c5, c6, c7, c8, c9, c10, c11⟩ := B1.cell12
  have G1 := grown_trans g0 g1
  have i12 := Try.info_hn
  have l1 := z0.lt
  have hs0 := g0.size
  have t1 : True := trivial
  go_enter Try.func42, Try.ntmps42
  go_wp2_with (first
    | (go_at_call 67; have _t := t1; clear t1; refine (h0 w1 (hS.keep G1) (hQ.keep G1)).mono ?_; rintro e w2 ⟨rfl, g2⟩; have z2 := z0.keep g2 (by simp); have t2 : True := trivial)
    | (have _t := t2; refine wpList_stX _ rfl _ (.tmp 2) (.tmp 7) rfl w0.heap.size _ _ rfl rfl z2 i12 rfl (by simp [Value.oneCell']) ?_; clear t2; intro w9 b9 g9))
  refine bodyPost_ret (results_cell3 rfl _ _ _ ⟨w0.heap.size, 0, none⟩ _ (.slice none 0 0) (.int .i64 11) rfl (BxS.load (t := 50) b9 Try.underlying50 Try.info_hn) rfl rfl) rfl ?_
  exact ⟨rfl, grown_far (grown_trans G1 g2) g9 (fun q e => by cases e; exact g0.size)⟩
set_option maxHeartbeats 8000000 in
theorem free_no (cr : Nat) (nx ah : Int) (sa : Option Addr) (sn sc : Nat) (F : Nat → Rw) (qa : Option Addr) (qn qc : Nat) (K : Nat → Rw) (ti pa tr li si pu hl : Int) (w : World) (hS : RdR w sa sn sc F) (hQ : RdR w qa qn qc K) (hM : hnB cr nx ah sn F qn K ti pa tr li si pu hl = true) (hfS : ∀ i, i < sn → 1 ≤ (F i).n ∧ (F i).n ≤ 1017) (hnS : sn ≤ 1000) (hfQ : ∀ i, i < qn → 1 ≤ (K i).n ∧ (K i).n ≤ 1017) (hnQ : qn ≤ 1000) (hh1 : hl ≠ 15) (hh2 : hl ≠ 19) :
    Calls Try.prog 42 #[.agg (hnA cr nx ah (.slice sa sn sc) (.slice qa qn qc) ti pa tr li si pu hl)] w fun e w' => ∃ aS cS rs aq cq qs, e = .returned (.tuple #[.agg #[.int .i64 (cr : Int), .int .i64 nx, .int .i64 ah, .slice aS sn cS, .slice aq qn cq, .int .i64 ti, .int .i64 pa, .int .i64 tr, .int .i64 li, .int .i64 si, .int .i64 pu, .int .i64 hl], .slice none 0 0, .int .i64 6]) ∧ OwR w' w.heap.size aS sn cS rs ∧ (∀ i, i < sn → (rs.getD i kr0).D = (F i).D) ∧ OwR w' w.heap.size aq qn cq qs ∧ (∀ i, i < qn → (qs.getD i kr0).D = (K i).D) ∧ (∀ x, Ofr (.slice aS sn cS) rs x → ¬ Ofr (.slice aq qn cq) qs x) ∧ w.grownBy w' none := by
  have h0 := fun wz h1 h2 => apart_free_no cr nx ah sa sn sc F qa qn qc K ti pa tr li si pu hl wz h1 h2 hM hfS hnS hfQ hnQ hh1 hh2
  unfold hnA at h0 ⊢
  have b0 := BxS.new w 50 #[.int .i64 cr, .int .i64 nx, .int .i64 ah, .slice sa sn sc, .slice qa qn qc, .int .i64 ti, .int .i64 pa, .int .i64 tr, .int .i64 li, .int .i64 si, .int .i64 pu, .int .i64 hl]
  have g0 := World.grownBy_alloc w (.cells #[.int .i64 cr, .int .i64 nx, .int .i64 ah, .slice sa sn sc, .slice qa qn qc, .int .i64 ti, .int .i64 pa, .int .i64 tr, .int .i64 li, .int .i64 si, .int .i64 pu, .int .i64 hl] 50) none
  generalize hw0 : w.alloc (.cells #[.int .i64 cr, .int .i64 nx, .int .i64 ah, .slice sa sn sc, .slice qa qn qc, .int .i64 ti, .int .i64 pa, .int .i64 tr, .int .i64 li, .int .i64 si, .int .i64 pu, .int .i64 hl] 50) = w0 at b0 g0
  have z0 := BxS.new w0 50 #[.int .i64 0, .int .i64 0, .int .i64 0, .slice none 0 0, .slice none 0 0, .int .i64 0, .int .i64 0, .int .i64 0, .int .i64 0, .int .i64 0, .int .i64 0, .int .i64 0]
  have g1 := World.grownBy_alloc w0 (.cells #[.int .i64 0, .int .i64 0, .int .i64 0, .slice none 0 0, .slice none 0 0, .int .i64 0, .int .i64 0, .int .i64 0, .int .i64 0, .int .i64 0, .int .i64 0, .int .i64 0] 50) none
  generalize hw1 : w0.alloc (.cells #[.int .i64 0, .int .i64 0, .int .i64 0, .slice none 0 0, .slice none 0 0, .int .i64 0, .int .i64 0, .int .i64 0, .int .i64 0, .int .i64 0, .int .i64 0, .int .i64 0] 50) = w1 at z0 g1
  have B1 := b0.keep g1 (by simp)
  obtain ⟨c0, c1, c2, c3, c4, c5, c6, c7, c8, c9, c10, c11⟩ := B1.cell12
  have G1 := grown_trans g0 g1
  have i12 := Try.info_hn
  have l1 := z0.lt
  have hs0 := g0.size
  have t1 : True := trivial
  go_enter Try.func42, Try.ntmps42
  go_wp2_with (first
    | (go_at_call 67; have _t := t1; clear t1; refine (h0 w1 (hS.keep G1) (hQ.keep G1)).mono ?_; rintro e w2 ⟨aS, cS, rs, aq, cq, qs, rfl, OS2, dS, OQ2, dQ, DJ, g2⟩; have z2 := z0.keep g2 (by simp); have t2 : True := trivial)
    | (have _t := t2; refine wpList_stX _ rfl _ (.tmp 2) (.tmp 7) rfl w0.heap.size _ _ rfl rfl z2 i12 rfl (by simp [Value.oneCell']) ?_; clear t2; intro w9 b9 g9))
  refine bodyPost_ret (results_cell3 rfl _ _ _ ⟨w0.heap.size, 0, none⟩ _ (.slice none 0 0) (.int .i64 6) rfl (BxS.load (t := 50) b9 Try.underlying50 Try.info_hn) rfl rfl) rfl ?_
  have hOS := (OS2.kept g9 l1).wide G1.size
  have hOQ := (OQ2.kept g9 l1).wide G1.size
  have GE := grown_far (grown_trans G1 g2) g9 (fun q e => by cases e; exact g0.size)
  exact ⟨aS, cS, rs, aq, cq, qs, rfl, hOS, dS, hOQ, dQ, DJ, GE⟩
set_option maxHeartbeats 8000000 in
theorem free_ok (cr : Nat) (nx ah : Int) (sa : Option Addr) (sn sc : Nat) (F : Nat → Rw) (qa : Option Addr) (qn qc : Nat) (K : Nat → Rw) (ti pa tr li si pu hl : Int) (w : World) (hS : RdR w sa sn sc F) (hQ : RdR w qa qn qc K) (hM : hnB cr nx ah sn F qn K ti pa tr li si pu hl = true) (hfS : ∀ i, i < sn → 1 ≤ (F i).n ∧ (F i).n ≤ 1017) (hnS : sn ≤ 1000) (hfQ : ∀ i, i < qn → 1 ≤ (K i).n ∧ (K i).n ≤ 1017) (hnQ : qn ≤ 1000) (hhl : hl = 15 ∨ hl = 19) (hcr : cr < 1024) :
    Calls Try.prog 42 #[.agg (hnA cr nx ah (.slice sa sn sc) (.slice qa qn qc) ti pa tr li si pu hl)] w fun e w' => ∃ aS cS rs aq cq qs ua uc r, e = .returned (.tuple #[.agg #[.int .i64 (cr : Int), .int .i64 nx, .int .i64 ah, .slice aS sn cS, .slice aq qn cq, .int .i64 0, .int .i64 pa, .int .i64 0, .int .i64 li, .int .i64 pu, .int .i64 pu, .int .i64 0], .slice ua 1 uc, .int .i64 0]) ∧ OwR w' w.heap.size aS sn cS rs ∧ (∀ i, i < sn → (rs.getD i kr0).D = (F i).D) ∧ OwR w' w.heap.size aq qn cq qs ∧ (∀ i, i < qn → (qs.getD i kr0).D = (K i).D) ∧ (∀ x, Ofr (.slice aS sn cS) rs x → ¬ Ofr (.slice aq qn cq) qs x) ∧ OwR w' w.heap.size ua 1 uc [r] ∧ r.D = orL cr true true 0 [0] ∧ (∀ x, Ofr (.slice ua 1 uc) [r] x → ¬ Ofr (.slice aS sn cS) rs x ∧ ¬ Ofr (.slice aq qn cq) qs x) ∧ w.grownBy w' none := by
  have h0 := fun wz h1 h2 => apart_free_ok cr nx ah sa sn sc F qa qn qc K ti pa tr li si pu hl wz h1 h2 hM hfS hnS hfQ hnQ hhl hcr
  unfold hnA at h0 ⊢
  have b0 := BxS.new w 50 #[.int .i64 cr, .int .i64 nx, .int .i64 ah, .slice sa sn sc, .slice qa qn qc, .int .i64 ti, .int .i64 pa, .int .i64 tr, .int .i64 li, .int .i64 si, .int .i64 pu, .int .i64 hl]
  have g0 := World.grownBy_alloc w (.cells #[.int .i64 cr, .int .i64 nx, .int .i64 ah, .slice sa sn sc, .slice qa qn qc, .int .i64 ti, .int .i64 pa, .int .i64 tr, .int .i64 li, .int .i64 si, .int .i64 pu, .int .i64 hl] 50) none
  generalize hw0 : w.alloc (.cells #[.int .i64 cr, .int .i64 nx, .int .i64 ah, .slice sa sn sc, .slice qa qn qc, .int .i64 ti, .int .i64 pa, .int .i64 tr, .int .i64 li, .int .i64 si, .int .i64 pu, .int .i64 hl] 50) = w0 at b0 g0
  have z0 := BxS.new w0 50 #[.int .i64 0, .int .i64 0, .int .i64 0, .slice none 0 0, .slice none 0 0, .int .i64 0, .int .i64 0, .int .i64 0, .int .i64 0, .int .i64 0, .int .i64 0, .int .i64 0]
  have g1 := World.grownBy_alloc w0 (.cells #[.int .i64 0, .int .i64 0, .int .i64 0, .slice none 0 0, .slice none 0 0, .int .i64 0, .int .i64 0, .int .i64 0, .int .i64 0, .int .i64 0, .int .i64 0, .int .i64 0] 50) none
  generalize hw1 : w0.alloc (.cells #[.int .i64 0, .int .i64 0, .int .i64 0, .slice none 0 0, .slice none 0 0, .int .i64 0, .int .i64 0, .int .i64 0, .int .i64 0, .int .i64 0, .int .i64 0, .int .i64 0] 50) = w1 at z0 g1
  have B1 := b0.keep g1 (by simp)
  obtain ⟨c0, c1, c2, c3, c4, c5, c6, c7, c8, c9, c10, c11⟩ := B1.cell12
  have G1 := grown_trans g0 g1
  have i12 := Try.info_hn
  have l1 := z0.lt
  have hs0 := g0.size
  have t1 : True := trivial
  go_enter Try.func42, Try.ntmps42
  go_wp2_with (first
    | (go_at_call 67; have _t := t1; clear t1; refine (h0 w1 (hS.keep G1) (hQ.keep G1)).mono ?_; rintro e w2 ⟨aS, cS, rs, aq, cq, qs, ua, uc, r, rfl, OS2, dS, OQ2, dQ, DJ, OU2, hr, DU, g2⟩; have z2 := z0.keep g2 (by simp); have t2 : True := trivial)
    | (have _t := t2; refine wpList_stX _ rfl _ (.tmp 2) (.tmp 7) rfl w0.heap.size _ _ rfl rfl z2 i12 rfl (by simp [Value.oneCell']) ?_; clear t2; intro w9 b9 g9))
  refine bodyPost_ret (results_cell3 rfl _ _ _ ⟨w0.heap.size, 0, none⟩ _ (.slice ua 1 uc) (.int .i64 0) rfl (BxS.load (t := 50) b9 Try.underlying50 Try.info_hn) rfl rfl) rfl ?_
  have hOS := (OS2.kept g9 l1).wide G1.size
  have hOQ := (OQ2.kept g9 l1).wide G1.size
  have GE := grown_far (grown_trans G1 g2) g9 (fun q e => by cases e; exact g0.size)
  have hOU := (OU2.kept g9 l1).wide G1.size
  exact ⟨aS, cS, rs, aq, cq, qs, ua, uc, r, rfl, hOS, dS, hOQ, dQ, DJ, hOU, hr, DU, GE⟩

/-- what Encode answers -/
def ordB (cr : Int) (bp co : Bool) (sq : Int) (D : List Nat) : List Nat := if orE cr bp co sq D.length = 0 then orL cr.toNat bp co sq.toNat D else []
theorem orL_len (cr : Nat) (bp co : Bool) (sq : Nat) (D : List Nat) : (orL cr bp co sq D).length = D.length + 7 := by
  unfold orL orP hoL
  simp
theorem ordB_len (cr : Int) (bp co : Bool) (sq : Int) (D : List Nat) : (ordB cr bp co sq D).length ≤ 1024 := by
  unfold ordB
  split
  · rename_i h
    have := (orE_ok h).2.2.2
    rw [orL_len]; omega
  · simp
set_option maxHeartbeats 4000000 in
theorem kenc_any (cr : Int) (bp co : Bool) (sq : Int) (a : Option Addr) (n c : Nat) (D : List Nat) (w : World) (hR : Rd w a n c D) :
    Calls Try.prog 15 #[.agg (orA cr bp co sq a n c)] w fun e w' => ∃ a' n' c', e = .returned (.tuple #[.slice a' n' c', .int .i64 (orE cr bp co sq n : Nat)]) ∧ Ans w' w.heap.size a' n' c' (ordB cr bp co sq D) ∧ w.grownBy w' none := by
  have HL : Hid (D.length = n) := hR.len
  have hW := fun wz => worder_any cr bp co sq a n c wz
  have b0 := BxS.new w 24 (orA cr bp co sq a n c)
  have g0 := World.grownBy_alloc w (.cells (orA cr bp co sq a n c) 24) none
  have t1 : True := trivial
  by_cases hE : orE cr bp co sq n = 0
  · obtain ⟨⟨r1, r2⟩, ⟨s1, s2⟩, _, n1, n2⟩ := orE_ok hE
    obtain ⟨cr, rfl⟩ := Int.eq_ofNat_of_zero_le r1
    obtain ⟨sq, rfl⟩ := Int.eq_ofNat_of_zero_le s1
    have HO : Hid (ordB (cr : Int) bp co (sq : Int) D = orL cr bp co sq D) := by show _ = _; unfold ordB; rw [HL.out, if_pos hE]; rfl
    rw [hE] at hW ⊢
    have hB := fun wz hz => obytes_any cr bp co sq a n c D wz hz (by omega) (by omega) n1 n2
    generalize ordB (cr : Int) bp co (sq : Int) D = O at HO ⊢
    generalize orL cr bp co sq D = L at HO hB
    unfold orA at hW hB b0 g0 ⊢
    generalize hw0 : w.alloc (.cells #[.int .i64 (cr : Int), .bool bp, .bool co, .int .i64 (sq : Int), .slice a n c] 24) = w0 at b0 g0
    obtain ⟨c0, c1, c2, c3, c4⟩ := b0.cell5
    go_enter Try.func15, Try.ntmps15
    go_wp2_with (first
      | (go_at_call 49; refine (hW _).mono ?_; rintro e w1 ⟨rfl, g1⟩; have g01 := grown_trans g0 g1; clear c0 c1 c2 c3 c4; obtain ⟨c0, c1, c2, c3, c4⟩ := (b0.keep g1 (by simp)).cell5)
      | (go_at_call 50; refine (hB w1 (hR.keep g01)).mono ?_; rintro e w2 ⟨a2, c2', rfl, hA2, g2⟩))
    go_ret2
    exact ⟨_, _, _, rfl, by rw [HO.out]; exact hA2.wide g01.size, grown_trans g01 g2⟩
  · have HO : Hid (ordB cr bp co sq D = []) := by show _ = _; unfold ordB; rw [HL.out, if_neg hE]
    generalize orE cr bp co sq n = E at hW hE ⊢
    generalize ordB cr bp co sq D = O at HO ⊢
    unfold orA at hW b0 g0 ⊢
    generalize hw0 : w.alloc (.cells #[.int .i64 cr, .bool bp, .bool co, .int .i64 sq, .slice a n c] 24) = w0 at b0 g0
    obtain ⟨c0, c1, c2, c3, c4⟩ := b0.cell5
    have hne : (((E : Int) != 0) : Bool) = true := by simp; omega
    go_enter Try.func15, Try.ntmps15
    go_wp2_with (first
      | (go_at_call 49; refine (hW _).mono ?_; rintro e w1 ⟨rfl, g1⟩))
    go_ret2
    exact ⟨_, _, _, rfl, by rw [HO.out]; exact ans_nil _ _, grown_trans g0 g1⟩
theorem five_new (w : World) (z0 z1 z2 z3 z4 : Int) (x0 x1 x2 x3 x4 : Nat) (e0 : z0 = x0) (e1 : z1 = x1) (e2 : z2 = x2) (e3 : z3 = x3) (e4 : z4 = x4) (h0 : x0 < 256) (h1 : x1 < 256) (h2 : x2 < 256) (h3 : x3 < 256) (h4 : x4 < 256) :
    Ans (w.alloc (.cells #[.int .u8 z0, .int .u8 z1, .int .u8 z2, .int .u8 z3, .int .u8 z4] 5)) w.heap.size (some ⟨w.heap.size, 0, none⟩) 5 5 [x0, x1, x2, x3, x4] := by
  subst e0 e1 e2 e3 e4
  refine ⟨⟨rfl, .inr ⟨w.heap.size, 5, #[.int .u8 x0, .int .u8 x1, .int .u8 x2, .int .u8 x3, .int .u8 x4], rfl, Nat.zero_le _, heap_alloc_new w _, Nat.le_refl _, by decide, rfl, rfl⟩⟩, ?_, fun g hg => ?_⟩
  · intro x hx
    simp at hx
    omega
  · have e : w.heap.size = g := Option.some.inj hg
    omega
set_option maxHeartbeats 8000000 in
theorem robytes_any (cr : Int) (bp co : Bool) (sq : Int) (a : Option Addr) (n c : Nat) (D : List Nat) (w : World) (hR : Rd w a n c D) :
    Calls Try.prog 14 #[.agg (orA cr bp co sq a n c)] w fun e w' => ∃ a' n' c', e = .returned (.tuple #[.slice a' n' c', .int .i64 (orE cr bp co sq n : Nat)]) ∧ Ans w' w.heap.size a' n' c' (ordB cr bp co sq D) ∧ w.grownBy w' none := by
  have HL : Hid (D.length = n) := hR.len
  have hW := fun wz => rorder_any cr bp co sq a n c wz
  have b0 := BxS.new w 24 (orA cr bp co sq a n c)
  have g0 := World.grownBy_alloc w (.cells (orA cr bp co sq a n c) 24) none
  have t1 : True := trivial
  by_cases hE : orE cr bp co sq n = 0
  · obtain ⟨⟨r1, r2⟩, ⟨s1, s2⟩, _, n1, n2⟩ := orE_ok hE
    obtain ⟨cr, rfl⟩ := Int.eq_ofNat_of_zero_le r1
    obtain ⟨sq, rfl⟩ := Int.eq_ofNat_of_zero_le s1
    have HP : Hid (orP cr bp co sq D = [naN cr bp co / 256, naN cr bp co % 256, (n + 6) / 256, (n + 6) % 256, sq] ++ D) := by show _ = _; unfold orP hoL; rw [HL.out]; rfl
    have HO : Hid (ordB (cr : Int) bp co (sq : Int) D = orP cr bp co sq D ++ [sumB (orP cr bp co sq D) / 256, sumB (orP cr bp co sq D) % 256]) := by show _ = _; unfold ordB; rw [HL.out, if_pos hE]; rfl
    rw [hE] at hW ⊢
    have p1 := toNat_le bp
    have p2 := toNat_le co
    have hN : naN cr bp co < 65536 := by unfold naN; omega
    have hA : bits .or .i64 (bits .or .i64 ((bp.toNat : Int) * 8192) ((co.toNat : Int) * 4096)) (cr : Int) = ((naN cr bp co : Nat) : Int) := by
      rw [show ((bp.toNat : Int) * 8192) = ((bp.toNat * 2 ^ 13 : Nat) : Int) by omega, show ((co.toNat : Int) * 4096) = ((co.toNat * 4096 : Nat) : Int) by omega, or_put _ _ 13 (by omega) (by omega) (by omega),
        show bp.toNat * 2 ^ 13 + co.toNat * 4096 = (bp.toNat * 2 + co.toNat) * 2 ^ 12 by omega, or_put _ _ 12 (by omega) (by omega) (by omega)]
      unfold naN
      omega
    generalize naN cr bp co = N at HP hN hA
    generalize ordB (cr : Int) bp co (sq : Int) D = O at HO ⊢
    generalize orP cr bp co sq D = P at HO HP
    have hS := sumB_lt P
    unfold orA at hW b0 g0 ⊢
    generalize hw0 : w.alloc (.cells #[.int .i64 (cr : Int), .bool bp, .bool co, .int .i64 (sq : Int), .slice a n c] 24) = w0 at b0 g0
    obtain ⟨c0, c1, c2, c3, c4⟩ := b0.cell5
    go_enter Try.func14, Try.ntmps14
    go_wp2_with (first
      | (go_at_call 46; refine (hW _).mono ?_; rintro e w1 ⟨rfl, g1⟩; have g01 := grown_trans g0 g1; have b1 := b0.keep g1 (by simp); clear c0 c1 c2 c3 c4; obtain ⟨c0, c1, c2, c3, c4⟩ := b1.cell5))
    go_quiet ((go_at_call 47; exact Calls.quiet_of_same (bit_any _ _)))
    have g2 := grown_drewN w1 nq none
    have b2 := b1.keep g2 (by simp)
    have hR2 := (hR.keep g01).keep g2
    have G2 := grown_trans g01 g2
    generalize w1.drewN nq = w2 at g2 b2 hR2 G2 ⊢
    clear c0 c1 c2 c3 c4
    obtain ⟨c0, c1, c2, c3, c4⟩ := b2.cell5
    have hA5 := five_new w2 ((N : Int) / 256) ((N : Int) % 256) (((n : Int) + 6) / 256) (((n : Int) + 6) % 256) (sq : Int) (N / 256) (N % 256) ((n + 6) / 256) ((n + 6) % 256) sq (by omega) (by omega) (by omega) (by omega) rfl (by omega) (by omega) (by omega) (by omega) (by omega)
    have gA5 := World.grownBy_alloc w2 (.cells #[.int .u8 ((N : Int) / 256), .int .u8 ((N : Int) % 256), .int .u8 (((n : Int) + 6) / 256), .int .u8 (((n : Int) + 6) % 256), .int .u8 (sq : Int)] 5) none
    have hM5 : Mine w2 none (some ⟨w2.heap.size, 0, none⟩) 5 5 := fun g hg => .inr (by have e : w2.heap.size = g := Option.some.inj hg; omega)
    have hR5 := hR2.keep gA5
    have c5a : ∀ o, (w2.alloc o).cell? ⟨w.heap.size, 4, none⟩ = some (.slice a n c) := fun o => (b2.keep (World.grownBy_alloc w2 o none) (by simp)).cell5.2.2.2.2
    have t3 : True := trivial
    go_wp2_with (first
      | (at_builtin; have _t := t3; clear t3; refine wpList_join w2 _ rfl (.tmp 44) (.tmp 46) rfl (some ⟨w2.heap.size, 0, none⟩) 5 5 w2.heap.size none _ rfl hA5 gA5 hM5 (Nat.le_refl _) a n c D rfl hR5 (by omega) (by omega) ?_; intro gx cx w3 hA3 hG3 hM3; rw [← HP.out] at hA3)
      | (go_at_call 48; refine (rsum_any _ _ _ P w3 hA3.rd (by omega)).mono ?_; rintro e w4 ⟨rfl, g4⟩; have hA4 := hA3.keep g4; have hG4 := grown_trans hG3 g4; have gB := fun z0 z1 : Int => World.grownBy_alloc w4 (.cells #[.int .u8 z0, .int .u8 z1] 5) none; have t5 : True := trivial)
      | (at_builtin; have _t := t5; clear t5; refine wpList_join w2 _ rfl (.tmp 50) (.tmp 56) rfl _ _ _ w2.heap.size none P rfl (hA4.keep (gB _ _)) (grown_trans hG4 (gB _ _)) hM3 (Nat.le_refl _) _ 2 2 [sumB P / 256, sumB P % 256] rfl (rd_two w4 _ _ _ _ (by omega) (by omega) (by omega) (by omega)) (by decide) (by omega) ?_; intro gz cz w6 hA6 hG6 hM6))
    go_ret2
    exact ⟨_, _, _, rfl, by rw [HO.out]; exact hA6.wide G2.size, grown_trans G2 hG6⟩
  · have HO : Hid (ordB cr bp co sq D = []) := by show _ = _; unfold ordB; rw [HL.out, if_neg hE]
    generalize orE cr bp co sq n = E at hW hE ⊢
    generalize ordB cr bp co sq D = O at HO ⊢
    unfold orA at hW b0 g0 ⊢
    generalize hw0 : w.alloc (.cells #[.int .i64 cr, .bool bp, .bool co, .int .i64 sq, .slice a n c] 24) = w0 at b0 g0
    obtain ⟨c0, c1, c2, c3, c4⟩ := b0.cell5
    have hne : (((E : Int) != 0) : Bool) = true := by simp; omega
    go_enter Try.func14, Try.ntmps14
    go_wp2_with (first
      | (go_at_call 46; refine (hW _).mono ?_; rintro e w1 ⟨rfl, g1⟩))
    go_ret2
    exact ⟨_, _, _, rfl, by rw [HO.out]; exact ans_nil _ _, grown_trans g0 g1⟩

def rwD (R : List (List Nat)) (i : Nat) : Rw := ⟨none, (R.getD i []).length, 0, R.getD i []⟩
/-- may a hand be? -/
def hndB (d : Hd) : Bool := hnB d.cr d.nx d.ah d.S.length (rwD d.S) d.Q.length (rwD d.Q) d.ti d.pa d.tr d.li d.si d.pu d.hl
theorem alC_congr {F G : Nat → Rw} {n : Nat} (h : ∀ i, i < n → (F i).n = (G i).n) : alC F n = alC G n := by
  induction n with
  | zero => rfl
  | succ n ih => simp only [alC]; rw [ih (fun i hi => h i (by omega)), h n (by omega)]
theorem hnd_of {w : World} {X : Hx} {d : Hd} {F K : Nat → Rw} (hF : RdR w X.sa X.sn X.sc F) (hF2 : ∀ i, i < X.sn → (F i).D = d.S.getD i []) (hK : RdR w X.qa X.qn X.qc K) (hK2 : ∀ i, i < X.qn → (K i).D = d.Q.getD i []) (l1 : d.S.length = X.sn) (l2 : d.Q.length = X.qn) :
    hnB d.cr d.nx d.ah X.sn F X.qn K d.ti d.pa d.tr d.li d.si d.pu d.hl = hndB d := by
  unfold hndB hnB cmB
  rw [l1, l2]
  have e1 : alC F X.sn = alC (rwD d.S) X.sn := alC_congr (fun i hi => by show _ = (d.S.getD i []).length; rw [← hF2 i hi]; exact (hF.data i hi).len.symm)
  have e2 : alC K X.qn = alC (rwD d.Q) X.qn := alC_congr (fun i hi => by show _ = (d.Q.getD i []).length; rw [← hK2 i hi]; exact (hK.data i hi).len.symm)
  rw [e1, e2]
theorem hnd_ok {d : Hd} (h : hndB d = true) : (0 ≤ d.cr ∧ d.cr ≤ 1023) ∧ d.S.length ≤ 127 ∧ d.Q.length ≤ 100 ∧ Fit 1017 d.S ∧ Fit 1017 d.Q ∧ (∀ i, i < d.S.length → 1 ≤ (d.S.getD i []).length ∧ (d.S.getD i []).length ≤ 1017) ∧ (∀ i, i < d.Q.length → 1 ≤ (d.Q.getD i []).length ∧ (d.Q.getD i []).length ≤ 1017) := by
  unfold hndB hnB cmB at h
  simp only [Bool.and_eq_true, decide_eq_true_eq] at h
  obtain ⟨⟨⟨⟨⟨⟨⟨⟨⟨⟨⟨h1, h2⟩, h3⟩, h4⟩, h5⟩, h6⟩, h7, h7'⟩, h8, h8'⟩, h9⟩, h10⟩, h11⟩, h12⟩ := h
  have a1 := kwB_ok h1
  have a2 := kwB_ok h2
  have b1 : ∀ i, i < d.S.length → 1 ≤ (d.S.getD i []).length ∧ (d.S.getD i []).length ≤ 1017 := fun i hi => alC_ok h7' i hi
  have b2 : ∀ i, i < d.Q.length → 1 ≤ (d.Q.getD i []).length ∧ (d.Q.getD i []).length ≤ 1017 := fun i hi => alC_ok h8' i hi
  refine ⟨a1, by omega, by omega, fun r hr => ?_, fun r hr => ?_, b1, b2⟩
  · obtain ⟨i, hi, rfl⟩ := List.mem_iff_getElem.1 hr
    have := (b1 i hi).2
    rw [List.getD_eq_getElem?_getD, List.getElem?_eq_getElem hi] at this
    exact this
  · obtain ⟨i, hi, rfl⟩ := List.mem_iff_getElem.1 hr
    have := (b2 i hi).2
    rw [List.getD_eq_getElem?_getD, List.getElem?_eq_getElem hi] at this
    exact this
def hd0 : Hd := ⟨0, 0, 0, 0, 0, 0, 0, 0, 0, 0, [], []⟩
def hx0 : Hx := ⟨none, 0, 0, none, 0, 0⟩
theorem owHd_nil (w : World) (lo : Nat) : OwHd w lo hx0 [] [] hd0 := ⟨OwW.nil _ _, OwW.nil _ _, fun x h => absurd h (ofr_nil x)⟩
/-- may a hand go on? -/
def fOk (d : Hd) : Bool := decide (d.hl = 15 ∨ d.hl = 19)
/-- what Free answers -/
def frV (d : Hd) : Hd := if hndB d = true then (if fOk d = true then ⟨d.cr, d.nx, d.ah, 0, d.pa, 0, d.li, d.pu, d.pu, 0, d.S, d.Q⟩ else d) else hd0
def frE (d : Hd) : Nat := if hndB d = true then (if fOk d = true then 0 else 6) else 11
def frR (d : Hd) : List (List Nat) := if hndB d = true then (if fOk d = true then [orL d.cr.toNat true true 0 [0]] else []) else []
theorem free2_any (X : Hx) (d : Hd) (w : World) (h : RdHd w X d) :
    Calls Try.prog 42 #[.agg (hnV d X)] w fun e w' => ∃ (P1 : Hx) (rs1 qs1 : List Rw) (xa : Option Addr) (xn xc : Nat) (us1 : List Rw), e = .returned (.tuple #[.agg (hnV (frV d) P1), .slice xa xn xc, .int .i64 (frE d : Int)]) ∧ OwHd w' w.heap.size P1 rs1 qs1 (frV d) ∧ OwW w' w.heap.size xa xn xc us1 (frR d) ∧ (∀ x, Ofr (.slice xa xn xc) us1 x → ¬ Hbl P1 rs1 qs1 x) ∧ w.grownBy w' none := by
  obtain ⟨F, hF1, hF2⟩ := h.s.ex
  obtain ⟨K, hK1, hK2⟩ := h.q.ex
  have l1 := h.s.len
  have l2 := h.q.len
  have hq := hnd_of hF1 hF2 hK1 hK2 l1 l2
  cases hB : hndB d with
  | false =>
    rw [hB] at hq
    have e1 : frV d = hd0 := if_neg (by rw [hB]; simp)
    have e2 : frE d = 11 := if_neg (by rw [hB]; simp)
    have e3 : frR d = [] := if_neg (by rw [hB]; simp)
    refine (free_bad d.cr d.nx d.ah X.sa X.sn X.sc F X.qa X.qn X.qc K d.ti d.pa d.tr d.li d.si d.pu d.hl w hF1 hK1 hq).mono ?_
    rintro e w' ⟨rfl, hg⟩
    rw [e1, e2, e3]
    exact ⟨hx0, [], [], none, 0, 0, [], rfl, owHd_nil _ _, OwW.nil _ _, (fun x hx => absurd hx (ofr_nil x)), hg⟩
  | true =>
    rw [hB] at hq
    obtain ⟨⟨c0, c1⟩, n1, n2, _, _, f1, f2⟩ := hnd_ok hB
    obtain ⟨c, hc⟩ : ∃ c : Nat, d.cr = (c : Int) := ⟨d.cr.toNat, by omega⟩
    have g1 : ∀ i, i < X.sn → 1 ≤ (F i).n ∧ (F i).n ≤ 1017 := fun i hi => by rw [← (hF1.data i hi).len, hF2 i hi]; exact f1 i (by omega)
    have g2 : ∀ i, i < X.qn → 1 ≤ (K i).n ∧ (K i).n ≤ 1017 := fun i hi => by rw [← (hK1.data i hi).len, hK2 i hi]; exact f2 i (by omega)
    rw [hc] at hq
    cases hO : fOk d with
    | false =>
      have e1 : frV d = d := by unfold frV; rw [if_pos hB, if_neg (by rw [hO]; simp)]
      have e2 : frE d = 6 := by unfold frE; rw [if_pos hB, if_neg (by rw [hO]; simp)]
      have e3 : frR d = [] := by unfold frR; rw [if_pos hB, if_neg (by rw [hO]; simp)]
      unfold fOk at hO
      have hO := of_decide_eq_false hO
      have := free_no c d.nx d.ah X.sa X.sn X.sc F X.qa X.qn X.qc K d.ti d.pa d.tr d.li d.si d.pu d.hl w hF1 hK1 hq g1 (by omega) g2 (by omega) (fun e => hO (.inl e)) (fun e => hO (.inr e))
      unfold hnV
      rw [e1, e2, e3, hc]
      refine this.mono ?_
      rintro e w' ⟨aS, cS, rs, aq, cq, qs, rfl, o1, d1, o2, d2, ap, hg⟩
      refine ⟨⟨aS, X.sn, cS, aq, X.qn, cq⟩, rs, qs, none, 0, 0, [], rfl, ⟨⟨o1, ?_⟩, ⟨o2, ?_⟩, ap⟩, OwW.nil _ _, (fun x hx => absurd hx (ofr_nil x)), hg⟩
      · exact map_D_of rs d.S (by rw [o1.len]; omega) (fun i hi => by rw [d1 i (by omega), hF2 i (by omega)])
      · exact map_D_of qs d.Q (by rw [o2.len]; omega) (fun i hi => by rw [d2 i (by omega), hK2 i (by omega)])
    | true =>
      have e1 : frV d = ⟨d.cr, d.nx, d.ah, 0, d.pa, 0, d.li, d.pu, d.pu, 0, d.S, d.Q⟩ := by unfold frV; rw [if_pos hB, if_pos hO]
      have e2 : frE d = 0 := by unfold frE; rw [if_pos hB, if_pos hO]
      have e3 : frR d = [orL d.cr.toNat true true 0 [0]] := by unfold frR; rw [if_pos hB, if_pos hO]
      unfold fOk at hO
      have hO := of_decide_eq_true hO
      have := free_ok c d.nx d.ah X.sa X.sn X.sc F X.qa X.qn X.qc K d.ti d.pa d.tr d.li d.si d.pu d.hl w hF1 hK1 hq g1 (by omega) g2 (by omega) hO (by omega)
      rw [e1, e2, e3]
      unfold hnV
      rw [hc]
      refine this.mono ?_
      rintro e w' ⟨aS, cS, rs, aq, cq, qs, ua, uc, r, rfl, o1, d1, o2, d2, ap, o3, d3, ap3, hg⟩
      refine ⟨⟨aS, X.sn, cS, aq, X.qn, cq⟩, rs, qs, ua, 1, uc, [r], rfl, ⟨⟨o1, ?_⟩, ⟨o2, ?_⟩, ap⟩, ⟨o3, ?_⟩, (fun x hx hb => ?_), hg⟩
      · exact map_D_of rs d.S (by rw [o1.len]; omega) (fun i hi => by rw [d1 i (by omega), hF2 i (by omega)])
      · exact map_D_of qs d.Q (by rw [o2.len]; omega) (fun i hi => by rw [d2 i (by omega), hK2 i (by omega)])
      · show [r.D] = _
        rw [d3, Int.toNat_natCast]
      · rcases hb with hb | hb
        · exact (ap3 x hx).1 hb
        · exact (ap3 x hx).2 hb
end Go.Proofs.Ytnnoeeakkpaocaa
