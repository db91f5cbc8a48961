import Derived.Test.YtnnoeeakkpaocaaKHr1
import Derived.Test.YtnnoeeakkpaocaaKRd1
namespace Go.Proofs.Ytnnoeeakkpaocaa
open Go.RowKit
set_option maxRecDepth 100000
set_option linter.unusedVariables false
set_option linter.unusedSimpArgs false

set_option maxHeartbeats 64000000 in
/-- the document's HandMay -/
theorem rhmay_any (cr nx ah : Int) (sa : Option Addr) (sn sc : Nat) (F : Nat → Rw) (qa : Option Addr) (qn qc : Nat) (K : Nat → Rw) (ti pa tr li si pu hl : Int) (w : World) (hS : RdR w sa sn sc F) (hQ : RdR w qa qn qc K) :
    Calls Try.prog 66 #[.agg (hnA cr nx ah (.slice sa sn sc) (.slice qa qn qc) ti pa tr li si pu hl)] w fun e w' => e = .returned (.bool (hnB cr nx ah sn F qn K ti pa tr li si pu hl)) ∧ w.grownBy w' none := by
  have h0 := fun wz => rready_any cr ah pa pu li wz
  have hS1 := fun wz hz => ordered_any sa sn sc F wz hz
  have hQ1 := fun wz hz => ordered_any qa qn qc K wz hz
  have HB : Hid (hnB cr nx ah sn F qn K ti pa tr li si pu hl = (reB cr ah pa pu li && (kwB nx 0 255 && (decide ((sn : Int) ≤ ah) && alC F sn && (decide ((qn : Int) ≤ 100) && alC K qn && (kwB ti 0 (pa - 1) && (kwB tr 0 li && (kwB si 0 pu && hlB hl)))))))) := by
    show _ = _
    unfold hnB reB cmB
    simp only [Bool.and_assoc]
  have hE : reE cr ah pa pu li = if reB cr ah pa pu li = true then 0 else 2 := rfl
  generalize reX cr ah pa pu li cr = x0 at h0
  generalize reX cr ah pa pu li ah = x1 at h0
  generalize reX cr ah pa pu li pa = x2 at h0
  generalize reX cr ah pa pu li li = x3 at h0
  generalize reX cr ah pa pu li pu = x4 at h0
  rw [hE] at h0
  clear hE
  generalize hnB cr nx ah sn F qn K ti pa tr li si pu hl = Z at HB ⊢
  generalize reB cr ah pa pu li = bR at h0 HB
  generalize alC F sn = bS at hS1 HB
  generalize alC K qn = bQ at hQ1 HB
  unfold hnA at h0 ⊢
  have b0 := BxS.new w 50 #[.int .i64 cr, .int .i64 nx, .int .i64 ah, .slice sa sn sc, .slice qa qn qc, .int .i64 ti, .int .i64 pa, .int .i64 tr, .int .i64 li, .int .i64 si, .int .i64 pu, .int .i64 hl]
  have g0 := World.grownBy_alloc w (.cells #[.int .i64 cr, .int .i64 nx, .int .i64 ah, .slice sa sn sc, .slice qa qn qc, .int .i64 ti, .int .i64 pa, .int .i64 tr, .int .i64 li, .int .i64 si, .int .i64 pu, .int .i64 hl] 50) none
  generalize hw0 : w.alloc (.cells #[.int .i64 cr, .int .i64 nx, .int .i64 ah, .slice sa sn sc, .slice qa qn qc, .int .i64 ti, .int .i64 pa, .int .i64 tr, .int .i64 li, .int .i64 si, .int .i64 pu, .int .i64 hl] 50) = w0 at b0 g0
  have GA := fun wz : World => World.grownBy_alloc wz (.cells #[.int .i64 x0, .int .i64 0, .int .i64 x1, .slice none 0 0, .slice none 0 0, .int .i64 0, .int .i64 x2, .int .i64 0, .int .i64 x3, .int .i64 x4, .int .i64 x4, .int .i64 0] 50) none
  obtain ⟨c0, c1, c2, c3, c4, c5, c6, c7, c8, c9, c10, c11⟩ := b0.cell12
  have hle1 := hS.le; have hmx1 := hS.max; have hle2 := hQ.le; have hmx2 := hQ.max
  unfold maxLen at hmx1 hmx2
  cases bR
  case false =>
    have hZ : Z = false := by rw [HB.out]; rfl
    subst hZ
    clear HB
    go_enter Try.func66, Try.ntmps66
    go_wp2_with (first
      | (go_at_call 30; with_reducible refine (h0 _).mono ?_; rintro e w1 ⟨rfl, g1⟩; clear c0 c1 c2 c3 c4 c5 c6 c7 c8 c9 c10 c11; have k1 := grown_trans g1 (GA w1); have B1 := b0.keep k1 (by simp); obtain ⟨c0, c1, c2, c3, c4, c5, c6, c7, c8, c9, c10, c11⟩ := B1.cell12; have t1 : True := trivial))
    go_ret
    exact ⟨rfl, grown_trans g0 k1⟩
  by_cases n0 : 0 ≤ nx
  case neg =>
    have hZ : Z = false := by rw [HB.out, kwB_f (n := nx) (by omega)]; simp
    subst hZ
    clear HB
    have l0 : decide (nx < 0) = true := decide_eq_true (by omega)
    go_enter Try.func66, Try.ntmps66
    go_wp2_with (first
      | (go_at_call 30; with_reducible refine (h0 _).mono ?_; rintro e w1 ⟨rfl, g1⟩; clear c0 c1 c2 c3 c4 c5 c6 c7 c8 c9 c10 c11; have k1 := grown_trans g1 (GA w1); have B1 := b0.keep k1 (by simp); obtain ⟨c0, c1, c2, c3, c4, c5, c6, c7, c8, c9, c10, c11⟩ := B1.cell12; have t1 : True := trivial))
    go_ret
    exact ⟨rfl, grown_trans g0 k1⟩
  have l0 : decide (nx < 0) = false := decide_eq_false (by omega)
  by_cases n1 : nx ≤ 255
  case neg =>
    have hZ : Z = false := by rw [HB.out, kwB_f (n := nx) (by omega)]; simp
    subst hZ
    clear HB
    have l1 : decide (255 < nx) = true := decide_eq_true (by omega)
    go_enter Try.func66, Try.ntmps66
    go_wp2_with (first
      | (go_at_call 30; with_reducible refine (h0 _).mono ?_; rintro e w1 ⟨rfl, g1⟩; clear c0 c1 c2 c3 c4 c5 c6 c7 c8 c9 c10 c11; have k1 := grown_trans g1 (GA w1); have B1 := b0.keep k1 (by simp); obtain ⟨c0, c1, c2, c3, c4, c5, c6, c7, c8, c9, c10, c11⟩ := B1.cell12; have t1 : True := trivial))
    go_ret
    exact ⟨rfl, grown_trans g0 k1⟩
  have l1 : decide (255 < nx) = false := decide_eq_false (by omega)
  rw [kwB_t (n := nx) ⟨n0, n1⟩] at HB
  by_cases n2 : (sn : Int) ≤ ah
  case neg =>
    have hZ : Z = false := by rw [HB.out, decide_eq_false n2]; simp
    subst hZ
    clear HB
    have l2 : decide (ah < (sn : Int)) = true := decide_eq_true (by omega)
    go_enter Try.func66, Try.ntmps66
    go_wp2_with (first
      | (go_at_call 30; with_reducible refine (h0 _).mono ?_; rintro e w1 ⟨rfl, g1⟩; clear c0 c1 c2 c3 c4 c5 c6 c7 c8 c9 c10 c11; have k1 := grown_trans g1 (GA w1); have B1 := b0.keep k1 (by simp); obtain ⟨c0, c1, c2, c3, c4, c5, c6, c7, c8, c9, c10, c11⟩ := B1.cell12; have t1 : True := trivial))
    go_ret
    exact ⟨rfl, grown_trans g0 k1⟩
  have l2 : decide (ah < (sn : Int)) = false := decide_eq_false (by omega)
  rw [decide_eq_true n2] at HB
  by_cases n3 : (qn : Int) ≤ 100
  case neg =>
    have hZ : Z = false := by rw [HB.out, decide_eq_false n3]; simp
    subst hZ
    clear HB
    have l3 : decide (100 < (qn : Int)) = true := decide_eq_true (by omega)
    go_enter Try.func66, Try.ntmps66
    go_wp2_with (first
      | (go_at_call 30; with_reducible refine (h0 _).mono ?_; rintro e w1 ⟨rfl, g1⟩; clear c0 c1 c2 c3 c4 c5 c6 c7 c8 c9 c10 c11; have k1 := grown_trans g1 (GA w1); have B1 := b0.keep k1 (by simp); obtain ⟨c0, c1, c2, c3, c4, c5, c6, c7, c8, c9, c10, c11⟩ := B1.cell12; have t1 : True := trivial))
    go_ret
    exact ⟨rfl, grown_trans g0 k1⟩
  have l3 : decide (100 < (qn : Int)) = false := decide_eq_false (by omega)
  rw [decide_eq_true n3] at HB
  cases bS
  case false =>
    have hZ : Z = false := by rw [HB.out]; simp
    subst hZ
    clear HB
    go_enter Try.func66, Try.ntmps66
    go_wp2_with (first
      | (go_at_call 30; with_reducible refine (h0 _).mono ?_; rintro e w1 ⟨rfl, g1⟩; clear c0 c1 c2 c3 c4 c5 c6 c7 c8 c9 c10 c11; have k1 := grown_trans g1 (GA w1); have B1 := b0.keep k1 (by simp); obtain ⟨c0, c1, c2, c3, c4, c5, c6, c7, c8, c9, c10, c11⟩ := B1.cell12; have t1 : True := trivial)
      | (go_at_call 84; have _t := t1; clear t1; with_reducible refine (hS1 _ ((hS.keep g0).keep k1)).mono ?_; rintro e w2 ⟨rfl, g2⟩; clear c0 c1 c2 c3 c4 c5 c6 c7 c8 c9 c10 c11; have k2 := grown_trans k1 g2; obtain ⟨c0, c1, c2, c3, c4, c5, c6, c7, c8, c9, c10, c11⟩ := (b0.keep k2 (by simp)).cell12; have t2 : True := trivial))
    go_ret
    exact ⟨rfl, grown_trans g0 k2⟩
  cases bQ
  case false =>
    have hZ : Z = false := by rw [HB.out]; simp
    subst hZ
    clear HB
    go_enter Try.func66, Try.ntmps66
    go_wp2_with (first
      | (go_at_call 30; with_reducible refine (h0 _).mono ?_; rintro e w1 ⟨rfl, g1⟩; clear c0 c1 c2 c3 c4 c5 c6 c7 c8 c9 c10 c11; have k1 := grown_trans g1 (GA w1); have B1 := b0.keep k1 (by simp); obtain ⟨c0, c1, c2, c3, c4, c5, c6, c7, c8, c9, c10, c11⟩ := B1.cell12; have t1 : True := trivial)
      | (go_at_call 84; have _t := t1; clear t1; with_reducible refine (hS1 _ ((hS.keep g0).keep k1)).mono ?_; rintro e w2 ⟨rfl, g2⟩; clear c0 c1 c2 c3 c4 c5 c6 c7 c8 c9 c10 c11; have k2 := grown_trans k1 g2; obtain ⟨c0, c1, c2, c3, c4, c5, c6, c7, c8, c9, c10, c11⟩ := (b0.keep k2 (by simp)).cell12; have t2 : True := trivial)
      | (go_at_call 84; have _t := t2; clear t2; with_reducible refine (hQ1 _ ((hQ.keep g0).keep k2)).mono ?_; rintro e w3 ⟨rfl, g3⟩; clear c0 c1 c2 c3 c4 c5 c6 c7 c8 c9 c10 c11; have k3 := grown_trans k2 g3; obtain ⟨c0, c1, c2, c3, c4, c5, c6, c7, c8, c9, c10, c11⟩ := (b0.keep k3 (by simp)).cell12))
    go_ret
    exact ⟨rfl, grown_trans g0 k3⟩
  by_cases hh : hl = 0 ∨ hl = 15 ∨ hl = 11 ∨ hl = 19
  case neg =>
    have hZ : Z = false := by rw [HB.out, show hlB hl = false from decide_eq_false hh]; simp
    subst hZ
    clear HB
    have e0 : ((hl == 0) : Bool) = false := by simp; omega
    have e1 : ((hl == 15) : Bool) = false := by simp; omega
    have e2 : ((hl == 11) : Bool) = false := by simp; omega
    have e3 : ((hl == 19) : Bool) = false := by simp; omega
    clear hh
    go_enter Try.func66, Try.ntmps66
    go_wp2_with (first
      | (go_at_call 30; with_reducible refine (h0 _).mono ?_; rintro e w1 ⟨rfl, g1⟩; clear c0 c1 c2 c3 c4 c5 c6 c7 c8 c9 c10 c11; have k1 := grown_trans g1 (GA w1); have B1 := b0.keep k1 (by simp); obtain ⟨c0, c1, c2, c3, c4, c5, c6, c7, c8, c9, c10, c11⟩ := B1.cell12; have t1 : True := trivial)
      | (go_at_call 84; have _t := t1; clear t1; with_reducible refine (hS1 _ ((hS.keep g0).keep k1)).mono ?_; rintro e w2 ⟨rfl, g2⟩; clear c0 c1 c2 c3 c4 c5 c6 c7 c8 c9 c10 c11; have k2 := grown_trans k1 g2; obtain ⟨c0, c1, c2, c3, c4, c5, c6, c7, c8, c9, c10, c11⟩ := (b0.keep k2 (by simp)).cell12; have t2 : True := trivial)
      | (go_at_call 84; have _t := t2; clear t2; with_reducible refine (hQ1 _ ((hQ.keep g0).keep k2)).mono ?_; rintro e w3 ⟨rfl, g3⟩; clear c0 c1 c2 c3 c4 c5 c6 c7 c8 c9 c10 c11; have k3 := grown_trans k2 g3; obtain ⟨c0, c1, c2, c3, c4, c5, c6, c7, c8, c9, c10, c11⟩ := (b0.keep k3 (by simp)).cell12))
    go_ret
    exact ⟨rfl, grown_trans g0 k3⟩
  rw [show hlB hl = true from decide_eq_true hh, Bool.and_true] at HB
  have HB : Hid (Z = (kwB ti 0 (pa - 1) && (kwB tr 0 li && kwB si 0 pu))) := by show _ = _; rw [HB.out]; simp
  rcases hh with rfl | rfl | rfl | rfl
  all_goals
    by_cases m0 : 0 ≤ ti ∧ ti ≤ pa - 1
    · by_cases m1 : 0 ≤ tr ∧ tr ≤ li
      · by_cases m2 : 0 ≤ si ∧ si ≤ pu
        · have hZ : Z = true := by rw [HB.out, kwB_t m0, kwB_t m1, kwB_t m2]; rfl
          subst hZ
          obtain ⟨p0, p1⟩ := m0
          obtain ⟨p2, p3⟩ := m1
          obtain ⟨p4, p5⟩ := m2
          have p1' : ti < pa := by omega
          have d5 : decide (si ≤ pu) = true := decide_eq_true p5
          go_enter Try.func66, Try.ntmps66
          go_wp2_with (first
            | (go_at_call 30; with_reducible refine (h0 _).mono ?_; rintro e w1 ⟨rfl, g1⟩; clear c0 c1 c2 c3 c4 c5 c6 c7 c8 c9 c10 c11; have k1 := grown_trans g1 (GA w1); have B1 := b0.keep k1 (by simp); obtain ⟨c0, c1, c2, c3, c4, c5, c6, c7, c8, c9, c10, c11⟩ := B1.cell12; have t1 : True := trivial)
            | (go_at_call 84; have _t := t1; clear t1; with_reducible refine (hS1 _ ((hS.keep g0).keep k1)).mono ?_; rintro e w2 ⟨rfl, g2⟩; clear c0 c1 c2 c3 c4 c5 c6 c7 c8 c9 c10 c11; have k2 := grown_trans k1 g2; obtain ⟨c0, c1, c2, c3, c4, c5, c6, c7, c8, c9, c10, c11⟩ := (b0.keep k2 (by simp)).cell12; have t2 : True := trivial)
            | (go_at_call 84; have _t := t2; clear t2; with_reducible refine (hQ1 _ ((hQ.keep g0).keep k2)).mono ?_; rintro e w3 ⟨rfl, g3⟩; clear c0 c1 c2 c3 c4 c5 c6 c7 c8 c9 c10 c11; have k3 := grown_trans k2 g3; obtain ⟨c0, c1, c2, c3, c4, c5, c6, c7, c8, c9, c10, c11⟩ := (b0.keep k3 (by simp)).cell12))
          go_ret
          exact ⟨rfl, grown_trans g0 k3⟩
        · have hZ : Z = false := by rw [HB.out, kwB_f m2]; simp
          subst hZ
          obtain ⟨p0, p1⟩ := m0
          obtain ⟨p2, p3⟩ := m1
          have p1' : ti < pa := by omega
          by_cases p4 : 0 ≤ si
          · have d5 : decide (si ≤ pu) = false := decide_eq_false (by omega)
            go_enter Try.func66, Try.ntmps66
            go_wp2_with (first
              | (go_at_call 30; with_reducible refine (h0 _).mono ?_; rintro e w1 ⟨rfl, g1⟩; clear c0 c1 c2 c3 c4 c5 c6 c7 c8 c9 c10 c11; have k1 := grown_trans g1 (GA w1); have B1 := b0.keep k1 (by simp); obtain ⟨c0, c1, c2, c3, c4, c5, c6, c7, c8, c9, c10, c11⟩ := B1.cell12; have t1 : True := trivial)
              | (go_at_call 84; have _t := t1; clear t1; with_reducible refine (hS1 _ ((hS.keep g0).keep k1)).mono ?_; rintro e w2 ⟨rfl, g2⟩; clear c0 c1 c2 c3 c4 c5 c6 c7 c8 c9 c10 c11; have k2 := grown_trans k1 g2; obtain ⟨c0, c1, c2, c3, c4, c5, c6, c7, c8, c9, c10, c11⟩ := (b0.keep k2 (by simp)).cell12; have t2 : True := trivial)
              | (go_at_call 84; have _t := t2; clear t2; with_reducible refine (hQ1 _ ((hQ.keep g0).keep k2)).mono ?_; rintro e w3 ⟨rfl, g3⟩; clear c0 c1 c2 c3 c4 c5 c6 c7 c8 c9 c10 c11; have k3 := grown_trans k2 g3; obtain ⟨c0, c1, c2, c3, c4, c5, c6, c7, c8, c9, c10, c11⟩ := (b0.keep k3 (by simp)).cell12))
            go_ret
            exact ⟨rfl, grown_trans g0 k3⟩
          · have d4 : decide (0 ≤ si) = false := decide_eq_false p4
            go_enter Try.func66, Try.ntmps66
            go_wp2_with (first
              | (go_at_call 30; with_reducible refine (h0 _).mono ?_; rintro e w1 ⟨rfl, g1⟩; clear c0 c1 c2 c3 c4 c5 c6 c7 c8 c9 c10 c11; have k1 := grown_trans g1 (GA w1); have B1 := b0.keep k1 (by simp); obtain ⟨c0, c1, c2, c3, c4, c5, c6, c7, c8, c9, c10, c11⟩ := B1.cell12; have t1 : True := trivial)
              | (go_at_call 84; have _t := t1; clear t1; with_reducible refine (hS1 _ ((hS.keep g0).keep k1)).mono ?_; rintro e w2 ⟨rfl, g2⟩; clear c0 c1 c2 c3 c4 c5 c6 c7 c8 c9 c10 c11; have k2 := grown_trans k1 g2; obtain ⟨c0, c1, c2, c3, c4, c5, c6, c7, c8, c9, c10, c11⟩ := (b0.keep k2 (by simp)).cell12; have t2 : True := trivial)
              | (go_at_call 84; have _t := t2; clear t2; with_reducible refine (hQ1 _ ((hQ.keep g0).keep k2)).mono ?_; rintro e w3 ⟨rfl, g3⟩; clear c0 c1 c2 c3 c4 c5 c6 c7 c8 c9 c10 c11; have k3 := grown_trans k2 g3; obtain ⟨c0, c1, c2, c3, c4, c5, c6, c7, c8, c9, c10, c11⟩ := (b0.keep k3 (by simp)).cell12))
            go_ret
            exact ⟨rfl, grown_trans g0 k3⟩
      · have hZ : Z = false := by rw [HB.out, kwB_f m1]; simp
        subst hZ
        obtain ⟨p0, p1⟩ := m0
        have p1' : ti < pa := by omega
        by_cases p2 : 0 ≤ tr
        · have d3 : decide (tr ≤ li) = false := decide_eq_false (by omega)
          go_enter Try.func66, Try.ntmps66
          go_wp2_with (first
            | (go_at_call 30; with_reducible refine (h0 _).mono ?_; rintro e w1 ⟨rfl, g1⟩; clear c0 c1 c2 c3 c4 c5 c6 c7 c8 c9 c10 c11; have k1 := grown_trans g1 (GA w1); have B1 := b0.keep k1 (by simp); obtain ⟨c0, c1, c2, c3, c4, c5, c6, c7, c8, c9, c10, c11⟩ := B1.cell12; have t1 : True := trivial)
            | (go_at_call 84; have _t := t1; clear t1; with_reducible refine (hS1 _ ((hS.keep g0).keep k1)).mono ?_; rintro e w2 ⟨rfl, g2⟩; clear c0 c1 c2 c3 c4 c5 c6 c7 c8 c9 c10 c11; have k2 := grown_trans k1 g2; obtain ⟨c0, c1, c2, c3, c4, c5, c6, c7, c8, c9, c10, c11⟩ := (b0.keep k2 (by simp)).cell12; have t2 : True := trivial)
            | (go_at_call 84; have _t := t2; clear t2; with_reducible refine (hQ1 _ ((hQ.keep g0).keep k2)).mono ?_; rintro e w3 ⟨rfl, g3⟩; clear c0 c1 c2 c3 c4 c5 c6 c7 c8 c9 c10 c11; have k3 := grown_trans k2 g3; obtain ⟨c0, c1, c2, c3, c4, c5, c6, c7, c8, c9, c10, c11⟩ := (b0.keep k3 (by simp)).cell12))
          go_ret
          exact ⟨rfl, grown_trans g0 k3⟩
        · have d2 : decide (0 ≤ tr) = false := decide_eq_false p2
          go_enter Try.func66, Try.ntmps66
          go_wp2_with (first
            | (go_at_call 30; with_reducible refine (h0 _).mono ?_; rintro e w1 ⟨rfl, g1⟩; clear c0 c1 c2 c3 c4 c5 c6 c7 c8 c9 c10 c11; have k1 := grown_trans g1 (GA w1); have B1 := b0.keep k1 (by simp); obtain ⟨c0, c1, c2, c3, c4, c5, c6, c7, c8, c9, c10, c11⟩ := B1.cell12; have t1 : True := trivial)
            | (go_at_call 84; have _t := t1; clear t1; with_reducible refine (hS1 _ ((hS.keep g0).keep k1)).mono ?_; rintro e w2 ⟨rfl, g2⟩; clear c0 c1 c2 c3 c4 c5 c6 c7 c8 c9 c10 c11; have k2 := grown_trans k1 g2; obtain ⟨c0, c1, c2, c3, c4, c5, c6, c7, c8, c9, c10, c11⟩ := (b0.keep k2 (by simp)).cell12; have t2 : True := trivial)
            | (go_at_call 84; have _t := t2; clear t2; with_reducible refine (hQ1 _ ((hQ.keep g0).keep k2)).mono ?_; rintro e w3 ⟨rfl, g3⟩; clear c0 c1 c2 c3 c4 c5 c6 c7 c8 c9 c10 c11; have k3 := grown_trans k2 g3; obtain ⟨c0, c1, c2, c3, c4, c5, c6, c7, c8, c9, c10, c11⟩ := (b0.keep k3 (by simp)).cell12))
          go_ret
          exact ⟨rfl, grown_trans g0 k3⟩
    · have hZ : Z = false := by rw [HB.out, kwB_f m0]; simp
      subst hZ
      by_cases p0 : 0 ≤ ti
      · have d1 : decide (ti < pa) = false := decide_eq_false (by omega)
        go_enter Try.func66, Try.ntmps66
        go_wp2_with (first
          | (go_at_call 30; with_reducible refine (h0 _).mono ?_; rintro e w1 ⟨rfl, g1⟩; clear c0 c1 c2 c3 c4 c5 c6 c7 c8 c9 c10 c11; have k1 := grown_trans g1 (GA w1); have B1 := b0.keep k1 (by simp); obtain ⟨c0, c1, c2, c3, c4, c5, c6, c7, c8, c9, c10, c11⟩ := B1.cell12; have t1 : True := trivial)
          | (go_at_call 84; have _t := t1; clear t1; with_reducible refine (hS1 _ ((hS.keep g0).keep k1)).mono ?_; rintro e w2 ⟨rfl, g2⟩; clear c0 c1 c2 c3 c4 c5 c6 c7 c8 c9 c10 c11; have k2 := grown_trans k1 g2; obtain ⟨c0, c1, c2, c3, c4, c5, c6, c7, c8, c9, c10, c11⟩ := (b0.keep k2 (by simp)).cell12; have t2 : True := trivial)
          | (go_at_call 84; have _t := t2; clear t2; with_reducible refine (hQ1 _ ((hQ.keep g0).keep k2)).mono ?_; rintro e w3 ⟨rfl, g3⟩; clear c0 c1 c2 c3 c4 c5 c6 c7 c8 c9 c10 c11; have k3 := grown_trans k2 g3; obtain ⟨c0, c1, c2, c3, c4, c5, c6, c7, c8, c9, c10, c11⟩ := (b0.keep k3 (by simp)).cell12))
        go_ret
        exact ⟨rfl, grown_trans g0 k3⟩
      · have d0 : decide (0 ≤ ti) = false := decide_eq_false p0
        go_enter Try.func66, Try.ntmps66
        go_wp2_with (first
          | (go_at_call 30; with_reducible refine (h0 _).mono ?_; rintro e w1 ⟨rfl, g1⟩; clear c0 c1 c2 c3 c4 c5 c6 c7 c8 c9 c10 c11; have k1 := grown_trans g1 (GA w1); have B1 := b0.keep k1 (by simp); obtain ⟨c0, c1, c2, c3, c4, c5, c6, c7, c8, c9, c10, c11⟩ := B1.cell12; have t1 : True := trivial)
          | (go_at_call 84; have _t := t1; clear t1; with_reducible refine (hS1 _ ((hS.keep g0).keep k1)).mono ?_; rintro e w2 ⟨rfl, g2⟩; clear c0 c1 c2 c3 c4 c5 c6 c7 c8 c9 c10 c11; have k2 := grown_trans k1 g2; obtain ⟨c0, c1, c2, c3, c4, c5, c6, c7, c8, c9, c10, c11⟩ := (b0.keep k2 (by simp)).cell12; have t2 : True := trivial)
          | (go_at_call 84; have _t := t2; clear t2; with_reducible refine (hQ1 _ ((hQ.keep g0).keep k2)).mono ?_; rintro e w3 ⟨rfl, g3⟩; clear c0 c1 c2 c3 c4 c5 c6 c7 c8 c9 c10 c11; have k3 := grown_trans k2 g3; obtain ⟨c0, c1, c2, c3, c4, c5, c6, c7, c8, c9, c10, c11⟩ := (b0.keep k3 (by simp)).cell12))
        go_ret
        exact ⟨rfl, grown_trans g0 k3⟩
end Go.Proofs.Ytnnoeeakkpaocaa
