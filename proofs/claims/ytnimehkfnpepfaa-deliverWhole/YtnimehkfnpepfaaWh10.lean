import Derived.Test.YtnimehkfnpepfaaWh8
import Derived.Test.YtnimehkfnpepfaaWh9
namespace Go.Proofs.Ytnimehkfnpepfaa
open Go.RowKit
set_option maxRecDepth 100000
set_option linter.unusedVariables false
set_option linter.unusedSimpArgs false

section
def stB (st at' : Int) (n : Nat) (fi : Bool) : Bool := if st = 0 then true else if 1 ≤ st ∧ st ≤ 4 then (decide (at' = (n : Int)) && !fi) else false
/-- which givers may be -/
def gvB (id : Int) (nm n : Nat) (mo bu st : Int) (fi : Bool) (at' : Int) (m : Nat) (al : Bool) (ti pa tr li : Int) : Bool :=
  decide (ofE id pa li mo bu nm n = 0) && (stB st at' n fi && (kwB at' 0 n && (decide (m ≤ 1000) && (al && (kwB ti 0 (pa - 1) && kwB tr 0 li)))))
theorem of_pa {id pa li mo bu : Int} {nm n : Nat} (h : ofE id pa li mo bu nm n = 0) : 1 ≤ pa ∧ pa ≤ 1000 := by
  unfold ofE at h
  by_cases h1 : ofB id pa li mo bu = true
  · unfold ofB dsB kwB at h1
    simp only [Bool.and_eq_true, decide_eq_true_eq] at h1
    omega
  · rw [if_neg h1] at h; cases h

set_option maxHeartbeats 8000000 in
theorem stageMay_any (id : Int) (nm : ByteArray) (a : Option Addr) (n c : Nat) (mo bu st : Int) (fi : Bool) (at' : Int) (q : Option Addr) (m d : Nat) (ti pa tr li : Int) (w : World) : Calls Try.prog 91 #[.agg (gvA id nm (.slice a n c) mo bu st fi at' (.slice q m d) ti pa tr li)] w fun e w' => e = .returned (.bool (stB st at' n fi)) ∧ w.grownBy w' none := by
  have b0 := BxS.new w 44 #[.int .i64 id, .string nm, .slice a n c, .int .i64 mo, .int .i64 bu, .int .i64 st, .bool fi, .int .i64 at', .slice q m d, .int .i64 ti, .int .i64 pa, .int .i64 tr, .int .i64 li]
  have g0 := World.grownBy_alloc w (.cells #[.int .i64 id, .string nm, .slice a n c, .int .i64 mo, .int .i64 bu, .int .i64 st, .bool fi, .int .i64 at', .slice q m d, .int .i64 ti, .int .i64 pa, .int .i64 tr, .int .i64 li] 44) none
  unfold gvA
  generalize hw0 : w.alloc (.cells #[.int .i64 id, .string nm, .slice a n c, .int .i64 mo, .int .i64 bu, .int .i64 st, .bool fi, .int .i64 at', .slice q m d, .int .i64 ti, .int .i64 pa, .int .i64 tr, .int .i64 li] 44) = w0 at b0 g0
  obtain ⟨e0, e1, e2, e3, e4, e5, e6, e7, e8, e9, e10, e11, e12⟩ := BxS.cell13 b0
  unfold stB
  by_cases h0 : st = 0
  · subst h0
    rw [if_pos rfl]
    go_enter Try.func91, Try.ntmps91
    go_wp2
    go_ret
    exact ⟨rfl, g0⟩
  · rw [if_neg h0]
    by_cases hr : 1 ≤ st ∧ st ≤ 4
    · rw [if_pos hr]
      rcases (by omega : st = 1 ∨ st = 2 ∨ st = 3 ∨ st = 4) with rfl | rfl | rfl | rfl
      · by_cases ha : at' = (n : Int)
        · subst ha
          rw [show decide ((n : Int) = (n : Int)) = true from decide_eq_true rfl, Bool.true_and]
          clear h0 hr
          go_enter Try.func91, Try.ntmps91
          go_wp2
          go_ret
          exact ⟨rfl, g0⟩
        · rw [decide_eq_false ha, Bool.false_and]
          clear h0 hr
          go_enter Try.func91, Try.ntmps91
          go_wp2
          go_ret
          exact ⟨rfl, g0⟩
      · by_cases ha : at' = (n : Int)
        · subst ha
          rw [show decide ((n : Int) = (n : Int)) = true from decide_eq_true rfl, Bool.true_and]
          clear h0 hr
          go_enter Try.func91, Try.ntmps91
          go_wp2
          go_ret
          exact ⟨rfl, g0⟩
        · rw [decide_eq_false ha, Bool.false_and]
          clear h0 hr
          go_enter Try.func91, Try.ntmps91
          go_wp2
          go_ret
          exact ⟨rfl, g0⟩
      · by_cases ha : at' = (n : Int)
        · subst ha
          rw [show decide ((n : Int) = (n : Int)) = true from decide_eq_true rfl, Bool.true_and]
          clear h0 hr
          go_enter Try.func91, Try.ntmps91
          go_wp2
          go_ret
          exact ⟨rfl, g0⟩
        · rw [decide_eq_false ha, Bool.false_and]
          clear h0 hr
          go_enter Try.func91, Try.ntmps91
          go_wp2
          go_ret
          exact ⟨rfl, g0⟩
      · by_cases ha : at' = (n : Int)
        · subst ha
          rw [show decide ((n : Int) = (n : Int)) = true from decide_eq_true rfl, Bool.true_and]
          clear h0 hr
          go_enter Try.func91, Try.ntmps91
          go_wp2
          go_ret
          exact ⟨rfl, g0⟩
        · rw [decide_eq_false ha, Bool.false_and]
          clear h0 hr
          go_enter Try.func91, Try.ntmps91
          go_wp2
          go_ret
          exact ⟨rfl, g0⟩
    · rw [if_neg hr]
      have n1 : ¬ st = 1 := by omega
      have n2 : ¬ st = 2 := by omega
      have n3 : ¬ st = 3 := by omega
      have n4 : ¬ st = 4 := by omega
      clear hr
      go_enter Try.func91, Try.ntmps91
      go_wp2
      go_ret
      exact ⟨rfl, g0⟩

set_option maxHeartbeats 16000000 in
theorem giverMay_any (id : Int) (nm : ByteArray) (a : Option Addr) (n c : Nat) (mo bu st : Int) (fi : Bool) (at' : Int) (q : Option Addr) (m d : Nat) (ti pa tr li : Int) (F : Nat → Int × Int) (w : World) (hG : RdG w q m d F) (hpa : -9223372036854775808 ≤ pa ∧ pa ≤ 9223372036854775807) : Calls Try.prog 66 #[.agg (gvA id nm (.slice a n c) mo bu st fi at' (.slice q m d) ti pa tr li)] w fun e w' => e = .returned (.bool (gvB id nm.size n mo bu st fi at' m (alG F n m) ti pa tr li)) ∧ w.grownBy w' none := by
  have b0 := BxS.new w 44 #[.int .i64 id, .string nm, .slice a n c, .int .i64 mo, .int .i64 bu, .int .i64 st, .bool fi, .int .i64 at', .slice q m d, .int .i64 ti, .int .i64 pa, .int .i64 tr, .int .i64 li]
  have g0 := World.grownBy_alloc w (.cells #[.int .i64 id, .string nm, .slice a n c, .int .i64 mo, .int .i64 bu, .int .i64 st, .bool fi, .int .i64 at', .slice q m d, .int .i64 ti, .int .i64 pa, .int .i64 tr, .int .i64 li] 44) none
  have k0 := fun wz => wrongOffer_any id nm a n c mo bu st fi at' (.slice q m d) ti pa tr li wz
  have k1 := fun wz => stageMay_any id nm a n c mo bu st fi at' q m d ti pa tr li wz
  have k2 := fun wz => dwithin_any at' 0 n wz
  have k3 := fun wz (hz : w.grownBy wz none) => gapsMay_any q m d n F wz (hG.keep hz)
  have k4 := fun wz => dwithin_any ti 0 (pa - 1) wz
  have k5 := fun wz => dwithin_any tr 0 li wz
  unfold gvA at k0 k1 ⊢
  unfold gvB
  generalize hw0 : w.alloc (.cells #[.int .i64 id, .string nm, .slice a n c, .int .i64 mo, .int .i64 bu, .int .i64 st, .bool fi, .int .i64 at', .slice q m d, .int .i64 ti, .int .i64 pa, .int .i64 tr, .int .i64 li] 44) = w0 at b0 g0
  obtain ⟨e0, e1, e2, e3, e4, e5, e6, e7, e8, e9, e10, e11, e12⟩ := BxS.cell13 b0
  have hsb : IntKind.i64.wrap (pa - 1) = pa - 1 ∨ ofE id pa li mo bu nm.size n ≠ 0 := by
    by_cases h : ofE id pa li mo bu nm.size n = 0
    · refine .inl (wrap_i64_in _ ?_ ?_) <;> have h9 := of_pa h <;> omega
    · exact .inr h
  generalize ofE id pa li mo bu nm.size n = E at k0 hsb ⊢
  generalize stB st at' n fi = B1 at k1 ⊢
  generalize kwB at' 0 n = B2 at k2 ⊢
  generalize alG F n m = B4 at k3 ⊢
  generalize kwB ti 0 (pa - 1) = B5 at k4 ⊢
  generalize kwB tr 0 li = B6 at k5 ⊢
  have s0 : True := trivial
  by_cases hE : E = 0
  · subst hE
    have hs : IntKind.i64.wrap (pa - 1) = pa - 1 := by rcases hsb with h | h; exact h; exact absurd rfl h
    clear hsb
    rw [show decide ((0 : Nat) = 0) = true from rfl, Bool.true_and]
    cases B1
    · rw [Bool.false_and]
      go_enter Try.func66, Try.ntmps66
      go_wp2_with (first
        | (go_at_call 56; have _t := s0; clear s0; refine (k0 w0).mono ?_; rintro e w1 ⟨rfl, g1⟩; clear e0 e1 e2 e3 e4 e5 e6 e7 e8 e9 e10 e11 e12; obtain ⟨e0, e1, e2, e3, e4, e5, e6, e7, e8, e9, e10, e11, e12⟩ := BxS.cell13 (b0.keep g1 (by simp)); have G1 := grown_trans g0 g1; have s1 : True := trivial)
        | (go_at_call 91; have _t := s1; clear s1; refine (k1 w1).mono ?_; rintro e w2 ⟨rfl, g2⟩; clear e0 e1 e2 e3 e4 e5 e6 e7 e8 e9 e10 e11 e12; obtain ⟨e0, e1, e2, e3, e4, e5, e6, e7, e8, e9, e10, e11, e12⟩ := BxS.cell13 ((b0.keep g1 (by simp)).keep g2 (by simp)); have G2 := grown_trans G1 g2; have s2 : True := trivial))
      go_ret
      exact ⟨rfl, G2⟩
    · rw [Bool.true_and]
      cases B2
      · rw [Bool.false_and]
        go_enter Try.func66, Try.ntmps66
        go_wp2_with (first
          | (go_at_call 56; have _t := s0; clear s0; refine (k0 w0).mono ?_; rintro e w1 ⟨rfl, g1⟩; clear e0 e1 e2 e3 e4 e5 e6 e7 e8 e9 e10 e11 e12; obtain ⟨e0, e1, e2, e3, e4, e5, e6, e7, e8, e9, e10, e11, e12⟩ := BxS.cell13 (b0.keep g1 (by simp)); have G1 := grown_trans g0 g1; have s1 : True := trivial)
          | (go_at_call 91; have _t := s1; clear s1; refine (k1 w1).mono ?_; rintro e w2 ⟨rfl, g2⟩; clear e0 e1 e2 e3 e4 e5 e6 e7 e8 e9 e10 e11 e12; obtain ⟨e0, e1, e2, e3, e4, e5, e6, e7, e8, e9, e10, e11, e12⟩ := BxS.cell13 ((b0.keep g1 (by simp)).keep g2 (by simp)); have G2 := grown_trans G1 g2; have s2 : True := trivial)
          | (go_at_call 84; have _t := s2; clear s2; refine (k2 w2).mono ?_; rintro e wx ⟨rfl, hwx⟩; have hwx := hwx.symm; subst hwx; have s3 : True := trivial))
        go_ret
        exact ⟨rfl, G2⟩
      · rw [Bool.true_and]
        by_cases hm : m ≤ 1000
        · rw [decide_eq_true hm, Bool.true_and]
          have hmi : (m : Int) ≤ 1000 := by omega
          cases B4
          · rw [Bool.false_and]
            go_enter Try.func66, Try.ntmps66
            go_wp2_with (first
              | (go_at_call 56; have _t := s0; clear s0; refine (k0 w0).mono ?_; rintro e w1 ⟨rfl, g1⟩; clear e0 e1 e2 e3 e4 e5 e6 e7 e8 e9 e10 e11 e12; obtain ⟨e0, e1, e2, e3, e4, e5, e6, e7, e8, e9, e10, e11, e12⟩ := BxS.cell13 (b0.keep g1 (by simp)); have G1 := grown_trans g0 g1; have s1 : True := trivial)
              | (go_at_call 91; have _t := s1; clear s1; refine (k1 w1).mono ?_; rintro e w2 ⟨rfl, g2⟩; clear e0 e1 e2 e3 e4 e5 e6 e7 e8 e9 e10 e11 e12; obtain ⟨e0, e1, e2, e3, e4, e5, e6, e7, e8, e9, e10, e11, e12⟩ := BxS.cell13 ((b0.keep g1 (by simp)).keep g2 (by simp)); have G2 := grown_trans G1 g2; have s2 : True := trivial)
              | (go_at_call 84; have _t := s2; clear s2; refine (k2 w2).mono ?_; rintro e wx ⟨rfl, hwx⟩; have hwx := hwx.symm; subst hwx; have s3 : True := trivial)
              | (go_at_call 92; have _t := s3; clear s3; refine (k3 w2 G2).mono ?_; rintro e w3 ⟨rfl, g3⟩; clear e0 e1 e2 e3 e4 e5 e6 e7 e8 e9 e10 e11 e12; obtain ⟨e0, e1, e2, e3, e4, e5, e6, e7, e8, e9, e10, e11, e12⟩ := BxS.cell13 (((b0.keep g1 (by simp)).keep g2 (by simp)).keep g3 (by simp)); have G3 := grown_trans G2 g3; have s4 : True := trivial))
            go_ret
            exact ⟨rfl, G3⟩
          · rw [Bool.true_and]
            cases B5
            · rw [Bool.false_and]
              go_enter Try.func66, Try.ntmps66
              go_wp2_with (first
                | (go_at_call 56; have _t := s0; clear s0; refine (k0 w0).mono ?_; rintro e w1 ⟨rfl, g1⟩; clear e0 e1 e2 e3 e4 e5 e6 e7 e8 e9 e10 e11 e12; obtain ⟨e0, e1, e2, e3, e4, e5, e6, e7, e8, e9, e10, e11, e12⟩ := BxS.cell13 (b0.keep g1 (by simp)); have G1 := grown_trans g0 g1; have s1 : True := trivial)
                | (go_at_call 91; have _t := s1; clear s1; refine (k1 w1).mono ?_; rintro e w2 ⟨rfl, g2⟩; clear e0 e1 e2 e3 e4 e5 e6 e7 e8 e9 e10 e11 e12; obtain ⟨e0, e1, e2, e3, e4, e5, e6, e7, e8, e9, e10, e11, e12⟩ := BxS.cell13 ((b0.keep g1 (by simp)).keep g2 (by simp)); have G2 := grown_trans G1 g2; have s2 : True := trivial)
                | (go_at_call 84; have _t := s2; clear s2; refine (k2 w2).mono ?_; rintro e wx ⟨rfl, hwx⟩; have hwx := hwx.symm; subst hwx; have s3 : True := trivial)
                | (go_at_call 92; have _t := s3; clear s3; refine (k3 w2 G2).mono ?_; rintro e w3 ⟨rfl, g3⟩; clear e0 e1 e2 e3 e4 e5 e6 e7 e8 e9 e10 e11 e12; obtain ⟨e0, e1, e2, e3, e4, e5, e6, e7, e8, e9, e10, e11, e12⟩ := BxS.cell13 (((b0.keep g1 (by simp)).keep g2 (by simp)).keep g3 (by simp)); have G3 := grown_trans G2 g3; have s4 : True := trivial)
                | (go_at_call 84; have _t := s4; clear s4; refine (k4 w3).mono ?_; rintro e wx ⟨rfl, hwx⟩; have hwx := hwx.symm; subst hwx; have s5 : True := trivial))
              go_ret
              exact ⟨rfl, G3⟩
            · rw [Bool.true_and]
              go_enter Try.func66, Try.ntmps66
              go_wp2_with (first
                | (go_at_call 56; have _t := s0; clear s0; refine (k0 w0).mono ?_; rintro e w1 ⟨rfl, g1⟩; clear e0 e1 e2 e3 e4 e5 e6 e7 e8 e9 e10 e11 e12; obtain ⟨e0, e1, e2, e3, e4, e5, e6, e7, e8, e9, e10, e11, e12⟩ := BxS.cell13 (b0.keep g1 (by simp)); have G1 := grown_trans g0 g1; have s1 : True := trivial)
                | (go_at_call 91; have _t := s1; clear s1; refine (k1 w1).mono ?_; rintro e w2 ⟨rfl, g2⟩; clear e0 e1 e2 e3 e4 e5 e6 e7 e8 e9 e10 e11 e12; obtain ⟨e0, e1, e2, e3, e4, e5, e6, e7, e8, e9, e10, e11, e12⟩ := BxS.cell13 ((b0.keep g1 (by simp)).keep g2 (by simp)); have G2 := grown_trans G1 g2; have s2 : True := trivial)
                | (go_at_call 84; have _t := s2; clear s2; refine (k2 w2).mono ?_; rintro e wx ⟨rfl, hwx⟩; have hwx := hwx.symm; subst hwx; have s3 : True := trivial)
                | (go_at_call 92; have _t := s3; clear s3; refine (k3 w2 G2).mono ?_; rintro e w3 ⟨rfl, g3⟩; clear e0 e1 e2 e3 e4 e5 e6 e7 e8 e9 e10 e11 e12; obtain ⟨e0, e1, e2, e3, e4, e5, e6, e7, e8, e9, e10, e11, e12⟩ := BxS.cell13 (((b0.keep g1 (by simp)).keep g2 (by simp)).keep g3 (by simp)); have G3 := grown_trans G2 g3; have s4 : True := trivial)
                | (go_at_call 84; have _t := s4; clear s4; refine (k4 w3).mono ?_; rintro e wx ⟨rfl, hwx⟩; have hwx := hwx.symm; subst hwx; have s5 : True := trivial)
                | (go_at_call 84; have _t := s5; clear s5; refine (k5 w3).mono ?_; rintro e wx ⟨rfl, hwx⟩; have hwx := hwx.symm; subst hwx))
              go_ret
              exact ⟨rfl, G3⟩
        · rw [decide_eq_false hm, Bool.false_and]
          have hmi : ¬ (m : Int) ≤ 1000 := by omega
          go_enter Try.func66, Try.ntmps66
          go_wp2_with (first
            | (go_at_call 56; have _t := s0; clear s0; refine (k0 w0).mono ?_; rintro e w1 ⟨rfl, g1⟩; clear e0 e1 e2 e3 e4 e5 e6 e7 e8 e9 e10 e11 e12; obtain ⟨e0, e1, e2, e3, e4, e5, e6, e7, e8, e9, e10, e11, e12⟩ := BxS.cell13 (b0.keep g1 (by simp)); have G1 := grown_trans g0 g1; have s1 : True := trivial)
            | (go_at_call 91; have _t := s1; clear s1; refine (k1 w1).mono ?_; rintro e w2 ⟨rfl, g2⟩; clear e0 e1 e2 e3 e4 e5 e6 e7 e8 e9 e10 e11 e12; obtain ⟨e0, e1, e2, e3, e4, e5, e6, e7, e8, e9, e10, e11, e12⟩ := BxS.cell13 ((b0.keep g1 (by simp)).keep g2 (by simp)); have G2 := grown_trans G1 g2; have s2 : True := trivial)
            | (go_at_call 84; have _t := s2; clear s2; refine (k2 w2).mono ?_; rintro e wx ⟨rfl, hwx⟩; have hwx := hwx.symm; subst hwx; have s3 : True := trivial))
          go_ret
          exact ⟨rfl, G2⟩
  · rw [decide_eq_false hE, Bool.false_and]
    have hEi : ¬ ((E : Int) = 0) := by omega
    clear hsb
    go_enter Try.func66, Try.ntmps66
    go_wp2_with (first
      | (go_at_call 56; have _t := s0; clear s0; refine (k0 w0).mono ?_; rintro e w1 ⟨rfl, g1⟩; clear e0 e1 e2 e3 e4 e5 e6 e7 e8 e9 e10 e11 e12; obtain ⟨e0, e1, e2, e3, e4, e5, e6, e7, e8, e9, e10, e11, e12⟩ := BxS.cell13 (b0.keep g1 (by simp)); have G1 := grown_trans g0 g1; have s1 : True := trivial))
    go_ret
    exact ⟨rfl, G1⟩
end
end Go.Proofs.Ytnimehkfnpepfaa
