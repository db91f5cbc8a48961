import Derived.Test.YtnimehkfnpepfaaRp9
import Derived.Test.YtnimehkfnpepfaaRp2
import Derived.Test.YtnimehkfnpepfaaRp6
import Derived.Test.YtnimehkfnpepfaaRp5
namespace Go.Proofs.Ytnimehkfnpepfaa
open Go.RowKit
set_option maxRecDepth 100000
set_option linter.unusedVariables false
set_option linter.unusedSimpArgs false

section
def stB (st at' : Int) (n : Nat) (fi : Bool) : Bool := if st = 0 then true else if 1 ≤ st ∧ st ≤ 4 then (decide (at' = (n : Int)) && !fi) else false
/-- which givers may be -/
def gvB (id : Int) (nm n : Nat) (mo bu st : Int) (fi : Bool) (at' : Int) (m : Nat) (al : Bool) (ti pa tr li : Int) : Bool :=
  decide (ofE id pa li mo bu nm n = 0) && (stB st at' n fi && (kwB at' 0 n && (decide (m ≤ 1000) && (al && (kwB ti 0 (pa - 1) && kwB tr 0 li)))))
theorem of_pa {id pa li mo bu : Int} {nm n : Nat} (h : ofE id pa li mo bu nm n = 0) : 1 ≤ pa ∧ pa ≤ 1000 := by
  unfold ofE at h
  by_cases h1 : ofB id pa li mo bu = true
  · unfold ofB dsB kwB at h1
    simp only [Bool.and_eq_true, decide_eq_true_eq] at h1
    omega
  · rw [if_neg h1] at h; cases h

set_option maxHeartbeats 8000000 in
theorem stageMay_any (id : Int) (nm : ByteArray) (a : Option Addr) (n c : Nat) (mo bu st : Int) (fi : Bool) (at' : Int) (q : Option Addr) (m d : Nat) (ti pa tr li : Int) (w : World) : Calls Try.prog 91 #[.agg (gvA id nm (.slice a n c) mo bu st fi at' (.slice q m d) ti pa tr li)] w fun e w' => e = .returned (.bool (stB st at' n fi)) ∧ w.grownBy w' none := by
  have b0 := BxS.new w 44 #[.int .i64 id, .string nm, .slice a n c, .int .i64 mo, .int .i64 bu, .int .i64 st, .bool fi, .int .i64 at', .slice q m d, .int .i64 ti, .int .i64 pa, .int .i64 tr, .int .i64 li]
  have g0 := World.grownBy_alloc w (.cells #[.int .i64 id, .string nm, .slice a n c, .int .i64 mo, .int .i64 bu, .int .i64 st, .bool fi, .int .i64 at', .slice q m d, .int .i64 ti, .int .i64 pa, .int .i64 tr, .int .i64 li] 44) none
  unfold gvA
  generalize hw0 : w.alloc (.cells #[.int .i64 id, .string nm, .slice a n c, .int .i64 mo, .int .i64 bu, .int .i64 st, .bool fi, .int .i64 at', .slice q m d, .int .i64 ti, .int .i64 pa, .int .i64 tr, .int .i64 li] 44) = w0 at b0 g0
  obtain ⟨e0, e1, e2, e3, e4, e5, e6, e7, e8, e9, e10, e11, e12⟩ := BxS.cell13 b0
  unfold stB
  by_cases h0 : st = 0
  · subst h0
    rw [if_pos rfl]
    go_enter Try.func91, Try.ntmps91
    go_wp2
    go_ret
    exact ⟨rfl, g0⟩
  · rw [if_neg h0]
    by_cases hr : 1 ≤ st ∧ st ≤ 4
    · rw [if_pos hr]
      rcases (by omega : st = 1 ∨ st = 2 ∨ st = 3 ∨ st = 4) with rfl | rfl | rfl | rfl
      · by_cases ha : at' = (n : Int)
        · subst ha
          rw [show decide ((n : Int) = (n : Int)) = true from decide_eq_true rfl, Bool.true_and]
          clear h0 hr
          go_enter Try.func91, Try.ntmps91
          go_wp2
          go_ret
          exact ⟨rfl, g0⟩
        · rw [decide_eq_false ha, Bool.false_and]
          clear h0 hr
          go_enter Try.func91, Try.ntmps91
          go_wp2
          go_ret
          exact ⟨rfl, g0⟩
      · by_cases ha : at' = (n : Int)
        · subst ha
          rw [show decide ((n : Int) = (n : Int)) = true from decide_eq_true rfl, Bool.true_and]
          clear h0 hr
          go_enter Try.func91, Try.ntmps91
          go_wp2
          go_ret
          exact ⟨rfl, g0⟩
        · rw [decide_eq_false ha, Bool.false_and]
          clear h0 hr
          go_enter Try.func91, Try.ntmps91
          go_wp2
          go_ret
          exact ⟨rfl, g0⟩
      · by_cases ha : at' = (n : Int)
        · subst ha
          rw [show decide ((n : Int) = (n : Int)) = true from decide_eq_true rfl, Bool.true_and]
          clear h0 hr
          go_enter Try.func91, Try.ntmps91
          go_wp2
          go_ret
          exact ⟨rfl, g0⟩
        · rw [decide_eq_false ha, Bool.false_and]
          clear h0 hr
          go_enter Try.func91, Try.ntmps91
          go_wp2
          go_ret
          exact ⟨rfl, g0⟩
      · by_cases ha : at' = (n : Int)
        · subst ha
          rw [show decide ((n : Int) = (n : Int)) = true from decide_eq_true rfl, Bool.true_and]
          clear h0 hr
          go_enter Try.func91, Try.ntmps91
          go_wp2
          go_ret
          exact ⟨rfl, g0⟩
        · rw [decide_eq_false ha, Bool.false_and]
          clear h0 hr
          go_enter Try.func91, Try.ntmps91
          go_wp2
          go_ret
          exact ⟨rfl, g0⟩
    · rw [if_neg hr]
      have n1 : ¬ st = 1 := by omega
      have n2 : ¬ st = 2 := by omega
      have n3 : ¬ st = 3 := by omega
      have n4 : ¬ st = 4 := by omega
      clear hr
      go_enter Try.func91, Try.ntmps91
      go_wp2
      go_ret
      exact ⟨rfl, g0⟩

set_option maxHeartbeats 16000000 in
theorem giverMay_any (id : Int) (nm : ByteArray) (a : Option Addr) (n c : Nat) (mo bu st : Int) (fi : Bool) (at' : Int) (q : Option Addr) (m d : Nat) (ti pa tr li : Int) (F : Nat → Int × Int) (w : World) (hG : RdG w q m d F) (hpa : -9223372036854775808 ≤ pa ∧ pa ≤ 9223372036854775807) : Calls Try.prog 66 #[.agg (gvA id nm (.slice a n c) mo bu st fi at' (.slice q m d) ti pa tr li)] w fun e w' => e = .returned (.bool (gvB id nm.size n mo bu st fi at' m (alG F n m) ti pa tr li)) ∧ w.grownBy w' none := by
  have b0 := BxS.new w 44 #[.int .i64 id, .string nm, .slice a n c, .int .i64 mo, .int .i64 bu, .int .i64 st, .bool fi, .int .i64 at', .slice q m d, .int .i64 ti, .int .i64 pa, .int .i64 tr, .int .i64 li]
  have g0 := World.grownBy_alloc w (.cells #[.int .i64 id, .string nm, .slice a n c, .int .i64 mo, .int .i64 bu, .int .i64 st, .bool fi, .int .i64 at', .slice q m d, .int .i64 ti, .int .i64 pa, .int .i64 tr, .int .i64 li] 44) none
  have k0 := fun wz => wrongOffer_any id nm a n c mo bu st fi at' (.slice q m d) ti pa tr li wz
  have k1 := fun wz => stageMay_any id nm a n c mo bu st fi at' q m d ti pa tr li wz
  have k2 := fun wz => dwithin_any at' 0 n wz
  have k3 := fun wz (hz : w.grownBy wz none) => gapsMay_any q m d n F wz (hG.keep hz)
  have k4 := fun wz => dwithin_any ti 0 (pa - 1) wz
  have k5 := fun wz => dwithin_any tr 0 li wz
  unfold gvA at k0 k1 ⊢
  unfold gvB
  generalize hw0 : w.alloc (.cells #[.int .i64 id, .string nm, .slice a n c, .int .i64 mo, .int .i64 bu, .int .i64 st, .bool fi, .int .i64 at', .slice q m d, .int .i64 ti, .int .i64 pa, .int .i64 tr, .int .i64 li] 44) = w0 at b0 g0
  obtain ⟨e0, e1, e2, e3, e4, e5, e6, e7, e8, e9, e10, e11, e12⟩ := BxS.cell13 b0
  have hsb : IntKind.i64.wrap (pa - 1) = pa - 1 ∨ ofE id pa li mo bu nm.size n ≠ 0 := by
    by_cases h : ofE id pa li mo bu nm.size n = 0
    · refine .inl (wrap_i64_in _ ?_ ?_) <;> have h9 := of_pa h <;> omega
    · exact .inr h
  generalize ofE id pa li mo bu nm.size n = E at k0 hsb ⊢
  generalize stB st at' n fi = B1 at k1 ⊢
  generalize kwB at' 0 n = B2 at k2 ⊢
  generalize alG F n m = B4 at k3 ⊢
  generalize kwB ti 0 (pa - 1) = B5 at k4 ⊢
  generalize kwB tr 0 li = B6 at k5 ⊢
  have s0 : True := trivial
  by_cases hE : E = 0
  · subst hE
    have hs : IntKind.i64.wrap (pa - 1) = pa - 1 := by rcases hsb with h | h; exact h; exact absurd rfl h
    clear hsb
    rw [show decide ((0 : Nat) = 0) = true from rfl, Bool.true_and]
    cases B1
    · rw [Bool.false_and]
      go_enter Try.func66, Try.ntmps66
      go_wp2_with (first
        | (go_at_call 56; have _t := s0; clear s0; refine (k0 w0).mono ?_; rintro e w1 ⟨rfl, g1⟩; clear e0 e1 e2 e3 e4 e5 e6 e7 e8 e9 e10 e11 e12; obtain ⟨e0, e1, e2, e3, e4, e5, e6, e7, e8, e9, e10, e11, e12⟩ := BxS.cell13 (b0.keep g1 (by simp)); have G1 := grown_trans g0 g1; have s1 : True := trivial)
        | (go_at_call 91; have _t := s1; clear s1; refine (k1 w1).mono ?_; rintro e w2 ⟨rfl, g2⟩; clear e0 e1 e2 e3 e4 e5 e6 e7 e8 e9 e10 e11 e12; obtain ⟨e0, e1, e2, e3, e4, e5, e6, e7, e8, e9, e10, e11, e12⟩ := BxS.cell13 ((b0.keep g1 (by simp)).keep g2 (by simp)); have G2 := grown_trans G1 g2; have s2 : True := trivial))
      go_ret
      exact ⟨rfl, G2⟩
    · rw [Bool.true_and]
      cases B2
      · rw [Bool.false_and]
        go_enter Try.func66, Try.ntmps66
        go_wp2_with (first
          | (go_at_call 56; have _t := s0; clear s0; refine (k0 w0).mono ?_; rintro e w1 ⟨rfl, g1⟩; clear e0 e1 e2 e3 e4 e5 e6 e7 e8 e9 e10 e11 e12; obtain ⟨e0, e1, e2, e3, e4, e5, e6, e7, e8, e9, e10, e11, e12⟩ := BxS.cell13 (b0.keep g1 (by simp)); have G1 := grown_trans g0 g1; have s1 : True := trivial)
          | (go_at_call 91; have _t := s1; clear s1; refine (k1 w1).mono ?_; rintro e w2 ⟨rfl, g2⟩; clear e0 e1 e2 e3 e4 e5 e6 e7 e8 e9 e10 e11 e12; obtain ⟨e0, e1, e2, e3, e4, e5, e6, e7, e8, e9, e10, e11, e12⟩ := BxS.cell13 ((b0.keep g1 (by simp)).keep g2 (by simp)); have G2 := grown_trans G1 g2; have s2 : True := trivial)
          | (go_at_call 84; have _t := s2; clear s2; refine (k2 w2).mono ?_; rintro e wx ⟨rfl, hwx⟩; have hwx := hwx.symm; subst hwx; have s3 : True := trivial))
        go_ret
        exact ⟨rfl, G2⟩
      · rw [Bool.true_and]
        by_cases hm : m ≤ 1000
        · rw [decide_eq_true hm, Bool.true_and]
          have hmi : (m : Int) ≤ 1000 := by omega
          cases B4
          · rw [Bool.false_and]
            go_enter Try.func66, Try.ntmps66
            go_wp2_with (first
              | (go_at_call 56; have _t := s0; clear s0; refine (k0 w0).mono ?_; rintro e w1 ⟨rfl, g1⟩; clear e0 e1 e2 e3 e4 e5 e6 e7 e8 e9 e10 e11 e12; obtain ⟨e0, e1, e2, e3, e4, e5, e6, e7, e8, e9, e10, e11, e12⟩ := BxS.cell13 (b0.keep g1 (by simp)); have G1 := grown_trans g0 g1; have s1 : True := trivial)
              | (go_at_call 91; have _t := s1; clear s1; refine (k1 w1).mono ?_; rintro e w2 ⟨rfl, g2⟩; clear e0 e1 e2 e3 e4 e5 e6 e7 e8 e9 e10 e11 e12; obtain ⟨e0, e1, e2, e3, e4, e5, e6, e7, e8, e9, e10, e11, e12⟩ := BxS.cell13 ((b0.keep g1 (by simp)).keep g2 (by simp)); have G2 := grown_trans G1 g2; have s2 : True := trivial)
              | (go_at_call 84; have _t := s2; clear s2; refine (k2 w2).mono ?_; rintro e wx ⟨rfl, hwx⟩; have hwx := hwx.symm; subst hwx; have s3 : True := trivial)
              | (go_at_call 92; have _t := s3; clear s3; refine (k3 w2 G2).mono ?_; rintro e w3 ⟨rfl, g3⟩; clear e0 e1 e2 e3 e4 e5 e6 e7 e8 e9 e10 e11 e12; obtain ⟨e0, e1, e2, e3, e4, e5, e6, e7, e8, e9, e10, e11, e12⟩ := BxS.cell13 (((b0.keep g1 (by simp)).keep g2 (by simp)).keep g3 (by simp)); have G3 := grown_trans G2 g3; have s4 : True := trivial))
            go_ret
            exact ⟨rfl, G3⟩
          · rw [Bool.true_and]
            cases B5
            · rw [Bool.false_and]
              go_enter Try.func66, Try.ntmps66
              go_wp2_with (first
                | (go_at_call 56; have _t := s0; clear s0; refine (k0 w0).mono ?_; rintro e w1 ⟨rfl, g1⟩; clear e0 e1 e2 e3 e4 e5 e6 e7 e8 e9 e10 e11 e12; obtain ⟨e0, e1, e2, e3, e4, e5, e6, e7, e8, e9, e10, e11, e12⟩ := BxS.cell13 (b0.keep g1 (by simp)); have G1 := grown_trans g0 g1; have s1 : True := trivial)
                | (go_at_call 91; have _t := s1; clear s1; refine (k1 w1).mono ?_; rintro e w2 ⟨rfl, g2⟩; clear e0 e1 e2 e3 e4 e5 e6 e7 e8 e9 e10 e11 e12; obtain ⟨e0, e1, e2, e3, e4, e5, e6, e7, e8, e9, e10, e11, e12⟩ := BxS.cell13 ((b0.keep g1 (by simp)).keep g2 (by simp)); have G2 := grown_trans G1 g2; have s2 : True := trivial)
                | (go_at_call 84; have _t := s2; clear s2; refine (k2 w2).mono ?_; rintro e wx ⟨rfl, hwx⟩; have hwx := hwx.symm; subst hwx; have s3 : True := trivial)
                | (go_at_call 92; have _t := s3; clear s3; refine (k3 w2 G2).mono ?_; rintro e w3 ⟨rfl, g3⟩; clear e0 e1 e2 e3 e4 e5 e6 e7 e8 e9 e10 e11 e12; obtain ⟨e0, e1, e2, e3, e4, e5, e6, e7, e8, e9, e10, e11, e12⟩ := BxS.cell13 (((b0.keep g1 (by simp)).keep g2 (by simp)).keep g3 (by simp)); have G3 := grown_trans G2 g3; have s4 : True := trivial)
                | (go_at_call 84; have _t := s4; clear s4; refine (k4 w3).mono ?_; rintro e wx ⟨rfl, hwx⟩; have hwx := hwx.symm; subst hwx; have s5 : True := trivial))
              go_ret
              exact ⟨rfl, G3⟩
            · rw [Bool.true_and]
              go_enter Try.func66, Try.ntmps66
              go_wp2_with (first
                | (go_at_call 56; have _t := s0; clear s0; refine (k0 w0).mono ?_; rintro e w1 ⟨rfl, g1⟩; clear e0 e1 e2 e3 e4 e5 e6 e7 e8 e9 e10 e11 e12; obtain ⟨e0, e1, e2, e3, e4, e5, e6, e7, e8, e9, e10, e11, e12⟩ := BxS.cell13 (b0.keep g1 (by simp)); have G1 := grown_trans g0 g1; have s1 : True := trivial)
                | (go_at_call 91; have _t := s1; clear s1; refine (k1 w1).mono ?_; rintro e w2 ⟨rfl, g2⟩; clear e0 e1 e2 e3 e4 e5 e6 e7 e8 e9 e10 e11 e12; obtain ⟨e0, e1, e2, e3, e4, e5, e6, e7, e8, e9, e10, e11, e12⟩ := BxS.cell13 ((b0.keep g1 (by simp)).keep g2 (by simp)); have G2 := grown_trans G1 g2; have s2 : True := trivial)
                | (go_at_call 84; have _t := s2; clear s2; refine (k2 w2).mono ?_; rintro e wx ⟨rfl, hwx⟩; have hwx := hwx.symm; subst hwx; have s3 : True := trivial)
                | (go_at_call 92; have _t := s3; clear s3; refine (k3 w2 G2).mono ?_; rintro e w3 ⟨rfl, g3⟩; clear e0 e1 e2 e3 e4 e5 e6 e7 e8 e9 e10 e11 e12; obtain ⟨e0, e1, e2, e3, e4, e5, e6, e7, e8, e9, e10, e11, e12⟩ := BxS.cell13 (((b0.keep g1 (by simp)).keep g2 (by simp)).keep g3 (by simp)); have G3 := grown_trans G2 g3; have s4 : True := trivial)
                | (go_at_call 84; have _t := s4; clear s4; refine (k4 w3).mono ?_; rintro e wx ⟨rfl, hwx⟩; have hwx := hwx.symm; subst hwx; have s5 : True := trivial)
                | (go_at_call 84; have _t := s5; clear s5; refine (k5 w3).mono ?_; rintro e wx ⟨rfl, hwx⟩; have hwx := hwx.symm; subst hwx))
              go_ret
              exact ⟨rfl, G3⟩
        · rw [decide_eq_false hm, Bool.false_and]
          have hmi : ¬ (m : Int) ≤ 1000 := by omega
          go_enter Try.func66, Try.ntmps66
          go_wp2_with (first
            | (go_at_call 56; have _t := s0; clear s0; refine (k0 w0).mono ?_; rintro e w1 ⟨rfl, g1⟩; clear e0 e1 e2 e3 e4 e5 e6 e7 e8 e9 e10 e11 e12; obtain ⟨e0, e1, e2, e3, e4, e5, e6, e7, e8, e9, e10, e11, e12⟩ := BxS.cell13 (b0.keep g1 (by simp)); have G1 := grown_trans g0 g1; have s1 : True := trivial)
            | (go_at_call 91; have _t := s1; clear s1; refine (k1 w1).mono ?_; rintro e w2 ⟨rfl, g2⟩; clear e0 e1 e2 e3 e4 e5 e6 e7 e8 e9 e10 e11 e12; obtain ⟨e0, e1, e2, e3, e4, e5, e6, e7, e8, e9, e10, e11, e12⟩ := BxS.cell13 ((b0.keep g1 (by simp)).keep g2 (by simp)); have G2 := grown_trans G1 g2; have s2 : True := trivial)
            | (go_at_call 84; have _t := s2; clear s2; refine (k2 w2).mono ?_; rintro e wx ⟨rfl, hwx⟩; have hwx := hwx.symm; subst hwx; have s3 : True := trivial))
          go_ret
          exact ⟨rfl, G2⟩
  · rw [decide_eq_false hE, Bool.false_and]
    have hEi : ¬ ((E : Int) = 0) := by omega
    clear hsb
    go_enter Try.func66, Try.ntmps66
    go_wp2_with (first
      | (go_at_call 56; have _t := s0; clear s0; refine (k0 w0).mono ?_; rintro e w1 ⟨rfl, g1⟩; clear e0 e1 e2 e3 e4 e5 e6 e7 e8 e9 e10 e11 e12; obtain ⟨e0, e1, e2, e3, e4, e5, e6, e7, e8, e9, e10, e11, e12⟩ := BxS.cell13 (b0.keep g1 (by simp)); have G1 := grown_trans g0 g1; have s1 : True := trivial))
    go_ret
    exact ⟨rfl, G1⟩
end

section
theorem results_c1t2 {fn : Func} {p u v : Tmp} {ty : TypeId} (h : fn.results = #[.cell p ty, .tmp u, .tmp v]) (tmps : Array Value) (P : Program) (w : World) (a : Addr) (x y z : Value) (ha : tmps.getD p undef = .pointer (some a)) (hl : (loadVar ty a).run P w = .ok x w) (hy : tmps.getD u undef = y) (hz : tmps.getD v undef = z) :
    (results fn tmps).run P w = .ok (.tuple #[x, y, z]) w := by
  simp only [results, h]
  rw [Array.getD_eq_getD_getElem?] at ha hy hz
  simp [Sem.run_bind, Result.andThen]
  rw [ha]
  simp [asAddr, hl, hy, hz]
/-- a giver is loaded out of one at work -/
theorem ld_13 {w : World} {o : Oper} {a : Act} {p : Operand} {g : Nat} {v0 v1 v2 v3 v4 v5 v6 v7 v8 v9 v10 v11 v12 v13 : Value} (hop : o.op = Op.load 44 p) (hp : a.eval p = .pointer (some ⟨g, 0, none⟩)) (h : BxS w g 100 #[v0, v1, v2, v3, v4, v5, v6, v7, v8, v9, v10, v11, v12, v13]) : (execOp a.eval o).run Try.prog w = .ok (.value (.agg #[v0, v1, v2, v3, v4, v5, v6, v7, v8, v9, v10, v11, v12])) w := by
  have i13 := Try.info_gv
  have u13 := Try.underlying44
  obtain ⟨c0, c1, c2, c3, c4, c5, c6, c7, c8, c9, c10, c11, c12, c13⟩ := h.cell14
  simp [execOp, hop, hp]
  go_simp

set_option maxHeartbeats 16000000 in
theorem rp_t8 {u0 u1 u2 u3 u5 u6 u8 u9 u10 u11 u12 u13 u14 u15 u16 u17 u18 u19 u20 u21 u22 u23 u24 u25 u26 u27 u28 u29 u30 u31 u32 u33 u34 u35 u36 u37 : Value} (P : Ending → World → Prop) (wB w : World) (gw : Nat) (id : Int) (nm : ByteArray) (mo bu st : Int) (fi : Bool) (at' ti pa tr li : Int) (a : Option Addr) (n c : Nat) (L : List Nat) (q : Option Addr) (m d : Nat) (G : List (Int × Int)) (na : Option Addr) (nn nc : Nat) (xs : List Nx) (h : GW wB w gw id nm mo bu st fi at' ti pa tr li a n c L q m d G na nn nc xs) (g4 : Nat) (cs4 : Array Value) (hs4 : cs4.size = 13) (b4 : BxS w g4 44 cs4)
    (hP : ∀ w', w.grownBy w' (some g4) → P (.returned (.tuple #[.agg #[.int .i64 id, .string nm, .slice a n c, .int .i64 mo, .int .i64 bu, .int .i64 st, .bool fi, .int .i64 at', .slice q m d, .int .i64 ti, .int .i64 pa, .int .i64 tr, .int .i64 li], .slice na nn nc, .int .i64 0])) w') :
    Code.wp Try.prog (tailR 8 (Try.f35.body.getD .skip)) (bodyPost Try.prog Try.f35 P) (Act.mk (List.toArray (u0 :: u1 :: u2 :: u3 :: (.pointer (some ⟨g4, 0, none⟩)) :: u5 :: u6 :: (.pointer (some ⟨gw, 0, none⟩)) :: u8 :: u9 :: u10 :: u11 :: u12 :: u13 :: u14 :: u15 :: u16 :: u17 :: u18 :: u19 :: u20 :: u21 :: u22 :: u23 :: u24 :: u25 :: u26 :: u27 :: u28 :: u29 :: u30 :: u31 :: u32 :: u33 :: u34 :: u35 :: u36 :: u37 :: [])) []) w := by
  conv => enter [2]; whnf
  have HP : Hid _ := hP
  clear hP
  have i13 := Try.info_gv
  refine wp_seq_k fun K1 hK1 => ?_
  have HK1 : Hid _ := hK1
  clear hK1
  have Gd := grown_drew w none
  have SS : BxS w.drew gw 100 #[.int .i64 id, .string nm, .slice a n c, .int .i64 mo, .int .i64 bu, .int .i64 st, .bool fi, .int .i64 at', .slice q m d, .int .i64 ti, .int .i64 pa, .int .i64 tr, .int .i64 li, .slice na nn nc] := h.bx.keep Gd (by simp)
  have b4d := b4.keep Gd (by simp)
  refine wp_regionL (fun wz => BxS wz gw 100 #[.int .i64 id, .string nm, .slice a n c, .int .i64 mo, .int .i64 bu, .int .i64 st, .bool fi, .int .i64 at', .slice q m d, .int .i64 ti, .int .i64 pa, .int .i64 tr, .int .i64 li, .slice na nn nc]) [] #[false, false, false, false, false, false, false, false, false, false, false] rfl (by kernel_rfl) ?_
  refine wpAnyZ_take [] 0 (.pointer (some ⟨gw, 0, none⟩)) rfl (by kernel_rfl) (fun _ _ _ h => h) SS rfl (by intro wz hz; go_simp) ?_
  try simp only [List.getElem_toArray, List.getElem_cons_succ, List.getElem_cons_zero, Act.put, List.setIfInBounds_toArray, List.set_cons_zero, List.set_cons_succ]
  refine wpAnyZ_take [] 1 (.pointer (some ⟨gw, 0, none⟩)) rfl (by kernel_rfl) (fun _ _ _ h => h) SS rfl (by intro wz hz; go_simp) ?_
  try simp only [List.getElem_toArray, List.getElem_cons_succ, List.getElem_cons_zero, Act.put, List.setIfInBounds_toArray, List.set_cons_zero, List.set_cons_succ]
  refine wpAnyZ_take [] 2 (.pointer (some ⟨gw, 0, none⟩)) rfl (by kernel_rfl) (fun _ _ _ h => h) SS rfl (by intro wz hz; go_simp) ?_
  try simp only [List.getElem_toArray, List.getElem_cons_succ, List.getElem_cons_zero, Act.put, List.setIfInBounds_toArray, List.set_cons_zero, List.set_cons_succ]
  refine wpAnyZ_take [] 3 (.agg #[.int .i64 id, .string nm, .slice a n c, .int .i64 mo, .int .i64 bu, .int .i64 st, .bool fi, .int .i64 at', .slice q m d, .int .i64 ti, .int .i64 pa, .int .i64 tr, .int .i64 li]) rfl (by kernel_rfl) (fun _ _ _ h => h) SS rfl (by intro wz hz; exact ld_13 rfl rfl hz) ?_
  try simp only [List.getElem_toArray, List.getElem_cons_succ, List.getElem_cons_zero, Act.put, List.setIfInBounds_toArray, List.set_cons_zero, List.set_cons_succ]
  refine wpAnyZ_take [] 4 (.pointer (some ⟨gw, 0, none⟩)) rfl (by kernel_rfl) (fun _ _ _ h => h) SS rfl (by intro wz hz; go_simp) ?_
  try simp only [List.getElem_toArray, List.getElem_cons_succ, List.getElem_cons_zero, Act.put, List.setIfInBounds_toArray, List.set_cons_zero, List.set_cons_succ]
  refine wpAnyZ_take [] 5 (.pointer (some ⟨gw, 0, none⟩)) rfl (by kernel_rfl) (fun _ _ _ h => h) SS rfl (by intro wz hz; go_simp) ?_
  try simp only [List.getElem_toArray, List.getElem_cons_succ, List.getElem_cons_zero, Act.put, List.setIfInBounds_toArray, List.set_cons_zero, List.set_cons_succ]
  refine wpAnyZ_take [] 6 (.pointer (some ⟨gw, 13, none⟩)) rfl (by kernel_rfl) (fun _ _ _ h => h) SS rfl (by intro wz hz; go_simp) ?_
  try simp only [List.getElem_toArray, List.getElem_cons_succ, List.getElem_cons_zero, Act.put, List.setIfInBounds_toArray, List.set_cons_zero, List.set_cons_succ]
  refine wpAnyZ_take [] 7 (.slice na nn nc) rfl (by kernel_rfl) (fun _ _ _ h => h) SS rfl (by intro wz hz; have z : wz.cell? ⟨gw, 13, none⟩ = some (.slice na nn nc) := hz.cell 13 (by show 13 < 14; decide); go_simp) ?_
  try simp only [List.getElem_toArray, List.getElem_cons_succ, List.getElem_cons_zero, Act.put, List.setIfInBounds_toArray, List.set_cons_zero, List.set_cons_succ]
  have l4 := b4d.lt
  generalize w.drew = w2 at *
  refine wpAnyZ_oneB 8 rfl (by kernel_rfl) (fun KK hKK => ?_)
  refine step_stX _ rfl _ _ _ rfl g4 _ _ rfl rfl b4d i13 hs4 (by simp [Value.oneCell']) ?_
  intro w3 b43 u3
  have S3 := SS.keep u3 (fun e => BxS.apart SS b4d (by decide) (Option.some.inj e))
  refine hKK _ _ (fun _ => S3) ?_
  try simp only [List.getElem_toArray, List.getElem_cons_succ, List.getElem_cons_zero, Act.put, List.setIfInBounds_toArray, List.set_cons_zero, List.set_cons_succ]
  refine wpAnyZ_take [] 9 (.slice na nn nc) rfl (by kernel_rfl) (fun _ _ _ h => h) S3 rfl (by intro wz hz; go_simp) ?_
  try simp only [List.getElem_toArray, List.getElem_cons_succ, List.getElem_cons_zero, Act.put, List.setIfInBounds_toArray, List.set_cons_zero, List.set_cons_succ]
  refine wpAnyZ_take [] 10 (.int .i64 0) rfl (by kernel_rfl) (fun _ _ _ h => h) S3 rfl (by intro wz hz; go_simp) ?_
  try simp only [List.getElem_toArray, List.getElem_cons_succ, List.getElem_cons_zero, Act.put, List.setIfInBounds_toArray, List.set_cons_zero, List.set_cons_succ]
  refine wpAnyZ_doneB (by kernel_rfl) ?_ _
  refine HK1.out _ _ ?_
  clear HK1
  go_wp2
  refine bodyPost_ret (results_c1t2 rfl _ _ _ ⟨g4, 0, none⟩ _ _ _ rfl (BxS.load (t := 44) b43 Try.underlying44 Try.info_gv) rfl rfl) rfl ?_
  exact HP.out w3 (grown_trans (grown_weak Gd _) u3)
end

section
/-- an answer of a giver: the giver, what goes, an error -/
def RpA (w : World) (id : Int) (nm : ByteArray) (mo bu st : Int) (fi : Bool) (at' ti pa tr li : Int) (L : List Nat) (G : List (Int × Int)) (xs : List Nx) (E : Nat) (e : Ending) (w' : World) : Prop :=
  ∃ a c q d na nc, e = .returned (.tuple #[.agg (gvA id nm (.slice a L.length c) mo bu st fi at' (.slice q G.length d) ti pa tr li), .slice na xs.length nc, .int .i64 (E : Nat)]) ∧ Ans w' w.heap.size a L.length c L ∧ OwGi w' w.heap.size q G.length d G ∧ OwN w' w.heap.size na xs.length nc xs ∧ (∀ z, (Value.slice a L.length c).ownBlock = some z → ¬ Nbl na xs.length nc xs z) ∧ (∀ z, (Value.slice q G.length d).ownBlock = some z → ¬ Nbl na xs.length nc xs z) ∧ w.grownBy w' none

/-- what is at work is the answer -/
theorem GW.rpA {wB w w' : World} {gw : Nat} {id : Int} {nm : ByteArray} {mo bu st : Int} {fi : Bool} {at' ti pa tr li : Int} {a : Option Addr} {n c : Nat} {L : List Nat} {q : Option Addr} {m d : Nat} {G : List (Int × Int)} {na : Option Addr} {nn nc : Nat} {xs : List Nx} (h : GW wB w gw id nm mo bu st fi at' ti pa tr li a n c L q m d G na nn nc xs) {g4 : Nat} {cs4 : Array Value} (b4 : BxS w g4 44 cs4) (h4 : wB.heap.size ≤ g4) (u : w.grownBy w' (some g4)) (E : Nat) : RpA wB id nm mo bu st fi at' ti pa tr li L G xs E (.returned (.tuple #[.agg #[.int .i64 id, .string nm, .slice a n c, .int .i64 mo, .int .i64 bu, .int .i64 st, .bool fi, .int .i64 at', .slice q m d, .int .i64 ti, .int .i64 pa, .int .i64 tr, .int .i64 li], .slice na nn nc, .int .i64 (E : Nat)])) w' := by
  have h1 := h.A.len
  have h2 := h.O.len
  have h3 := h.N.len
  subst h1 h2 h3
  exact ⟨a, c, q, d, na, nc, rfl, h.A.kRR u (fun z e e2 => by have e := Option.some.inj e; subst e; exact own_ty h.A.own b4 (by decide) e2), h.O.bx b4 (by decide) u, h.N.bx b4 (by decide) (by decide) (by decide) u, h.sA, h.sO, grown_far h.g u (fun z e => by have e := Option.some.inj e; omega)⟩

set_option maxHeartbeats 16000000 in
theorem reply_no (id : Int) (nm : ByteArray) (a : Option Addr) (n c : Nat) (mo bu st : Int) (fi : Bool) (at' : Int) (q : Option Addr) (m d : Nat) (ti pa tr li : Int) (L : List Nat) (F : Nat → Int × Int) (kd nid : Int) (nm2 : ByteArray) (si su at2 : Int) (pa2 : Option Addr) (pn pc : Nat) (ga : Option Addr) (gm gd : Nat) (o co : Int) (F2 : Nat → Int × Int) (w : World) (hL : Rd w a n c L) (hG : RdG w q m d F) (hF2 : RdG w ga gm gd F2) (hn : n ≤ 140737488351232) (hm : m ≤ 8796093021952) (hpa : -9223372036854775808 ≤ pa ∧ pa ≤ 9223372036854775807) (hB : gvB id nm.size n mo bu st fi at' m (alG F n m) ti pa tr li = false) : Calls Try.prog 35 #[.agg (gvA id nm (.slice a n c) mo bu st fi at' (.slice q m d) ti pa tr li), .agg (ntA kd nid nm2 si su at2 (.slice pa2 pn pc) (.slice ga gm gd) o co)] w fun e w' => RpA w 0 ⟨#[]⟩ 0 0 0 false 0 0 0 0 0 [] [] [] 11 e w' := by
  have b2 := BxS.new w 44 #[.int .i64 id, .string nm, .slice a n c, .int .i64 mo, .int .i64 bu, .int .i64 st, .bool fi, .int .i64 at', .slice q m d, .int .i64 ti, .int .i64 pa, .int .i64 tr, .int .i64 li]
  have y2 := World.grownBy_alloc w (.cells #[.int .i64 id, .string nm, .slice a n c, .int .i64 mo, .int .i64 bu, .int .i64 st, .bool fi, .int .i64 at', .slice q m d, .int .i64 ti, .int .i64 pa, .int .i64 tr, .int .i64 li] 44) none
  have i13 := Try.info_gv
  have i10 := Try.info_nt
  unfold gvA ntA
  have hz2 : (w.alloc (.cells #[.int .i64 id, .string nm, .slice a n c, .int .i64 mo, .int .i64 bu, .int .i64 st, .bool fi, .int .i64 at', .slice q m d, .int .i64 ti, .int .i64 pa, .int .i64 tr, .int .i64 li] 44)).heap.size = w.heap.size + 1 := by simp
  generalize hw2 : w.alloc (.cells #[.int .i64 id, .string nm, .slice a n c, .int .i64 mo, .int .i64 bu, .int .i64 st, .bool fi, .int .i64 at', .slice q m d, .int .i64 ti, .int .i64 pa, .int .i64 tr, .int .i64 li] 44) = w2 at b2 y2 hz2
  have b3 := BxS.new w2 27 #[.int .i64 kd, .int .i64 nid, .string nm2, .int .i64 si, .int .i64 su, .int .i64 at2, .slice pa2 pn pc, .slice ga gm gd, .int .i64 o, .int .i64 co]
  rw [hz2] at b3
  have y3 := World.grownBy_alloc w2 (.cells #[.int .i64 kd, .int .i64 nid, .string nm2, .int .i64 si, .int .i64 su, .int .i64 at2, .slice pa2 pn pc, .slice ga gm gd, .int .i64 o, .int .i64 co] 27) none
  have hz3 : (w2.alloc (.cells #[.int .i64 kd, .int .i64 nid, .string nm2, .int .i64 si, .int .i64 su, .int .i64 at2, .slice pa2 pn pc, .slice ga gm gd, .int .i64 o, .int .i64 co] 27)).heap.size = w.heap.size + 2 := by simp [hz2]
  generalize hw3 : w2.alloc (.cells #[.int .i64 kd, .int .i64 nid, .string nm2, .int .i64 si, .int .i64 su, .int .i64 at2, .slice pa2 pn pc, .slice ga gm gd, .int .i64 o, .int .i64 co] 27) = w3 at b3 y3 hz3
  have b4 := BxS.new w3 44 #[.int .i64 0, .string ⟨#[]⟩, .slice none 0 0, .int .i64 0, .int .i64 0, .int .i64 0, .bool false, .int .i64 0, .slice none 0 0, .int .i64 0, .int .i64 0, .int .i64 0, .int .i64 0]
  rw [hz3] at b4
  have y4 := World.grownBy_alloc w3 (.cells #[.int .i64 0, .string ⟨#[]⟩, .slice none 0 0, .int .i64 0, .int .i64 0, .int .i64 0, .bool false, .int .i64 0, .slice none 0 0, .int .i64 0, .int .i64 0, .int .i64 0, .int .i64 0] 44) none
  generalize hw4 : w3.alloc (.cells #[.int .i64 0, .string ⟨#[]⟩, .slice none 0 0, .int .i64 0, .int .i64 0, .int .i64 0, .bool false, .int .i64 0, .slice none 0 0, .int .i64 0, .int .i64 0, .int .i64 0, .int .i64 0] 44) = w4 at b4 y4
  have b24 := (b2.keep y3 (by simp)).keep y4 (by simp)
  have b34 := b3.keep y4 (by simp)
  have G4 := grown_trans (grown_trans y2 y3) y4
  have l4 := b4.lt
  have s0 : True := trivial
  go_enter Try.func35, Try.ntmps35
  go_wp2_with (first
    | (have _t := s0; clear s0; refine wpList_ldX _ rfl _ (.tmp 2) rfl w.heap.size _ rfl b24 Try.underlying44 i13 ?_; have s1 : True := trivial)
    | (go_at_call 66; have _t := s1; clear s1; refine (giverMay_any id nm a n c mo bu st fi at' q m d ti pa tr li F w4 (hG.keep G4) hpa).mono ?_; rintro e w5 ⟨he, y5⟩; rw [hB] at he; subst he; have b25 := b24.keep y5 (by simp); have b35 := b34.keep y5 (by simp); have b45 := b4.keep y5 (by simp); have G5 := grown_trans G4 y5; have s2 : True := trivial)
    | (have _t := s2; clear s2; refine wpList_stX _ rfl _ (.tmp 4) (.tmp 12) rfl (w.heap.size + 2) _ _ rfl rfl b45 i13 rfl (by simp [Value.oneCell']) ?_; intro w6 b46 u6))
  refine bodyPost_ret (results_c1t2 rfl _ _ _ ⟨w.heap.size + 2, 0, none⟩ _ _ _ rfl (BxS.load (t := 44) b46 Try.underlying44 Try.info_gv) rfl rfl) rfl ?_
  exact ⟨none, 0, none, 0, none, 0, rfl, Ans.nil _ _, OwGi.nil _ _, OwN.nil _ _, (fun z e => by cases e), (fun z e => by cases e), grown_far G5 u6 (fun z e => by have e := Option.some.inj e; omega)⟩
end

section
theorem nbl_nil {z : Nat} : ¬ Nbl none 0 0 [] z := fun h => by
  rcases h with h | ⟨x, hx, _⟩
  · cases h
  · cases hx
theorem rdk3 {w : World} {g : Nat} (h : BxS w g 22 #[.int .i64 4, .int .i64 5, .int .i64 6]) : ∀ i, i < 3 → w.cell? ⟨g, i, none⟩ = some (.int .i64 (([4, 5, 6] : List Int).getD i 0)) := by
  intro i hi
  have h3 : i = 0 ∨ i = 1 ∨ i = 2 := by omega
  rcases h3 with rfl | rfl | rfl
  · exact h.cell 0 (by show 0 < 3; decide)
  · exact h.cell 1 (by show 1 < 3; decide)
  · exact h.cell 2 (by show 2 < 3; decide)

set_option maxHeartbeats 16000000 in
theorem reply_err (id : Int) (nm : ByteArray) (a : Option Addr) (n c : Nat) (mo bu st : Int) (fi : Bool) (at' : Int) (q : Option Addr) (m d : Nat) (ti pa tr li : Int) (L : List Nat) (F : Nat → Int × Int) (kd nid : Int) (nm2 : ByteArray) (si su at2 : Int) (pa2 : Option Addr) (pn pc : Nat) (ga : Option Addr) (gm gd : Nat) (o co : Int) (F2 : Nat → Int × Int) (w : World) (hL : Rd w a n c L) (hG : RdG w q m d F) (hF2 : RdG w ga gm gd F2) (hn : n ≤ 140737488351232) (hm : m ≤ 8796093021952) (hpa : -9223372036854775808 ≤ pa ∧ pa ≤ 9223372036854775807) (hB : gvB id nm.size n mo bu st fi at' m (alG F n m) ti pa tr li = true) (E : Nat) (hE : wnE (ntB kd nid nm2.size si su at2 pn gm o co (alG F2 65536 gm)) nid id (hasK [4, 5, 6] kd 3) = E) (hE0 : E ≠ 0) : Calls Try.prog 35 #[.agg (gvA id nm (.slice a n c) mo bu st fi at' (.slice q m d) ti pa tr li), .agg (ntA kd nid nm2 si su at2 (.slice pa2 pn pc) (.slice ga gm gd) o co)] w fun e w' => RpA w id nm mo bu st fi at' ti pa tr li L (tabG F m) [] E e w' := by
  have b2 := BxS.new w 44 #[.int .i64 id, .string nm, .slice a n c, .int .i64 mo, .int .i64 bu, .int .i64 st, .bool fi, .int .i64 at', .slice q m d, .int .i64 ti, .int .i64 pa, .int .i64 tr, .int .i64 li]
  have y2 := World.grownBy_alloc w (.cells #[.int .i64 id, .string nm, .slice a n c, .int .i64 mo, .int .i64 bu, .int .i64 st, .bool fi, .int .i64 at', .slice q m d, .int .i64 ti, .int .i64 pa, .int .i64 tr, .int .i64 li] 44) none
  have i13 := Try.info_gv
  have i10 := Try.info_nt
  unfold gvA ntA
  have hz2 : (w.alloc (.cells #[.int .i64 id, .string nm, .slice a n c, .int .i64 mo, .int .i64 bu, .int .i64 st, .bool fi, .int .i64 at', .slice q m d, .int .i64 ti, .int .i64 pa, .int .i64 tr, .int .i64 li] 44)).heap.size = w.heap.size + 1 := by simp
  generalize hw2 : w.alloc (.cells #[.int .i64 id, .string nm, .slice a n c, .int .i64 mo, .int .i64 bu, .int .i64 st, .bool fi, .int .i64 at', .slice q m d, .int .i64 ti, .int .i64 pa, .int .i64 tr, .int .i64 li] 44) = w2 at b2 y2 hz2
  have b3 := BxS.new w2 27 #[.int .i64 kd, .int .i64 nid, .string nm2, .int .i64 si, .int .i64 su, .int .i64 at2, .slice pa2 pn pc, .slice ga gm gd, .int .i64 o, .int .i64 co]
  rw [hz2] at b3
  have y3 := World.grownBy_alloc w2 (.cells #[.int .i64 kd, .int .i64 nid, .string nm2, .int .i64 si, .int .i64 su, .int .i64 at2, .slice pa2 pn pc, .slice ga gm gd, .int .i64 o, .int .i64 co] 27) none
  have hz3 : (w2.alloc (.cells #[.int .i64 kd, .int .i64 nid, .string nm2, .int .i64 si, .int .i64 su, .int .i64 at2, .slice pa2 pn pc, .slice ga gm gd, .int .i64 o, .int .i64 co] 27)).heap.size = w.heap.size + 2 := by simp [hz2]
  generalize hw3 : w2.alloc (.cells #[.int .i64 kd, .int .i64 nid, .string nm2, .int .i64 si, .int .i64 su, .int .i64 at2, .slice pa2 pn pc, .slice ga gm gd, .int .i64 o, .int .i64 co] 27) = w3 at b3 y3 hz3
  have b4 := BxS.new w3 44 #[.int .i64 0, .string ⟨#[]⟩, .slice none 0 0, .int .i64 0, .int .i64 0, .int .i64 0, .bool false, .int .i64 0, .slice none 0 0, .int .i64 0, .int .i64 0, .int .i64 0, .int .i64 0]
  rw [hz3] at b4
  have y4 := World.grownBy_alloc w3 (.cells #[.int .i64 0, .string ⟨#[]⟩, .slice none 0 0, .int .i64 0, .int .i64 0, .int .i64 0, .bool false, .int .i64 0, .slice none 0 0, .int .i64 0, .int .i64 0, .int .i64 0, .int .i64 0] 44) none
  generalize hw4 : w3.alloc (.cells #[.int .i64 0, .string ⟨#[]⟩, .slice none 0 0, .int .i64 0, .int .i64 0, .int .i64 0, .bool false, .int .i64 0, .slice none 0 0, .int .i64 0, .int .i64 0, .int .i64 0, .int .i64 0] 44) = w4 at b4 y4
  have b24 := (b2.keep y3 (by simp)).keep y4 (by simp)
  have b34 := b3.keep y4 (by simp)
  have G4 := grown_trans (grown_trans y2 y3) y4
  have l4 := b4.lt
  have hEi : ¬ ((E : Nat) : Int) = 0 := by omega
  have s0 : True := trivial
  go_enter Try.func35, Try.ntmps35
  go_wp2_with (first
    | (have _t := s0; clear s0; refine wpList_ldX _ rfl _ (.tmp 2) rfl w.heap.size _ rfl b24 Try.underlying44 i13 ?_; have s1 : True := trivial)
    | (go_at_call 66; have _t := s1; clear s1; refine (giverMay_any id nm a n c mo bu st fi at' q m d ti pa tr li F w4 (hG.keep G4) hpa).mono ?_; rintro e w5 ⟨he, y5⟩; rw [hB] at he; subst he; have b25 := b24.keep y5 (by simp); have b35 := b34.keep y5 (by simp); have b45 := b4.keep y5 (by simp); have G5 := grown_trans G4 y5; have s2 : True := trivial)
    | (have _t := s2; clear s2; refine wpList_ldX _ rfl _ (.tmp 2) rfl w.heap.size _ rfl b25 Try.underlying44 i13 ?_; have s3 : True := trivial)
    | (go_at_call 67; have _t := s3; clear s3; refine (atWork_any id nm a n c mo bu st fi at' q m d ti pa tr li F L w5 (hL.keep G5) (hG.keep G5) hn hm).mono ?_; rintro e w6 ⟨gw, a6, c6, q6, d6, rfl, bW, hA6, hO6, hgl, y6⟩; have z5 := G5.size; have G6 := grown_trans G5 y6; have hW : GW w w6 gw id nm mo bu st fi at' ti pa tr li a6 n c6 L q6 m d6 (tabG F m) none 0 0 [] := ⟨bW, hA6.wide z5, hO6.wide z5, OwN.nil _ _, by omega, (fun z e => nbl_nil), (fun z e => nbl_nil), G6⟩; have b26 := b25.keep y6 (by simp); have b36 := b35.keep y6 (by simp); have b46 := b45.keep y6 (by simp); have x0 : w6.cell? ⟨w.heap.size, 0, none⟩ = some (.int .i64 id) := b26.cell 0 (by show 0 < 13; decide); have bK := BxS.new w6 22 #[.int .i64 4, .int .i64 5, .int .i64 6]; have yK := World.grownBy_alloc w6 (.cells #[.int .i64 4, .int .i64 5, .int .i64 6] 22) none; generalize hw7 : w6.alloc (.cells #[.int .i64 4, .int .i64 5, .int .i64 6] 22) = w7 at bK yK; have hW7 := hW.keepN yK; have b37 := b36.keep yK (by simp); have b47 := b46.keep yK (by simp); have G7 := grown_trans G6 yK; have s4 : True := trivial)
    | (have _t := s4; clear s4; refine wpList_ldX _ rfl _ (.tmp 3) rfl (w.heap.size + 1) _ rfl b36 Try.underlying27 i10 ?_; have s5 : True := trivial)
    | (go_at_call 69; have _t := s5; clear s5; refine (wrongNote_any kd nid nm2 si su at2 pa2 pn pc ga gm gd o co F2 id w6.heap.size 3 3 [4, 5, 6] w7 (hF2.keep G7) ⟨rfl, by decide, rdk3 bK⟩ (Nat.le_refl _)).mono ?_; rintro e w8 ⟨he, y8⟩; rw [hE] at he; subst he; have hW8 := hW7.keepN y8; have b38 := b37.keep y8 (by simp); have b48 := b47.keep y8 (by simp); obtain ⟨k0, k1, k2, k3, k4, k5, k6, k7, k8, k9, k10, k11, k12, k13⟩ := BxS.cell14 hW8.bx; have s6 : True := trivial)
    | (have _t := s6; clear s6; refine wpList_stX _ rfl _ (.tmp 4) (.tmp 25) rfl (w.heap.size + 2) _ _ rfl rfl b48 i13 rfl (by simp [Value.oneCell']) ?_; intro w9 b49 u9))
  refine bodyPost_ret (results_c1t2 rfl _ _ _ ⟨w.heap.size + 2, 0, none⟩ _ _ _ rfl (BxS.load (t := 44) b49 Try.underlying44 Try.info_gv) rfl rfl) rfl ?_
  exact hW8.rpA b48 (by omega) u9 E
end
end Go.Proofs.Ytnimehkfnpepfaa
