import Derived.Test.YtnnohgllnfmoeaaPJo4
import Derived.Test.YtnnohgllnfmoeaaPOf
namespace Go.Proofs.Ytnnohgllnfmoeaa
open Go.RowKit
set_option maxRecDepth 100000
set_option linter.unusedVariables false
set_option linter.unusedSimpArgs false

/-- a packet comes to what is joined: is something lost before it; what is lost, told, open and held behind it -/
def jl (nx ct : Int) : Bool := decide (nx ≠ -1) && decide (nx ≠ ct)
def jLo (nx : Int) (op : Bool) (U : List Nat) (pt ct : Int) (D : List Nat) : Bool := if pt = 3 ∨ pt = 1 then jl nx ct || op else if op = true ∧ jl nx ct = false then decide (1048576 < U.length + D.length) else true
def jUn (nx : Int) (op : Bool) (U : List Nat) (pt ct : Int) (D : List Nat) : List Nat := if pt = 3 then D else if pt = 2 ∧ op = true ∧ jl nx ct = false ∧ U.length + D.length ≤ 1048576 then U ++ D else []
def jOp (nx : Int) (op : Bool) (U : List Nat) (pt ct : Int) (D : List Nat) : Bool := if pt = 1 then true else if pt = 0 ∧ op = true ∧ jl nx ct = false ∧ U.length + D.length ≤ 1048576 then true else false
def jRe (nx : Int) (op : Bool) (U : List Nat) (pt ct : Int) (D : List Nat) : List Nat := if pt = 1 then D else if pt = 0 ∧ op = true ∧ jl nx ct = false ∧ U.length + D.length ≤ 1048576 then U ++ D else []
theorem take_all (g : Nat) (ap ap' nx pt ct q : Int) (op : Bool) (a : Option Addr) (n c : Nat) (up se : Bool) (b ob m d : Nat) (U D : List Nat) (w : World) (h : Jr w g ap nx op a n c false) (hU : Rd w a n c U) (hD : Rd w (some ⟨b, ob, none⟩) m d D)
    (hq : Hid (q = (ct + 1) % 16384)) (h0 : 0 ≤ ct) (h1 : ct ≤ 16383) (hp0 : 0 ≤ pt) (hp1 : pt ≤ 3) (hm : 0 < m) (hm2 : m ≤ 65536) (hn : n ≤ 1048576) (hbg : ¬ b = g) (hug : 0 < n → ∀ x y, a = some ⟨x, y, none⟩ → some x ≠ some g) (ho : op = true → 0 < n) :
    Calls Try.prog 23 #[.pointer (some ⟨g, 0, none⟩), pkV up se ap' pt ct (some ⟨b, ob, none⟩) m d] w fun e w' => ∃ a1 n1 c1 a2 n2 c2, (a1 = none ∨ a2 = none) ∧ e = .returned (.slice a2 n2 c2) ∧ Jr w' g ap q (jOp nx op U pt ct D) a1 n1 c1 (jLo nx op U pt ct D) ∧
      Ans w' w.heap.size a1 n1 c1 (jRe nx op U pt ct D) ∧ Ans w' w.heap.size a2 n2 c2 (jUn nx op U pt ct D) ∧ w.grownBy w' (some g) := by
  have lU := hU.len
  have lD := hD.len
  have nil := fun w' => ans_nil w' w.heap.size
  rcases (show pt = 3 ∨ pt = 1 ∨ pt = 0 ∨ pt = 2 by omega) with rfl | rfl | rfl | rfl
  · have e1 : jOp nx op U 3 ct D = false := by unfold jOp; rw [if_neg (by decide), if_neg (fun h => by simp at h)]
    have e2 : jLo nx op U 3 ct D = (jl nx ct || op) := by unfold jLo; rw [if_pos (.inl rfl)]
    have e3 : jRe nx op U 3 ct D = [] := by unfold jRe; rw [if_neg (by decide), if_neg (fun h => by simp at h)]
    have e4 : jUn nx op U 3 ct D = D := by unfold jUn; rw [if_pos rfl]
    rw [e1, e2, e3, e4]
    by_cases hA : nx = -1
    · subst hA
      refine (take_AW g ap ap' ct q op a n c up se b ob m d U D w h hU hD hq h0 h1 hm hm2 hn hbg hug).mono ?_
      rintro e w' ⟨a2, n2, c2, rfl, hJ, hA2, hG⟩
      exact ⟨none, 0, 0, a2, n2, c2, .inl rfl, rfl, hJ, nil _, hA2, hG⟩
    · by_cases hB : nx = ct
      · subst hB
        refine (take_BW g ap ap' nx q op a n c up se b ob m d U D w h hU hD hq h0 h1 hm hm2 hn hbg hug).mono ?_
        rintro e w' ⟨a2, n2, c2, rfl, hJ, hA2, hG⟩
        have : jl nx nx = false := by simp [jl]
        rw [this]
        exact ⟨none, 0, 0, a2, n2, c2, .inl rfl, rfl, hJ, nil _, hA2, hG⟩
      · refine (take_CW g ap ap' nx ct q op a n c up se b ob m d U D w h hU hD hq h0 h1 hm hm2 hn hA hB hbg).mono ?_
        rintro e w' ⟨a2, n2, c2, rfl, hJ, hA2, hG⟩
        have : jl nx ct = true := by simp [jl, hA, hB]
        rw [this]
        exact ⟨none, 0, 0, a2, n2, c2, .inl rfl, rfl, hJ, nil _, hA2, hG⟩
  · have e1 : jOp nx op U 1 ct D = true := by unfold jOp; rw [if_pos rfl]
    have e2 : jLo nx op U 1 ct D = (jl nx ct || op) := by unfold jLo; rw [if_pos (.inr rfl)]
    have e3 : jRe nx op U 1 ct D = D := by unfold jRe; rw [if_pos rfl]
    have e4 : jUn nx op U 1 ct D = [] := by unfold jUn; rw [if_neg (by decide), if_neg (fun h => by simp at h)]
    rw [e1, e2, e3, e4]
    by_cases hA : nx = -1
    · subst hA
      refine (take_AF g ap ap' ct q op a n c up se b ob m d U D w h hU hD hq h0 h1 hm hm2 hn hbg hug).mono ?_
      rintro e w' ⟨a2, n2, c2, rfl, hJ, hA2, hG⟩
      exact ⟨a2, n2, c2, none, 0, 0, .inr rfl, rfl, hJ, hA2, nil _, hG⟩
    · by_cases hB : nx = ct
      · subst hB
        refine (take_BF g ap ap' nx q op a n c up se b ob m d U D w h hU hD hq h0 h1 hm hm2 hn hbg hug).mono ?_
        rintro e w' ⟨a2, n2, c2, rfl, hJ, hA2, hG⟩
        have : jl nx nx = false := by simp [jl]
        rw [this]
        exact ⟨a2, n2, c2, none, 0, 0, .inr rfl, rfl, hJ, hA2, nil _, hG⟩
      · refine (take_CF g ap ap' nx ct q op a n c up se b ob m d U D w h hU hD hq h0 h1 hm hm2 hn hA hB hbg).mono ?_
        rintro e w' ⟨a2, n2, c2, rfl, hJ, hA2, hG⟩
        have : jl nx ct = true := by simp [jl, hA, hB]
        rw [this]
        exact ⟨a2, n2, c2, none, 0, 0, .inr rfl, rfl, hJ, hA2, nil _, hG⟩
  · -- middle
    have key : ∀ (o : Bool) (l : Bool), jl nx ct = l → op = o →
        (jOp nx op U 0 ct D = (o && !l && decide (U.length + D.length ≤ 1048576))) ∧ (jLo nx op U 0 ct D = !(o && !l && decide (U.length + D.length ≤ 1048576))) ∧ (jRe nx op U 0 ct D = if (o && !l && decide (U.length + D.length ≤ 1048576)) = true then U ++ D else []) ∧ jUn nx op U 0 ct D = [] := by
      intro o l hl ho'
      unfold jOp jLo jRe jUn
      rw [hl, ho']
      by_cases hk : U.length + D.length ≤ 1048576
      · have : ¬ (1048576 < U.length + D.length) := by omega
        cases o <;> cases l <;> simp [hk, this]
      · have : (1048576 < U.length + D.length) := by omega
        cases o <;> cases l <;> simp [hk, this]
    by_cases hA : nx = -1
    · subst hA
      have hl : jl (-1) ct = false := by simp [jl]
      cases op with
      | false =>
        obtain ⟨k1, k2, k3, k4⟩ := key false false hl rfl 
        refine (take_AMs g ap ap' ct q a n c up se b ob m d U D w h hU hD hq h0 h1 hm hm2 hn hbg hug).mono ?_
        rintro e w' ⟨rfl, hJ, hG⟩
        rw [k1, k2, k3, k4]
        exact ⟨none, 0, 0, none, 0, 0, .inl rfl, rfl, by simpa using hJ, by simpa using nil w', by simpa using nil w', hG⟩
      | true =>
        obtain ⟨k1, k2, k3, k4⟩ := key true false hl rfl
        by_cases hk : n + m ≤ 1048576
        · have hk' : decide (U.length + D.length ≤ 1048576) = true := decide_eq_true (by omega)
          refine (take_AMo g ap ap' ct q a n c up se b ob m d U D w h hU hD hq h0 h1 hm hm2 hn hbg hug hk (ho rfl)).mono ?_
          rintro e w' ⟨a1, n1, c1, rfl, hJ, hA1, hG⟩
          rw [k1, k2, k3, k4, hk']
          exact ⟨a1, n1, c1, none, 0, 0, .inr rfl, rfl, by simpa using hJ, by simpa using hA1, nil w', hG⟩
        · have hk' : decide (U.length + D.length ≤ 1048576) = false := decide_eq_false (by omega)
          refine (take_AMl g ap ap' ct q a n c up se b ob m d U D w h hU hD hq h0 h1 hm hm2 hn hbg hug (by omega)).mono ?_
          rintro e w' ⟨rfl, hJ, hG⟩
          rw [k1, k2, k3, k4, hk']
          exact ⟨none, 0, 0, none, 0, 0, .inl rfl, rfl, by simpa using hJ, by simpa using nil w', by simpa using nil w', hG⟩
    · by_cases hB : nx = ct
      · subst hB
        have hl : jl nx nx = false := by simp [jl]
        cases op with
        | false =>
          obtain ⟨k1, k2, k3, k4⟩ := key false false hl rfl 
          refine (take_BMs g ap ap' nx q a n c up se b ob m d U D w h hU hD hq h0 h1 hm hm2 hn hbg hug).mono ?_
          rintro e w' ⟨rfl, hJ, hG⟩
          rw [k1, k2, k3, k4]
          exact ⟨none, 0, 0, none, 0, 0, .inl rfl, rfl, by simpa using hJ, by simpa using nil w', by simpa using nil w', hG⟩
        | true =>
          obtain ⟨k1, k2, k3, k4⟩ := key true false hl rfl
          by_cases hk : n + m ≤ 1048576
          · have hk' : decide (U.length + D.length ≤ 1048576) = true := decide_eq_true (by omega)
            refine (take_BMo g ap ap' nx q a n c up se b ob m d U D w h hU hD hq h0 h1 hm hm2 hn hbg hug hk (ho rfl)).mono ?_
            rintro e w' ⟨a1, n1, c1, rfl, hJ, hA1, hG⟩
            rw [k1, k2, k3, k4, hk']
            exact ⟨a1, n1, c1, none, 0, 0, .inr rfl, rfl, by simpa using hJ, by simpa using hA1, nil w', hG⟩
          · have hk' : decide (U.length + D.length ≤ 1048576) = false := decide_eq_false (by omega)
            refine (take_BMl g ap ap' nx q a n c up se b ob m d U D w h hU hD hq h0 h1 hm hm2 hn hbg hug (by omega)).mono ?_
            rintro e w' ⟨rfl, hJ, hG⟩
            rw [k1, k2, k3, k4, hk']
            exact ⟨none, 0, 0, none, 0, 0, .inl rfl, rfl, by simpa using hJ, by simpa using nil w', by simpa using nil w', hG⟩
      · have hl : jl nx ct = true := by simp [jl, hA, hB]
        obtain ⟨k1, k2, k3, k4⟩ := key op true hl rfl
        refine (take_CM g ap ap' nx ct q op a n c up se b ob m d U D w h hU hD hq h0 h1 hm hm2 hn hA hB hbg).mono ?_
        rintro e w' ⟨rfl, hJ, hG⟩
        rw [k1, k2, k3, k4]
        exact ⟨none, 0, 0, none, 0, 0, .inl rfl, rfl, by simpa using hJ, by simpa using nil w', by simpa using nil w', hG⟩
  · -- last
    have key : ∀ (o : Bool) (l : Bool), jl nx ct = l → op = o →
        (jOp nx op U 2 ct D = false) ∧ (jLo nx op U 2 ct D = !(o && !l && decide (U.length + D.length ≤ 1048576))) ∧ (jRe nx op U 2 ct D = []) ∧ jUn nx op U 2 ct D = if (o && !l && decide (U.length + D.length ≤ 1048576)) = true then U ++ D else [] := by
      intro o l hl ho'
      unfold jOp jLo jRe jUn
      rw [hl, ho']
      by_cases hk : U.length + D.length ≤ 1048576
      · have : ¬ (1048576 < U.length + D.length) := by omega
        cases o <;> cases l <;> simp [hk, this]
      · have : (1048576 < U.length + D.length) := by omega
        cases o <;> cases l <;> simp [hk, this]
    by_cases hA : nx = -1
    · subst hA
      have hl : jl (-1) ct = false := by simp [jl]
      cases op with
      | false =>
        obtain ⟨k1, k2, k3, k4⟩ := key false false hl rfl 
        refine (take_ALs g ap ap' ct q a n c up se b ob m d U D w h hU hD hq h0 h1 hm hm2 hn hbg hug).mono ?_
        rintro e w' ⟨rfl, hJ, hG⟩
        rw [k1, k2, k3, k4]
        exact ⟨none, 0, 0, none, 0, 0, .inl rfl, rfl, by simpa using hJ, by simpa using nil w', by simpa using nil w', hG⟩
      | true =>
        obtain ⟨k1, k2, k3, k4⟩ := key true false hl rfl
        by_cases hk : n + m ≤ 1048576
        · have hk' : decide (U.length + D.length ≤ 1048576) = true := decide_eq_true (by omega)
          refine (take_ALo g ap ap' ct q a n c up se b ob m d U D w h hU hD hq h0 h1 hm hm2 hn hbg hug hk (ho rfl)).mono ?_
          rintro e w' ⟨a1, n1, c1, rfl, hJ, hA1, hG⟩
          rw [k1, k2, k3, k4, hk']
          exact ⟨none, 0, 0, a1, n1, c1, .inl rfl, rfl, by simpa using hJ, nil w', by simpa using hA1, hG⟩
        · have hk' : decide (U.length + D.length ≤ 1048576) = false := decide_eq_false (by omega)
          refine (take_ALl g ap ap' ct q a n c up se b ob m d U D w h hU hD hq h0 h1 hm hm2 hn hbg hug (by omega)).mono ?_
          rintro e w' ⟨rfl, hJ, hG⟩
          rw [k1, k2, k3, k4, hk']
          exact ⟨none, 0, 0, none, 0, 0, .inl rfl, rfl, by simpa using hJ, by simpa using nil w', by simpa using nil w', hG⟩
    · by_cases hB : nx = ct
      · subst hB
        have hl : jl nx nx = false := by simp [jl]
        cases op with
        | false =>
          obtain ⟨k1, k2, k3, k4⟩ := key false false hl rfl 
          refine (take_BLs g ap ap' nx q a n c up se b ob m d U D w h hU hD hq h0 h1 hm hm2 hn hbg hug).mono ?_
          rintro e w' ⟨rfl, hJ, hG⟩
          rw [k1, k2, k3, k4]
          exact ⟨none, 0, 0, none, 0, 0, .inl rfl, rfl, by simpa using hJ, by simpa using nil w', by simpa using nil w', hG⟩
        | true =>
          obtain ⟨k1, k2, k3, k4⟩ := key true false hl rfl
          by_cases hk : n + m ≤ 1048576
          · have hk' : decide (U.length + D.length ≤ 1048576) = true := decide_eq_true (by omega)
            refine (take_BLo g ap ap' nx q a n c up se b ob m d U D w h hU hD hq h0 h1 hm hm2 hn hbg hug hk (ho rfl)).mono ?_
            rintro e w' ⟨a1, n1, c1, rfl, hJ, hA1, hG⟩
            rw [k1, k2, k3, k4, hk']
            exact ⟨none, 0, 0, a1, n1, c1, .inl rfl, rfl, by simpa using hJ, nil w', by simpa using hA1, hG⟩
          · have hk' : decide (U.length + D.length ≤ 1048576) = false := decide_eq_false (by omega)
            refine (take_BLl g ap ap' nx q a n c up se b ob m d U D w h hU hD hq h0 h1 hm hm2 hn hbg hug (by omega)).mono ?_
            rintro e w' ⟨rfl, hJ, hG⟩
            rw [k1, k2, k3, k4, hk']
            exact ⟨none, 0, 0, none, 0, 0, .inl rfl, rfl, by simpa using hJ, by simpa using nil w', by simpa using nil w', hG⟩
      · have hl : jl nx ct = true := by simp [jl, hA, hB]
        obtain ⟨k1, k2, k3, k4⟩ := key op true hl rfl
        refine (take_CL g ap ap' nx ct q op a n c up se b ob m d U D w h hU hD hq h0 h1 hm hm2 hn hA hB hbg).mono ?_
        rintro e w' ⟨rfl, hJ, hG⟩
        rw [k1, k2, k3, k4]
        exact ⟨none, 0, 0, none, 0, 0, .inl rfl, rfl, by simpa using hJ, by simpa using nil w', by simpa using nil w', hG⟩

def jnV (ap nx : Int) (op : Bool) (a : Option Addr) (n c : Nat) : Value := .agg #[.int .i64 ap, .int .i64 nx, .bool op, .slice a n c]
/-- a Joined in a box -/
def BxJ (w : World) (g : Nat) (ap nx : Int) (op : Bool) (a : Option Addr) (n c : Nat) : Prop := BxS w g 39 #[.int .i64 ap, .int .i64 nx, .bool op, .slice a n c]
theorem BxJ.cell {w : World} {g : Nat} {ap nx : Int} {op : Bool} {a : Option Addr} {n c : Nat} (h : BxJ w g ap nx op a n c) :
    w.cell? ⟨g, 0, none⟩ = some (.int .i64 ap) ∧ w.cell? ⟨g, 1, none⟩ = some (.int .i64 nx) ∧ w.cell? ⟨g, 2, none⟩ = some (.bool op) ∧ w.cell? ⟨g, 3, none⟩ = some (.slice a n c) := by
  simp [World.cell?, show w.heap[g]? = _ from h]
theorem BxJ.keep {w w' : World} {g : Nat} {ap nx : Int} {op : Bool} {a : Option Addr} {n c : Nat} {r : Option Nat} (h : BxJ w g ap nx op a n c) (hg : w.grownBy w' r) (hne : some g ≠ r) : BxJ w' g ap nx op a n c := BxS.keep h hg hne
theorem BxJ.lt {w : World} {g : Nat} {ap nx : Int} {op : Bool} {a : Option Addr} {n c : Nat} (h : BxJ w g ap nx op a n c) : g < w.heap.size := BxS.lt h
theorem BxJ.new (w : World) (ap nx : Int) (op : Bool) (a : Option Addr) (n c : Nat) : BxJ (w.alloc (.cells #[.int .i64 ap, .int .i64 nx, .bool op, .slice a n c] 39)) w.heap.size ap nx op a n c := heap_alloc_new w _
theorem Try.info_jn : (Try.prog.info? 39).map (·.size) = some 4 := by kernel_rfl
theorem Try.info_jr : (Try.prog.info? 52).map (·.size) = some 5 := by kernel_rfl
theorem someones_any (z : Int) (w : World) : Calls Try.prog 14 #[.int .i64 z] w fun e w' => e = .returned (.bool (decide (0 ≤ z ∧ z ≤ 2046))) ∧ w' = w := by
  by_cases h : 0 ≤ z ∧ z ≤ 2046
  · rw [decide_eq_true h]
    go_enter Try.func14, Try.ntmps14
    go_wp2_with (go_at_call 15; refine (within_t _ _ h _).mono ?_; rintro e wx ⟨rfl, hw⟩; have hw := hw.symm; subst hw)
    go_ret
    exact ⟨rfl, rfl⟩
  · rw [decide_eq_false h]
    go_enter Try.func14, Try.ntmps14
    go_wp2_with (go_at_call 15; refine (within_f _ _ h _).mono ?_; rintro e wx ⟨rfl, hw⟩; have hw := hw.symm; subst hw)
    go_ret
    exact ⟨rfl, rfl⟩
/-- what Begin and Join may have answered -/
def couldJ (ap nx : Int) (op : Bool) (n : Nat) : Bool := decide (0 ≤ ap ∧ ap ≤ 2046) && decide (-1 ≤ nx ∧ nx ≤ 16383) && decide (n ≤ 1048576) && (if op = true then decide (0 < n) && decide (nx ≠ -1) else decide (n = 0))
set_option maxHeartbeats 4000000 in
theorem couldBe_any (ap nx : Int) (op : Bool) (a : Option Addr) (n c : Nat) (w : World) : Calls Try.prog 21 #[jnV ap nx op a n c] w fun e w' => e = .returned (.bool (couldJ ap nx op n)) ∧ w.grownBy w' none := by
  unfold jnV
  have gA := World.grownBy_alloc w (.cells #[.int .i64 ap, .int .i64 nx, .bool op, .slice a n c] 39) none
  by_cases h1 : 0 ≤ ap ∧ ap ≤ 2046
  · have d1 : decide (0 ≤ ap ∧ ap ≤ 2046) = true := decide_eq_true h1
    have hs := fun wz => someones_any ap wz
    rw [d1] at hs
    by_cases h2 : nx < -1
    · have e : couldJ ap nx op n = false := by unfold couldJ; rw [decide_eq_false (show ¬ (-1 ≤ nx ∧ nx ≤ 16383) by omega)]; simp
      rw [e]; clear e
      have d2 : decide (nx < -1) = true := decide_eq_true h2
      go_enter Try.func21, Try.ntmps21
      go_wp2_with (go_at_call 14; refine (hs _).mono ?_; rintro e wx ⟨rfl, hw⟩; have hw := hw.symm; subst hw)
      go_ret
      exact ⟨rfl, gA⟩
    have d2 : decide (nx < -1) = false := decide_eq_false h2
    by_cases h3 : 16383 < nx
    · have e : couldJ ap nx op n = false := by unfold couldJ; rw [decide_eq_false (show ¬ (-1 ≤ nx ∧ nx ≤ 16383) by omega)]; simp
      rw [e]; clear e
      have d3 : decide (16383 < nx) = true := decide_eq_true h3
      go_enter Try.func21, Try.ntmps21
      go_wp2_with (go_at_call 14; refine (hs _).mono ?_; rintro e wx ⟨rfl, hw⟩; have hw := hw.symm; subst hw)
      go_ret
      exact ⟨rfl, gA⟩
    have d3 : decide (16383 < nx) = false := decide_eq_false h3
    by_cases h4 : 1048576 < n
    · have e : couldJ ap nx op n = false := by unfold couldJ; rw [decide_eq_false (show ¬ (n ≤ 1048576) by omega)]; simp
      rw [e]; clear e
      have d4 : decide ((1048576 : Int) < (n : Int)) = true := decide_eq_true (by omega)
      go_enter Try.func21, Try.ntmps21
      go_wp2_with (go_at_call 14; refine (hs _).mono ?_; rintro e wx ⟨rfl, hw⟩; have hw := hw.symm; subst hw)
      go_ret
      exact ⟨rfl, gA⟩
    have d4 : decide ((1048576 : Int) < (n : Int)) = false := decide_eq_false (by omega)
    have eb : couldJ ap nx op n = (if op = true then decide (0 < n) && decide (nx ≠ -1) else decide (n = 0)) := by
      unfold couldJ; rw [d1, decide_eq_true (show -1 ≤ nx ∧ nx ≤ 16383 by omega), decide_eq_true (show n ≤ 1048576 by omega)]; simp
    rw [eb]; clear eb
    cases op with
    | false =>
      by_cases h5 : n = 0
      · subst h5
        go_enter Try.func21, Try.ntmps21
        go_wp2_with (go_at_call 14; refine (hs _).mono ?_; rintro e wx ⟨rfl, hw⟩; have hw := hw.symm; subst hw)
        go_ret
        exact ⟨rfl, gA⟩
      · have d5 : (((n : Int) == 0) : Bool) = false := by simp; omega
        have d6 : decide (n = 0) = false := decide_eq_false h5
        simp only [Bool.false_eq_true, if_false]
        rw [d6]
        go_enter Try.func21, Try.ntmps21
        go_wp2_with (go_at_call 14; refine (hs _).mono ?_; rintro e wx ⟨rfl, hw⟩; have hw := hw.symm; subst hw)
        go_ret
        exact ⟨rfl, gA⟩
    | true =>
      simp only [if_true]
      by_cases h5 : 0 < n
      · have d5 : decide ((0 : Int) < (n : Int)) = true := decide_eq_true (by omega)
        have d6 : decide (0 < n) = true := decide_eq_true h5
        rw [d6]
        by_cases h6 : nx = -1
        · subst h6
          go_enter Try.func21, Try.ntmps21
          go_wp2_with (go_at_call 14; refine (hs _).mono ?_; rintro e wx ⟨rfl, hw⟩; have hw := hw.symm; subst hw)
          go_ret
          exact ⟨rfl, gA⟩
        · have d7 : ((nx != -1) : Bool) = true := by simpa using h6
          have d8 : decide (nx ≠ -1) = true := decide_eq_true h6
          rw [d8]
          go_enter Try.func21, Try.ntmps21
          go_wp2_with (go_at_call 14; refine (hs _).mono ?_; rintro e wx ⟨rfl, hw⟩; have hw := hw.symm; subst hw)
          go_ret
          exact ⟨rfl, gA⟩
      · have d5 : decide ((0 : Int) < (n : Int)) = false := decide_eq_false (by omega)
        have d6 : decide (0 < n) = false := decide_eq_false h5
        rw [d6, Bool.false_and]
        go_enter Try.func21, Try.ntmps21
        go_wp2_with (go_at_call 14; refine (hs _).mono ?_; rintro e wx ⟨rfl, hw⟩; have hw := hw.symm; subst hw)
        go_ret
        exact ⟨rfl, gA⟩
  · have d1 : decide (0 ≤ ap ∧ ap ≤ 2046) = false := decide_eq_false h1
    have e : couldJ ap nx op n = false := by unfold couldJ; rw [d1]; simp
    have hs := fun wz => someones_any ap wz
    rw [d1] at hs
    rw [e]; clear e
    go_enter Try.func21, Try.ntmps21
    go_wp2_with (go_at_call 14; refine (hs _).mono ?_; rintro e wx ⟨rfl, hw⟩; have hw := hw.symm; subst hw)
    go_ret
    exact ⟨rfl, gA⟩

def jnE (aj nx : Int) (op : Bool) (n : Nat) (ap pt ct : Int) (m : Nat) : Nat := if couldJ aj nx op n = false then 11 else if mayE ap pt ct m ≠ 0 then mayE ap pt ct m else if ap ≠ aj then 10 else 0
/-- what a Join answers -/
def JnA (w w' : World) (aj nx : Int) (op : Bool) (U : List Nat) (ap pt ct : Int) (D : List Nat) (e : Ending) : Prop :=
  ∃ a1 n1 c1 a2 n2 c2, (jnE aj nx op U.length ap pt ct D.length = 0 ∧ e = .returned (.tuple #[jnV aj ((ct + 1) % 16384) (jOp nx op U pt ct D) a1 n1 c1, .slice a2 n2 c2, .bool (jLo nx op U pt ct D), .int .i64 0]) ∧ Ans w' w.heap.size a1 n1 c1 (jRe nx op U pt ct D) ∧ Ans w' w.heap.size a2 n2 c2 (jUn nx op U pt ct D) ∨
    jnE aj nx op U.length ap pt ct D.length ≠ 0 ∧ e = .returned (.tuple #[jnV 0 0 false none 0 0, .slice none 0 0, .bool false, .int .i64 (jnE aj nx op U.length ap pt ct D.length : Nat)]) ∧ a1 = none ∧ n1 = 0 ∧ c1 = 0 ∧ a2 = none ∧ n2 = 0 ∧ c2 = 0) ∧ w.grownBy w' none
theorem jnA_no {w w' : World} {aj nx : Int} {op : Bool} {U : List Nat} {ap pt ct : Int} {D : List Nat} {E : Nat} (hE : jnE aj nx op U.length ap pt ct D.length = E) (h0 : E ≠ 0) (hg : w.grownBy w' none) :
    JnA w w' aj nx op U ap pt ct D (.returned (.tuple #[jnV 0 0 false none 0 0, .slice none 0 0, .bool false, .int .i64 (E : Nat)])) := by
  refine ⟨none, 0, 0, none, 0, 0, .inr ⟨by omega, ?_, rfl, rfl, rfl, rfl, rfl, rfl⟩, hg⟩
  rw [hE]
/-- the same, and one of the two is nil -/
def JnB (w w' : World) (aj nx : Int) (op : Bool) (U : List Nat) (ap pt ct : Int) (D : List Nat) (e : Ending) : Prop :=
  ∃ a1 n1 c1 a2 n2 c2, (a1 = none ∨ a2 = none) ∧ (jnE aj nx op U.length ap pt ct D.length = 0 ∧ e = .returned (.tuple #[jnV aj ((ct + 1) % 16384) (jOp nx op U pt ct D) a1 n1 c1, .slice a2 n2 c2, .bool (jLo nx op U pt ct D), .int .i64 0]) ∧ Ans w' w.heap.size a1 n1 c1 (jRe nx op U pt ct D) ∧ Ans w' w.heap.size a2 n2 c2 (jUn nx op U pt ct D) ∨
    jnE aj nx op U.length ap pt ct D.length ≠ 0 ∧ e = .returned (.tuple #[jnV 0 0 false none 0 0, .slice none 0 0, .bool false, .int .i64 (jnE aj nx op U.length ap pt ct D.length : Nat)]) ∧ a1 = none ∧ n1 = 0 ∧ c1 = 0 ∧ a2 = none ∧ n2 = 0 ∧ c2 = 0) ∧ w.grownBy w' none
theorem jnB_no {w w' : World} {aj nx : Int} {op : Bool} {U : List Nat} {ap pt ct : Int} {D : List Nat} {E : Nat} (hE : jnE aj nx op U.length ap pt ct D.length = E) (h0 : E ≠ 0) (hg : w.grownBy w' none) :
    JnB w w' aj nx op U ap pt ct D (.returned (.tuple #[jnV 0 0 false none 0 0, .slice none 0 0, .bool false, .int .i64 (E : Nat)])) := by
  refine ⟨none, 0, 0, none, 0, 0, .inl rfl, .inr ⟨by omega, ?_, rfl, rfl, rfl, rfl, rfl, rfl⟩, hg⟩
  rw [hE]
set_option maxHeartbeats 8000000 in
theorem join_any (aj nx : Int) (op : Bool) (a : Option Addr) (n c : Nat) (up se : Bool) (ap pt ct : Int) (b : Option Addr) (m d : Nat) (U D : List Nat) (w : World) (hU : Rd w a n c U) (hD : Rd w b m d D) :
    Calls Try.prog 13 #[jnV aj nx op a n c, pkV up se ap pt ct b m d] w fun e w' => JnB w w' aj nx op U ap pt ct D e := by
  have LU : Hid (U.length = n) := hU.len
  have LD : Hid (D.length = m) := hD.len
  have i4 := Try.info_jn
  have hCB := fun wz => couldBe_any aj nx op a n c wz
  have hWR := fun wz => wrong_any up se ap pt ct b m d wz
  unfold jnV pkV at *
  have j0 := BxJ.new w aj nx op a n c
  have g0 := World.grownBy_alloc w (.cells #[.int .i64 aj, .int .i64 nx, .bool op, .slice a n c] 39) none
  generalize hw0 : w.alloc (.cells #[.int .i64 aj, .int .i64 nx, .bool op, .slice a n c] 39) = w0 at j0 g0
  have hz0 : w0.heap.size = w.heap.size + 1 := by rw [← hw0]; simp
  have p1 := BxP.new w0 up se ap pt ct b m d
  have g1 := World.grownBy_alloc w0 (.cells #[.bool up, .bool se, .int .i64 ap, .int .i64 pt, .int .i64 ct, .slice b m d] 33) none
  generalize hw1 : w0.alloc (.cells #[.bool up, .bool se, .int .i64 ap, .int .i64 pt, .int .i64 ct, .slice b m d] 33) = w1 at p1 g1
  have hz1 : w1.heap.size = w.heap.size + 2 := by rw [← hw1]; simp [hz0]
  rw [hz0] at p1
  have r2 := BxJ.new w1 0 0 false none 0 0
  have g2 := World.grownBy_alloc w1 (.cells #[.int .i64 0, .int .i64 0, .bool false, .slice none 0 0] 39) none
  generalize hw2 : w1.alloc (.cells #[.int .i64 0, .int .i64 0, .bool false, .slice none 0 0] 39) = w2 at r2 g2
  rw [hz1] at r2
  have j2 := j0.keep (grown_trans g1 g2) (by simp)
  have p2 := p1.keep g2 (by simp)
  have G2 := grown_trans g0 (grown_trans g1 g2)
  obtain ⟨c0, c1, c2, c3⟩ := j2.cell
  have t1 : True := trivial
  cases hc : couldJ aj nx op n with
  | false =>
    rw [hc] at hCB
    have HE : Hid (jnE aj nx op U.length ap pt ct D.length = 11) := by show _ = _; unfold jnE; rw [LU.out, hc, if_pos rfl]
    go_enter Try.func13, Try.ntmps13
    go_wp2_with (first
      | (go_at_call 21; have _t := t1; clear t1; refine (hCB w2).mono ?_; rintro e w3 ⟨rfl, g3⟩; have r3 := r2.keep g3 (by simp); have t2 : True := trivial)
      | (have _t := t2; refine wpList_stX _ rfl _ (.tmp 4) (.tmp 14) rfl (w.heap.size + 2) _ _ rfl rfl r3 i4 rfl (by simp [Value.oneCell']) ?_; clear t2; intro w4 r4 g4))
    refine bodyPost_ret (results_cell4 rfl _ _ _ ⟨w.heap.size + 2, 0, none⟩ _ (.slice none 0 0) (.bool false) (.int .i64 11) rfl (BxS.load r4 Try.underlying39 i4) rfl rfl rfl) rfl ?_
    exact jnB_no HE.out (by decide) (grown_far (grown_trans G2 g3) g4 (fun g e => by cases e; omega))
  | true =>
    rw [hc] at hCB
    by_cases hE : mayE ap pt ct m = 0
    · rw [hE] at hWR
      by_cases hap : ap = aj
      · subst hap
        have HE : Hid (jnE ap nx op U.length ap pt ct D.length = 0) := by show _ = _; unfold jnE; rw [LU.out, LD.out, hc, if_neg (by simp), if_neg (by omega), if_neg (by simp)]
        have hm0 := (mayE_ok hE).2
        obtain ⟨bb, ob, rfl, hbw, _⟩ := hD.at' (by omega)
        obtain ⟨⟨_, hpt, hct⟩, hm1, hm2⟩ := mayE_ok hE
        have hcj := hc
        unfold couldJ at hcj
        have hnb : n ≤ 1048576 ∧ (op = true → 0 < n) := by
          simp only [Bool.and_eq_true, decide_eq_true_eq] at hcj
          refine ⟨hcj.1.2, fun ho => ?_⟩
          have h3 := hcj.2
          rw [if_pos ho] at h3
          simp only [Bool.and_eq_true, decide_eq_true_eq] at h3
          exact h3.1
        clear hcj
        obtain ⟨q, hq⟩ : ∃ q : Int, q = (ct + 1) % 16384 := ⟨_, rfl⟩
        have Hq : Hid (q = (ct + 1) % 16384) := hq
        clear hq
        have hTK := fun (g : Nat) (wz : World) (hJ : Jr wz g ap nx op a n c false) (h1 : Rd wz a n c U) (h2 : Rd wz (some ⟨bb, ob, none⟩) m d D) (h3 : ¬ bb = g) (h4 : 0 < n → ∀ x y, a = some ⟨x, y, none⟩ → some x ≠ some g) => take_all g ap ap nx pt ct q op a n c up se bb ob m d U D wz hJ h1 h2 Hq hct.1 hct.2 hpt.1 hpt.2 (by omega) (by omega) hnb.1 h3 h4 hnb.2
        unfold pkV at hTK
        have hUw := fun wz (g : w.grownBy wz none) => hU.keep g
        have hDw := fun wz (g : w.grownBy wz none) => hD.keep g
        have hUn := fun (g : Nat) (hg : w.heap.size ≤ g) => hU.ne hg
        have KP : Hid (∀ e w', (∃ a1 n1 c1 a2 n2 c2, (a1 = none ∨ a2 = none) ∧ e = .returned (.tuple #[.agg #[.int .i64 ap, .int .i64 q, .bool (jOp nx op U pt ct D), .slice a1 n1 c1], .slice a2 n2 c2, .bool (jLo nx op U pt ct D), .int .i64 0]) ∧ Ans w' w.heap.size a1 n1 c1 (jRe nx op U pt ct D) ∧ Ans w' w.heap.size a2 n2 c2 (jUn nx op U pt ct D) ∧ w.grownBy w' none) → JnB w w' ap nx op U ap pt ct D e) := by
          rintro e w' ⟨a1, n1, c1, a2, n2, c2, h0, rfl, h1, h2, h3⟩
          refine ⟨a1, n1, c1, a2, n2, c2, h0, .inl ⟨HE.out, ?_, h1, h2⟩, h3⟩
          rw [Hq.out]; rfl
        generalize jOp nx op U pt ct D = oo at hTK KP
        generalize jLo nx op U pt ct D = ll at hTK KP
        generalize jRe nx op U pt ct D = RR at hTK KP
        generalize jUn nx op U pt ct D = UU at hTK KP
        clear hU hD hnb hE hm0 hm1 hm2 HE hpt hct
        go_enter Try.func13, Try.ntmps13
        go_wp2_with (first
          | (go_at_call 21; have _t := t1; clear t1; refine (hCB w2).mono ?_; rintro e w3 ⟨rfl, g3⟩; have r3 := r2.keep g3 (by simp); have p3 := p2.keep g3 (by simp); have j3 := j2.keep g3 (by simp); obtain ⟨q0, q1, q2, q3, q4, q5⟩ := p3.cell; clear c0 c1 c2 c3; have t2 : True := trivial)
          | (go_at_call 22; have _t := t2; clear t2; refine (hWR w3).mono ?_; rintro e w4 ⟨rfl, g4⟩; have r4 := r3.keep g4 (by simp); have p4 := p3.keep g4 (by simp); have j4 := j3.keep g4 (by simp); clear q0 q1 q2 q3 q4 q5; have k0 := p4.cell.2.2.1; obtain ⟨k1, k2, k3, k4⟩ := j4.cell; have G4 := grown_trans G2 (grown_trans g3 g4); have gA := World.grownBy_alloc w4 (.cells #[.int .i64 ap, .int .i64 nx, .bool op, .slice a n c, .bool false] 52) none; have J5 : Jr (w4.alloc (.cells #[.int .i64 ap, .int .i64 nx, .bool op, .slice a n c, .bool false] 52)) w4.heap.size ap nx op a n c false := heap_alloc_new w4 _; have p5 := p4.keep gA (by simp); have r5 := r4.keep gA (by simp); obtain ⟨q0, q1, q2, q3, q4, q5⟩ := p5.cell; have G5 := grown_trans G4 gA; have hz4 : w.heap.size + 2 < w4.heap.size := r4.lt; have t3 : True := trivial)
          | (go_at_call 23; have _t := t3; clear t3; refine (hTK w4.heap.size _ J5 (hUw _ G5) (hDw _ G5) (by omega) (hUn _ (by omega))).mono ?_; rintro e w6 ⟨a1, n1, c1, a2, n2, c2, h12, rfl, J6, hA1, hA2, g6⟩))
        clear q0 q1 q2 q3 q4 q5 k0 k1 k2 k3 k4 p5 p4 p3 p2 j4 j3 j2 hCB hWR hTK hUw hDw hUn
        have r6 := r5.keep g6 (by simp; omega)
        obtain ⟨c0, c1', c2', c3, c4⟩ := J6.cells
        obtain ⟨d0, d1, d2, d3⟩ := r6.cell
        have f0 := BxS.free r6 0
        have f1 := BxS.free r6 1
        have f2 := BxS.free r6 2
        have f3 := BxS.free r6 3
        go_region
        have r7 : BxS _ (w.heap.size + 2) 39 #[.int .i64 ap, .int .i64 q, .bool oo, .slice a1 n1 c1] := (((BxS.set r6 0 (.int .i64 ap)).set 1 (.int .i64 q)).set 2 (.bool oo)).set 3 (.slice a1 n1 c1)
        have g7 : w6.grownBy ((((w6.setCell ⟨w.heap.size + 2, 0, none⟩ (.int .i64 ap)).setCell ⟨w.heap.size + 2, 1, none⟩ (.int .i64 q)).setCell ⟨w.heap.size + 2, 2, none⟩ (.bool oo)).setCell ⟨w.heap.size + 2, 3, none⟩ (.slice a1 n1 c1)) (some (w.heap.size + 2)) :=
          grown_trans (grown_set _ _ _ _) (grown_trans (grown_set _ _ _ _) (grown_trans (grown_set _ _ _ _) (grown_set _ _ _ _)))
        generalize ((((w6.setCell ⟨w.heap.size + 2, 0, none⟩ (.int .i64 ap)).setCell ⟨w.heap.size + 2, 1, none⟩ (.int .i64 q)).setCell ⟨w.heap.size + 2, 2, none⟩ (.bool oo)).setCell ⟨w.heap.size + 2, 3, none⟩ (.slice a1 n1 c1)) = w7 at r7 g7 ⊢
        have gd := grown_drew w7 none
        have r8 := BxS.keep r7 gd (by simp)
        generalize w7.drew = w8 at gd r8 ⊢
        clear d0 d1 d2 d3 f0 f1 f2 f3 c0 c1' c2' c3 c4
        go_wp2
        refine bodyPost_ret (results_cell4 rfl _ _ _ ⟨w.heap.size + 2, 0, none⟩ _ (.slice a2 n2 c2) (.bool ll) (.int .i64 0) rfl (BxS.load r8 Try.underlying39 i4) rfl rfl rfl) rfl ?_
        have hlo : w.heap.size + 2 < (w4.alloc (.cells #[.int .i64 ap, .int .i64 nx, .bool op, .slice a n c, .bool false] 52)).heap.size := r5.lt
        refine KP.out _ _ ⟨a1, n1, c1, a2, n2, c2, h12, rfl, ((hA1.kept g7 (.inr (Ne.symm (sp_ne hA1 hlo)))).keep gd).wide (by omega), ((hA2.kept g7 (.inr (Ne.symm (sp_ne hA2 hlo)))).keep gd).wide (by omega), ?_⟩
        exact grown_trans (grown_far (grown_far G5 g6 (fun g e => by cases e; omega)) g7 (fun g e => by cases e; omega)) gd
      · have HE : Hid (jnE aj nx op U.length ap pt ct D.length = 10) := by show _ = _; unfold jnE; rw [LU.out, LD.out, hc, if_neg (by simp), if_neg (by omega), if_pos hap]
        have d1 : ((ap != aj) : Bool) = true := by simpa using hap
        go_enter Try.func13, Try.ntmps13
        go_wp2_with (first
          | (go_at_call 21; have _t := t1; clear t1; refine (hCB w2).mono ?_; rintro e w3 ⟨rfl, g3⟩; have r3 := r2.keep g3 (by simp); have p3 := p2.keep g3 (by simp); have j3 := j2.keep g3 (by simp); obtain ⟨q0, q1, q2, q3, q4, q5⟩ := p3.cell; clear c0 c1 c2 c3; have t2 : True := trivial)
          | (go_at_call 22; have _t := t2; clear t2; refine (hWR w3).mono ?_; rintro e w4 ⟨rfl, g4⟩; have r4 := r3.keep g4 (by simp); have p4 := p3.keep g4 (by simp); have j4 := j3.keep g4 (by simp); clear q0 q1 q2 q3 q4 q5; have k0 := p4.cell.2.2.1; have k1 := j4.cell.1; have t3 : True := trivial)
          | (have _t := t3; refine wpList_stX _ rfl _ (.tmp 4) (.tmp 26) rfl (w.heap.size + 2) _ _ rfl rfl r4 i4 rfl (by simp [Value.oneCell']) ?_; clear t3; intro w5 r5 g5))
        refine bodyPost_ret (results_cell4 rfl _ _ _ ⟨w.heap.size + 2, 0, none⟩ _ (.slice none 0 0) (.bool false) (.int .i64 10) rfl (BxS.load r5 Try.underlying39 i4) rfl rfl rfl) rfl ?_
        exact jnB_no HE.out (by decide) (grown_far (grown_trans G2 (grown_trans g3 g4)) g5 (fun g e => by cases e; omega))
    · have HE : Hid (jnE aj nx op U.length ap pt ct D.length = mayE ap pt ct m) := by show _ = _; unfold jnE; rw [LU.out, LD.out, hc, if_neg (by simp), if_pos hE]
      have HN : Hid (mayE ap pt ct m ≠ 0) := hE
      generalize mayE ap pt ct m = E at hE hWR HE HN
      have d1 : (((E : Int) != 0) : Bool) = true := by simp; omega
      go_enter Try.func13, Try.ntmps13
      go_wp2_with (first
        | (go_at_call 21; have _t := t1; clear t1; refine (hCB w2).mono ?_; rintro e w3 ⟨rfl, g3⟩; have r3 := r2.keep g3 (by simp); have p3 := p2.keep g3 (by simp); obtain ⟨q0, q1, q2, q3, q4, q5⟩ := p3.cell; clear c0 c1 c2 c3; have t2 : True := trivial)
        | (go_at_call 22; have _t := t2; clear t2; refine (hWR w3).mono ?_; rintro e w4 ⟨rfl, g4⟩; have r4 := r3.keep g4 (by simp); clear q0 q1 q2 q3 q4 q5; have t3 : True := trivial)
        | (have _t := t3; refine wpList_stX _ rfl _ (.tmp 4) (.tmp 19) rfl (w.heap.size + 2) _ _ rfl rfl r4 i4 rfl (by simp [Value.oneCell']) ?_; clear t3; intro w5 r5 g5))
      refine bodyPost_ret (results_cell4 rfl _ _ _ ⟨w.heap.size + 2, 0, none⟩ _ (.slice none 0 0) (.bool false) (.int .i64 (E : Int)) rfl (BxS.load r5 Try.underlying39 i4) rfl rfl rfl) rfl ?_
      exact jnB_no HE.out HN.out (grown_far (grown_trans G2 (grown_trans g3 g4)) g5 (fun g e => by cases e; omega))
end Go.Proofs.Ytnnohgllnfmoeaa
