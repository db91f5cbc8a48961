import Derived.Test.YtmcadmndmafogaaPJo4
import Derived.Test.YtmcadmndmafogaaPOf
namespace Go.Proofs.Ytmcadmndmafogaa
open Go.RowKit
set_option maxRecDepth 100000
set_option linter.unusedVariables false
set_option linter.unusedSimpArgs false

/-- a packet comes to what is joined: is something lost before it; what is lost, told, open and held behind it -/
def jl (nx ct : Int) : Bool := decide (nx ≠ -1) && decide (nx ≠ ct)
def jLo (nx : Int) (op : Bool) (U : List Nat) (pt ct : Int) (D : List Nat) : Bool := if pt = 3 ∨ pt = 1 then jl nx ct || op else if op = true ∧ jl nx ct = false then decide (1048576 < U.length + D.length) else true
def jUn (nx : Int) (op : Bool) (U : List Nat) (pt ct : Int) (D : List Nat) : List Nat := if pt = 3 then D else if pt = 2 ∧ op = true ∧ jl nx ct = false ∧ U.length + D.length ≤ 1048576 then U ++ D else []
def jOp (nx : Int) (op : Bool) (U : List Nat) (pt ct : Int) (D : List Nat) : Bool := if pt = 1 then true else if pt = 0 ∧ op = true ∧ jl nx ct = false ∧ U.length + D.length ≤ 1048576 then true else false
def jRe (nx : Int) (op : Bool) (U : List Nat) (pt ct : Int) (D : List Nat) : List Nat := if pt = 1 then D else if pt = 0 ∧ op = true ∧ jl nx ct = false ∧ U.length + D.length ≤ 1048576 then U ++ D else []
theorem take_all (g : Nat) (ap ap' nx pt ct q : Int) (op : Bool) (a : Option Addr) (n c : Nat) (up se : Bool) (b ob m d : Nat) (U D : List Nat) (w : World) (h : Jr w g ap nx op a n c false) (hU : Rd w a n c U) (hD : Rd w (some ⟨b, ob, none⟩) m d D)
    (hq : Hid (q = (ct + 1) % 16384)) (h0 : 0 ≤ ct) (h1 : ct ≤ 16383) (hp0 : 0 ≤ pt) (hp1 : pt ≤ 3) (hm : 0 < m) (hm2 : m ≤ 65536) (hn : n ≤ 1048576) (hbg : ¬ b = g) (hug : 0 < n → ∀ x y, a = some ⟨x, y, none⟩ → some x ≠ some g) (ho : op = true → 0 < n) :
    Calls Try.prog 40 #[.pointer (some ⟨g, 0, none⟩), pkV up se ap' pt ct (some ⟨b, ob, none⟩) m d] w fun e w' => ∃ a1 n1 c1 a2 n2 c2, (a1 = none ∨ a2 = none) ∧ e = .returned (.slice a2 n2 c2) ∧ Jr w' g ap q (jOp nx op U pt ct D) a1 n1 c1 (jLo nx op U pt ct D) ∧
      Ans w' w.heap.size a1 n1 c1 (jRe nx op U pt ct D) ∧ Ans w' w.heap.size a2 n2 c2 (jUn nx op U pt ct D) ∧ w.grownBy w' (some g) := by
  have lU := hU.len
  have lD := hD.len
  have nil := fun w' => ans_nil w' w.heap.size
  rcases (show pt = 3 ∨ pt = 1 ∨ pt = 0 ∨ pt = 2 by omega) with rfl | rfl | rfl | rfl
  · have e1 : jOp nx op U 3 ct D = false := by unfold jOp; rw [if_neg (by decide), if_neg (fun h => by simp at h)]
    have e2 : jLo nx op U 3 ct D = (jl nx ct || op) := by unfold jLo; rw [if_pos (.inl rfl)]
    have e3 : jRe nx op U 3 ct D = [] := by unfold jRe; rw [if_neg (by decide), if_neg (fun h => by simp at h)]
    have e4 : jUn nx op U 3 ct D = D := by unfold jUn; rw [if_pos rfl]
    rw [e1, e2, e3, e4]
    by_cases hA : nx = -1
    · subst hA
      refine (take_AW g ap ap' ct q op a n c up se b ob m d U D w h hU hD hq h0 h1 hm hm2 hn hbg hug).mono ?_
      rintro e w' ⟨a2, n2, c2, rfl, hJ, hA2, hG⟩
      exact ⟨none, 0, 0, a2, n2, c2, .inl rfl, rfl, hJ, nil _, hA2, hG⟩
    · by_cases hB : nx = ct
      · subst hB
        refine (take_BW g ap ap' nx q op a n c up se b ob m d U D w h hU hD hq h0 h1 hm hm2 hn hbg hug).mono ?_
        rintro e w' ⟨a2, n2, c2, rfl, hJ, hA2, hG⟩
        have : jl nx nx = false := by simp [jl]
        rw [this]
        exact ⟨none, 0, 0, a2, n2, c2, .inl rfl, rfl, hJ, nil _, hA2, hG⟩
      · refine (take_CW g ap ap' nx ct q op a n c up se b ob m d U D w h hU hD hq h0 h1 hm hm2 hn hA hB hbg).mono ?_
        rintro e w' ⟨a2, n2, c2, rfl, hJ, hA2, hG⟩
        have : jl nx ct = true := by simp [jl, hA, hB]
        rw [this]
        exact ⟨none, 0, 0, a2, n2, c2, .inl rfl, rfl, hJ, nil _, hA2, hG⟩
  · have e1 : jOp nx op U 1 ct D = true := by unfold jOp; rw [if_pos rfl]
    have e2 : jLo nx op U 1 ct D = (jl nx ct || op) := by unfold jLo; rw [if_pos (.inr rfl)]
    have e3 : jRe nx op U 1 ct D = D := by unfold jRe; rw [if_pos rfl]
    have e4 : jUn nx op U 1 ct D = [] := by unfold jUn; rw [if_neg (by decide), if_neg (fun h => by simp at h)]
    rw [e1, e2, e3, e4]
    by_cases hA : nx = -1
    · subst hA
      refine (take_AF g ap ap' ct q op a n c up se b ob m d U D w h hU hD hq h0 h1 hm hm2 hn hbg hug).mono ?_
      rintro e w' ⟨a2, n2, c2, rfl, hJ, hA2, hG⟩
      exact ⟨a2, n2, c2, none, 0, 0, .inr rfl, rfl, hJ, hA2, nil _, hG⟩
    · by_cases hB : nx = ct
      · subst hB
        refine (take_BF g ap ap' nx q op a n c up se b ob m d U D w h hU hD hq h0 h1 hm hm2 hn hbg hug).mono ?_
        rintro e w' ⟨a2, n2, c2, rfl, hJ, hA2, hG⟩
        have : jl nx nx = false := by simp [jl]
        rw [this]
        exact ⟨a2, n2, c2, none, 0, 0, .inr rfl, rfl, hJ, hA2, nil _, hG⟩
      · refine (take_CF g ap ap' nx ct q op a n c up se b ob m d U D w h hU hD hq h0 h1 hm hm2 hn hA hB hbg).mono ?_
        rintro e w' ⟨a2, n2, c2, rfl, hJ, hA2, hG⟩
        have : jl nx ct = true := by simp [jl, hA, hB]
        rw [this]
        exact ⟨a2, n2, c2, none, 0, 0, .inr rfl, rfl, hJ, hA2, nil _, hG⟩
  · -- middle
    have key : ∀ (o : Bool) (l : Bool), jl nx ct = l → op = o →
        (jOp nx op U 0 ct D = (o && !l && decide (U.length + D.length ≤ 1048576))) ∧ (jLo nx op U 0 ct D = !(o && !l && decide (U.length + D.length ≤ 1048576))) ∧ (jRe nx op U 0 ct D = if (o && !l && decide (U.length + D.length ≤ 1048576)) = true then U ++ D else []) ∧ jUn nx op U 0 ct D = [] := by
      intro o l hl ho'
      unfold jOp jLo jRe jUn
      rw [hl, ho']
      by_cases hk : U.length + D.length ≤ 1048576
      · have : ¬ (1048576 < U.length + D.length) := by omega
        cases o <;> cases l <;> simp [hk, this]
      · have : (1048576 < U.length + D.length) := by omega
        cases o <;> cases l <;> simp [hk, this]
    by_cases hA : nx = -1
    · subst hA
      have hl : jl (-1) ct = false := by simp [jl]
      cases op with
      | false =>
        obtain ⟨k1, k2, k3, k4⟩ := key false false hl rfl 
        refine (take_AMs g ap ap' ct q a n c up se b ob m d U D w h hU hD hq h0 h1 hm hm2 hn hbg hug).mono ?_
        rintro e w' ⟨rfl, hJ, hG⟩
        rw [k1, k2, k3, k4]
        exact ⟨none, 0, 0, none, 0, 0, .inl rfl, rfl, by simpa using hJ, by simpa using nil w', by simpa using nil w', hG⟩
      | true =>
        obtain ⟨k1, k2, k3, k4⟩ := key true false hl rfl
        by_cases hk : n + m ≤ 1048576
        · have hk' : decide (U.length + D.length ≤ 1048576) = true := decide_eq_true (by omega)
          refine (take_AMo g ap ap' ct q a n c up se b ob m d U D w h hU hD hq h0 h1 hm hm2 hn hbg hug hk (ho rfl)).mono ?_
          rintro e w' ⟨a1, n1, c1, rfl, hJ, hA1, hG⟩
          rw [k1, k2, k3, k4, hk']
          exact ⟨a1, n1, c1, none, 0, 0, .inr rfl, rfl, by simpa using hJ, by simpa using hA1, nil w', hG⟩
        · have hk' : decide (U.length + D.length ≤ 1048576) = false := decide_eq_false (by omega)
          refine (take_AMl g ap ap' ct q a n c up se b ob m d U D w h hU hD hq h0 h1 hm hm2 hn hbg hug (by omega)).mono ?_
          rintro e w' ⟨rfl, hJ, hG⟩
          rw [k1, k2, k3, k4, hk']
          exact ⟨none, 0, 0, none, 0, 0, .inl rfl, rfl, by simpa using hJ, by simpa using nil w', by simpa using nil w', hG⟩
    · by_cases hB : nx = ct
      · subst hB
        have hl : jl nx nx = false := by simp [jl]
        cases op with
        | false =>
          obtain ⟨k1, k2, k3, k4⟩ := key false false hl rfl 
          refine (take_BMs g ap ap' nx q a n c up se b ob m d U D w h hU hD hq h0 h1 hm hm2 hn hbg hug).mono ?_
          rintro e w' ⟨rfl, hJ, hG⟩
          rw [k1, k2, k3, k4]
          exact ⟨none, 0, 0, none, 0, 0, .inl rfl, rfl, by simpa using hJ, by simpa using nil w', by simpa using nil w', hG⟩
        | true =>
          obtain ⟨k1, k2, k3, k4⟩ := key true false hl rfl
          by_cases hk : n + m ≤ 1048576
          · have hk' : decide (U.length + D.length ≤ 1048576) = true := decide_eq_true (by omega)
            refine (take_BMo g ap ap' nx q a n c up se b ob m d U D w h hU hD hq h0 h1 hm hm2 hn hbg hug hk (ho rfl)).mono ?_
            rintro e w' ⟨a1, n1, c1, rfl, hJ, hA1, hG⟩
            rw [k1, k2, k3, k4, hk']
            exact ⟨a1, n1, c1, none, 0, 0, .inr rfl, rfl, by simpa using hJ, by simpa using hA1, nil w', hG⟩
          · have hk' : decide (U.length + D.length ≤ 1048576) = false := decide_eq_false (by omega)
            refine (take_BMl g ap ap' nx q a n c up se b ob m d U D w h hU hD hq h0 h1 hm hm2 hn hbg hug (by omega)).mono ?_
            rintro e w' ⟨rfl, hJ, hG⟩
            rw [k1, k2, k3, k4, hk']
            exact ⟨none, 0, 0, none, 0, 0, .inl rfl, rfl, by simpa using hJ, by simpa using nil w', by simpa using nil w', hG⟩
      · have hl : jl nx ct = true := by simp [jl, hA, hB]
        obtain ⟨k1, k2, k3, k4⟩ := key op true hl rfl
        refine (take_CM g ap ap' nx ct q op a n c up se b ob m d U D w h hU hD hq h0 h1 hm hm2 hn hA hB hbg).mono ?_
        rintro e w' ⟨rfl, hJ, hG⟩
        rw [k1, k2, k3, k4]
        exact ⟨none, 0, 0, none, 0, 0, .inl rfl, rfl, by simpa using hJ, by simpa using nil w', by simpa using nil w', hG⟩
  · -- last
    have key : ∀ (o : Bool) (l : Bool), jl nx ct = l → op = o →
        (jOp nx op U 2 ct D = false) ∧ (jLo nx op U 2 ct D = !(o && !l && decide (U.length + D.length ≤ 1048576))) ∧ (jRe nx op U 2 ct D = []) ∧ jUn nx op U 2 ct D = if (o && !l && decide (U.length + D.length ≤ 1048576)) = true then U ++ D else [] := by
      intro o l hl ho'
      unfold jOp jLo jRe jUn
      rw [hl, ho']
      by_cases hk : U.length + D.length ≤ 1048576
      · have : ¬ (1048576 < U.length + D.length) := by omega
        cases o <;> cases l <;> simp [hk, this]
      · have : (1048576 < U.length + D.length) := by omega
        cases o <;> cases l <;> simp [hk, this]
    by_cases hA : nx = -1
    · subst hA
      have hl : jl (-1) ct = false := by simp [jl]
      cases op with
      | false =>
        obtain ⟨k1, k2, k3, k4⟩ := key false false hl rfl 
        refine (take_ALs g ap ap' ct q a n c up se b ob m d U D w h hU hD hq h0 h1 hm hm2 hn hbg hug).mono ?_
        rintro e w' ⟨rfl, hJ, hG⟩
        rw [k1, k2, k3, k4]
        exact ⟨none, 0, 0, none, 0, 0, .inl rfl, rfl, by simpa using hJ, by simpa using nil w', by simpa using nil w', hG⟩
      | true =>
        obtain ⟨k1, k2, k3, k4⟩ := key true false hl rfl
        by_cases hk : n + m ≤ 1048576
        · have hk' : decide (U.length + D.length ≤ 1048576) = true := decide_eq_true (by omega)
          refine (take_ALo g ap ap' ct q a n c up se b ob m d U D w h hU hD hq h0 h1 hm hm2 hn hbg hug hk (ho rfl)).mono ?_
          rintro e w' ⟨a1, n1, c1, rfl, hJ, hA1, hG⟩
          rw [k1, k2, k3, k4, hk']
          exact ⟨none, 0, 0, a1, n1, c1, .inl rfl, rfl, by simpa using hJ, nil w', by simpa using hA1, hG⟩
        · have hk' : decide (U.length + D.length ≤ 1048576) = false := decide_eq_false (by omega)
          refine (take_ALl g ap ap' ct q a n c up se b ob m d U D w h hU hD hq h0 h1 hm hm2 hn hbg hug (by omega)).mono ?_
          rintro e w' ⟨rfl, hJ, hG⟩
          rw [k1, k2, k3, k4, hk']
          exact ⟨none, 0, 0, none, 0, 0, .inl rfl, rfl, by simpa using hJ, by simpa using nil w', by simpa using nil w', hG⟩
    · by_cases hB : nx = ct
      · subst hB
        have hl : jl nx nx = false := by simp [jl]
        cases op with
        | false =>
          obtain ⟨k1, k2, k3, k4⟩ := key false false hl rfl 
          refine (take_BLs g ap ap' nx q a n c up se b ob m d U D w h hU hD hq h0 h1 hm hm2 hn hbg hug).mono ?_
          rintro e w' ⟨rfl, hJ, hG⟩
          rw [k1, k2, k3, k4]
          exact ⟨none, 0, 0, none, 0, 0, .inl rfl, rfl, by simpa using hJ, by simpa using nil w', by simpa using nil w', hG⟩
        | true =>
          obtain ⟨k1, k2, k3, k4⟩ := key true false hl rfl
          by_cases hk : n + m ≤ 1048576
          · have hk' : decide (U.length + D.length ≤ 1048576) = true := decide_eq_true (by omega)
            refine (take_BLo g ap ap' nx q a n c up se b ob m d U D w h hU hD hq h0 h1 hm hm2 hn hbg hug hk (ho rfl)).mono ?_
            rintro e w' ⟨a1, n1, c1, rfl, hJ, hA1, hG⟩
            rw [k1, k2, k3, k4, hk']
            exact ⟨none, 0, 0, a1, n1, c1, .inl rfl, rfl, by simpa using hJ, nil w', by simpa using hA1, hG⟩
          · have hk' : decide (U.length + D.length ≤ 1048576) = false := decide_eq_false (by omega)
            refine (take_BLl g ap ap' nx q a n c up se b ob m d U D w h hU hD hq h0 h1 hm hm2 hn hbg hug (by omega)).mono ?_
            rintro e w' ⟨rfl, hJ, hG⟩
            rw [k1, k2, k3, k4, hk']
            exact ⟨none, 0, 0, none, 0, 0, .inl rfl, rfl, by simpa using hJ, by simpa using nil w', by simpa using nil w', hG⟩
      · have hl : jl nx ct = true := by simp [jl, hA, hB]
        obtain ⟨k1, k2, k3, k4⟩ := key op true hl rfl
        refine (take_CL g ap ap' nx ct q op a n c up se b ob m d U D w h hU hD hq h0 h1 hm hm2 hn hA hB hbg).mono ?_
        rintro e w' ⟨rfl, hJ, hG⟩
        rw [k1, k2, k3, k4]
        exact ⟨none, 0, 0, none, 0, 0, .inl rfl, rfl, by simpa using hJ, by simpa using nil w', by simpa using nil w', hG⟩
end Go.Proofs.Ytmcadmndmafogaa
