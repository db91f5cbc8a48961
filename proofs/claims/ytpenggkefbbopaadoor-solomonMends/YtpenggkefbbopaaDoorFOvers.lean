import Derived.Test.YtpenggkefbbopaaDoorFROver2
namespace Go.Proofs.YtpenggkefbbopaaDoor
open Go.RowKit
set_option maxRecDepth 100000
set_option linter.unusedVariables false
set_option linter.unusedSimpArgs false

/-! what Over answers, whatever came in -/
def ovE (P Q : List Nat) : Int := if P.length ≤ 512 ∧ Q.length ≤ 512 then (if trimN Q Q.length = 0 then 3 else 0) else 1
def ovQ (P Q : List Nat) : List Nat := if P.length ≤ 512 ∧ Q.length ≤ 512 ∧ trimN Q Q.length ≠ 0 then trimL (ovS P (trimL Q) (P.length + 1 - trimN Q Q.length) (P.length + 1 - trimN Q Q.length)) else []
def ovT (P Q : List Nat) : List Nat := if P.length ≤ 512 ∧ Q.length ≤ 512 ∧ trimN Q Q.length ≠ 0 then trimL (ovR P (trimL Q) (P.length + 1 - trimN Q Q.length) (P.length + 1 - trimN Q Q.length)) else []
theorem trimL_len (Q : List Nat) : (trimL Q).length = trimN Q Q.length := by
  unfold trimL; rw [List.length_take]; have := trimN_le Q Q.length; omega
theorem ovQ_le (P Q : List Nat) : (ovQ P Q).length ≤ 513 := by
  unfold ovQ; split
  · have h := trimL_le (ovS P (trimL Q) (P.length + 1 - trimN Q Q.length) (P.length + 1 - trimN Q Q.length))
    rw [ovS_length] at h
    omega
  · simp
theorem ovT_le (P Q : List Nat) : (ovT P Q).length ≤ 513 := by
  unfold ovT; split
  · have h := trimL_le (ovR P (trimL Q) (P.length + 1 - trimN Q Q.length) (P.length + 1 - trimN Q Q.length))
    rw [ovR_length] at h
    omega
  · simp
theorem over_all (a b : Option Addr) (n m cap cap' : Nat) (P Q : List Nat) (w : World) (hp : Rd w a n cap P) (hq : Rd w b m cap' Q) :
    Calls Tryd.prog 13 #[.slice a n cap, .slice b m cap'] w fun e w' => ∃ a2 n2 c2 a1 n1 c1, e = .returned (.tuple #[.slice a2 n2 c2, .slice a1 n1 c1, .int .i64 (ovE P Q)]) ∧
      Ans w' w.heap.size a2 n2 c2 (ovQ P Q) ∧ Ans w' w.heap.size a1 n1 c1 (ovT P Q) ∧ w.grownBy w' none ∧ ((Value.slice a1 n1 c1).ownBlock = none ∨ (Value.slice a1 n1 c1).ownBlock ≠ (Value.slice a2 n2 c2).ownBlock) := by
  have h1 := hp.le; have h2 := hp.max; have h3 := hq.le; have h4 := hq.max
  unfold maxLen at h2 h4
  unfold ovE ovQ ovT
  rw [hp.len, hq.len]
  by_cases h : n ≤ 512 ∧ m ≤ 512
  · by_cases hz : trimN Q m = 0
    · rw [if_pos h, if_pos hz, if_neg (by simp [hz]), if_neg (by simp [hz])]
      refine (over_zero a b n m cap cap' Q w hq h.1 h.2 hz).mono ?_
      rintro e w' ⟨rfl, rfl⟩
      exact ⟨none, 0, 0, none, 0, 0, rfl, ans_nil _ _, ans_nil _ _, World.grownBy.refl _ _, .inl rfl⟩
    · rw [if_pos h, if_neg hz, if_pos ⟨h.1, h.2, hz⟩, if_pos ⟨h.1, h.2, hz⟩]
      refine (over_ok a b n m cap cap' (trimN Q m) (n + 1 - trimN Q m) P Q (trimL Q) w hp hq h.1 h.2 rfl (by omega) (by unfold trimL; rw [hq.len]) rfl).mono ?_
      rintro e w' ⟨n2, n1, g, rfl, hg, hs, hr, hgr⟩
      exact ⟨_, _, _, _, _, _, rfl, ⟨hs.own, hs.byte, fun g hg => Nat.le_trans (Nat.le_succ _) (hs.new g hg)⟩, hr, hgr, .inr (by simp [Value.ownBlock]; omega)⟩
  · rw [if_neg h, if_neg (by intro h'; exact h ⟨h'.1, h'.2.1⟩), if_neg (by intro h'; exact h ⟨h'.1, h'.2.1⟩)]
    refine (over_big a b n m cap cap' w (by omega) (by omega) (by omega)).mono ?_
    rintro e w' ⟨rfl, rfl⟩
    exact ⟨none, 0, 0, none, 0, 0, rfl, ans_nil _ _, ans_nil _ _, World.grownBy.refl _ _, .inl rfl⟩
end Go.Proofs.YtpenggkefbbopaaDoor
