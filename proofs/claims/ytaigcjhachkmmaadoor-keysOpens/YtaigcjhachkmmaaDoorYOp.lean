import Derived.Test.YtaigcjhachkmmaaDoorZOp
import Derived.Test.YtaigcjhachkmmaaDoorYZi
namespace Go.Proofs.YtaigcjhachkmmaaDoor
open Go.RowKit
set_option linter.unusedVariables false

theorem shown_int {w : World} {full : Bool} {n : Nat} {v : Value} (h : (Sh.int .i64).shown w full v n) : ∃ z, v = .int .i64 z ∧ -9223372036854775808 ≤ z ∧ z ≤ 9223372036854775807 := by
  obtain ⟨_, z, e, hz⟩ := h
  cases e
  exact ⟨z, rfl, bounds_i64 hz⟩
theorem shown_bytes {w : World} {full : Bool} {n : Nat} {v : Value} (h : (Sh.slice 1 1 (.int .u8)).shown w full v n) : ∃ a len cap L, v = .slice a len cap ∧ Rd w a len cap L ∧ (full = true → cap ≤ 140737488351232) ∧ cap + 1 ≤ n := by
  obtain ⟨a, len, cap, L, e, hr⟩ := met_bytes h
  cases e
  exact ⟨a, len, cap, L, rfl, hr⟩
/-- a slice of numbers -/
theorem met_nums {w : World} {full : Bool} {n : Nat} {cs : List Value} (h : (Sh.slice 1 8 (.int .i64)).met w full cs n) :
    ∃ a len cap S, cs = [.slice a len cap] ∧ RdI w a len cap S ∧ (∀ i, -9223372036854775808 ≤ nthI S i ∧ nthI S i ≤ 9223372036854775807) ∧ (full = true → cap ≤ 17592186043904) ∧ cap + 1 ≤ n := by
  obtain ⟨a, len, cap, zs, rfl, hr, hf, hn⟩ := met_ints h
  obtain ⟨S, hS, hb, _⟩ := rdI_of_row hr
  exact ⟨a, len, cap, S, rfl, hS, hb, fun h => by have := hf h; unfold reachBytes at this; omega, hn⟩
theorem shown_ints {w : World} {full : Bool} {n : Nat} {v : Value} (h : (Sh.slice 1 8 (.int .i64)).shown w full v n) :
    ∃ a len cap S, v = .slice a len cap ∧ RdI w a len cap S ∧ (∀ i, -9223372036854775808 ≤ nthI S i ∧ nthI S i ≤ 9223372036854775807) ∧ (full = true → cap ≤ 17592186043904) ∧ cap + 1 ≤ n := by
  obtain ⟨a, len, cap, S, e, hr⟩ := met_nums h
  cases e
  exact ⟨a, len, cap, S, rfl, hr⟩
end Go.Proofs.YtaigcjhachkmmaaDoor
