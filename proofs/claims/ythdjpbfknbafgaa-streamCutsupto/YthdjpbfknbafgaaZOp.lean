import Derived.Test.YthdjpbfknbafgaaZSh
import Derived.Test.YthdjpbfknbafgaaFRow
namespace Go.Proofs.Ythdjpbfknbafgaa
open Go.RowKit
set_option linter.unusedVariables false

theorem sumN_le {F : Nat → Nat} {n : Nat} (h : ∀ i, i < n → 1 ≤ F i) : n ≤ sumN F n := by
  induction n with
  | zero => exact Nat.le_refl _
  | succ n ih =>
    have h1 := ih (fun i hi => h i (by omega))
    have h2 := h n (by omega)
    simp only [sumN]; omega
theorem sumN_part {F : Nat → Nat} {n i : Nat} (hi : i < n) : F i ≤ sumN F n := by
  induction n with
  | zero => omega
  | succ n ih =>
    simp only [sumN]
    by_cases e : i = n
    · subst e; omega
    · have := ih (by omega); omega
/-- a slice of numbers of one kind: its cells -/
theorem met_ints {w : World} {full : Bool} {k : IntKind} {b n : Nat} {cs : List Value} (h : (Sh.slice 1 b (.int k)).met w full cs n) :
    ∃ a len cap zs, cs = [.slice a len cap] ∧ ((a = none ∧ len = 0 ∧ cap = 0 ∧ zs = []) ∨ ∃ x, a = some x ∧ len ≤ cap ∧ cap ≤ maxLen ∧ zs.length = cap ∧ (∀ i, i < zs.length → w.cell? (x.add i) = some (.int k (zs.getD i 0))) ∧ ∀ n ∈ zs, (Lit.int k n).wf = true) ∧
      (full = true → cap * b ≤ reachBytes) ∧ cap + 1 ≤ n := by
  rcases h with ⟨rfl, rfl⟩ | ⟨x, len, cap, F, C, rfl, rfl, hl, hm, hf, hc⟩
  · exact ⟨none, 0, 0, [], rfl, .inl ⟨rfl, rfl, rfl, rfl⟩, fun _ => by rw [Nat.zero_mul]; exact Nat.zero_le _, Nat.le_refl _⟩
  · have each : ∀ i, i < cap → ∃ z : Int, w.cell? (x.add i) = some (.int k z) ∧ (Lit.int k z).wf = true ∧ F i = 1 := by
      intro i hi
      obtain ⟨h1, h2, h3, z, h4, h5⟩ := hc i hi
      have := h2 0 (by omega)
      rw [h4] at this
      rw [Nat.mul_one, Nat.add_zero] at this
      exact ⟨z, this, h5, h3⟩
    obtain ⟨Z, hZ⟩ := Go.Deep.choose_lt each
    have hget : ∀ i, i < cap → ((List.range cap).map Z).getD i 0 = Z i := by
      intro i hi
      rw [List.getD_eq_getElem?_getD, List.getElem?_map, List.getElem?_range hi]; rfl
    refine ⟨some x, len, cap, (List.range cap).map Z, rfl, .inr ⟨x, rfl, hl, hm, by simp, fun i hi => ?_, fun z hz => ?_⟩, hf, ?_⟩
    · have hi' : i < cap := by simpa using hi
      rw [hget i hi']
      exact (hZ i hi').1
    · obtain ⟨i, hi, rfl⟩ := List.mem_map.1 hz
      exact (hZ i (List.mem_range.1 hi)).2.1
    · have := sumN_le (F := F) (n := cap) (fun i hi => by rw [(hZ i hi).2.2]; exact Nat.le_refl _)
      omega
/-- a slice of bytes -/
theorem met_bytes {w : World} {full : Bool} {n : Nat} {cs : List Value} (h : (Sh.slice 1 1 (.int .u8)).met w full cs n) :
    ∃ a len cap L, cs = [.slice a len cap] ∧ Rd w a len cap L ∧ (full = true → cap ≤ 140737488351232) ∧ cap + 1 ≤ n := by
  obtain ⟨a, len, cap, zs, rfl, hr, hf, hn⟩ := met_ints h
  obtain ⟨L, hL, _⟩ := rd_of_row hr
  exact ⟨a, len, cap, L, rfl, hL, fun h => by have := hf h; unfold reachBytes at this; omega, hn⟩
end Go.Proofs.Ythdjpbfknbafgaa
