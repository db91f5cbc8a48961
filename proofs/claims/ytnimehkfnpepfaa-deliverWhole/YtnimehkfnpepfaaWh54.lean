import Derived.Test.YtnimehkfnpepfaaWh2
import Derived.Test.YtnimehkfnpepfaaWh12
import Derived.Test.YtnimehkfnpepfaaWh1
import Derived.OpenShut
namespace Go.Proofs.Ytnimehkfnpepfaa
open Go.RowKit
set_option maxRecDepth 100000
set_option linter.unusedVariables false
set_option linter.unusedSimpArgs false

section
/-- From a slice of bytes that came in to how it is read. -/
theorem rd_of_row {w : World} {a : Option Addr} {len cap : Nat} {zs : List Int}
    (h : (a = none ∧ len = 0 ∧ cap = 0 ∧ zs = []) ∨ ∃ x, a = some x ∧ len ≤ cap ∧ cap ≤ maxLen ∧ zs.length = cap ∧ (∀ i, i < zs.length → w.cell? (x.add i) = some (.int .u8 (zs.getD i 0))) ∧ ∀ n ∈ zs, (Lit.int .u8 n).wf = true) :
    ∃ L, Rd w a len cap L ∧ len ≤ cap := by
  rcases h with ⟨rfl, rfl, rfl, rfl⟩ | ⟨x, rfl, hl, hm, hz, hcell, hwf⟩
  · exact ⟨[], ⟨rfl, Nat.le_refl _, Nat.zero_le _, fun _ => rfl, (fun x hx => by cases hx), fun h => by omega⟩, Nat.le_refl _⟩
  · have hget : ∀ i, i < len → zs.getD i 0 = ((nth ((zs.take len).map Int.toNat) i : Nat) : Int) ∧ 0 ≤ zs.getD i 0 := by
      intro i hi
      have hi' : i < zs.length := by omega
      have hb := bounds_u8 (hwf zs[i] (List.getElem_mem hi'))
      unfold nth
      rw [List.getD_eq_getElem?_getD, List.getD_eq_getElem?_getD, List.getElem?_map, List.getElem?_take, if_pos hi, List.getElem?_eq_getElem hi']
      simp only [Option.map_some, Option.getD_some]
      omega
    refine ⟨(zs.take len).map Int.toNat, ⟨by simp; omega, hl, hm, (fun h => by cases h), ?_, fun h0 => ?_⟩, hl⟩
    · intro y hy
      obtain ⟨n, hn, rfl⟩ := List.mem_map.1 hy
      have hb := bounds_u8 (hwf n (List.mem_of_mem_take hn))
      omega
    · have hc0 := hcell 0 (by omega)
      obtain ⟨b, off, spot⟩ := x
      have hspot : spot = none := by simpa [Addr.add] using World.cell?_spot hc0
      subst hspot
      refine ⟨b, off, rfl, ?_, fun i hi => ?_⟩
      · exact World.block_lt_of_cell? w _ hc0
      · rw [← (hget i hi).1]
        have := hcell i (by omega)
        have e : (⟨b, off, none⟩ : Addr).add i = ⟨b, off + i, none⟩ := by unfold Addr.add; split <;> simp_all
        rw [e] at this
        exact this
end

section
theorem sumN_le {F : Nat → Nat} {n : Nat} (h : ∀ i, i < n → 1 ≤ F i) : n ≤ sumN F n := by
  induction n with
  | zero => exact Nat.le_refl _
  | succ n ih =>
    have h1 := ih (fun i hi => h i (by omega))
    have h2 := h n (by omega)
    simp only [sumN]; omega
/-- a slice of numbers of one kind: its cells -/
theorem met_ints {w : World} {full : Bool} {k : IntKind} {b n : Nat} {cs : List Value} (h : (Sh.slice 1 b (.int k)).met w full cs n) :
    ∃ a len cap zs, cs = [.slice a len cap] ∧ ((a = none ∧ len = 0 ∧ cap = 0 ∧ zs = []) ∨ ∃ x, a = some x ∧ len ≤ cap ∧ cap ≤ maxLen ∧ zs.length = cap ∧ (∀ i, i < zs.length → w.cell? (x.add i) = some (.int k (zs.getD i 0))) ∧ ∀ n ∈ zs, (Lit.int k n).wf = true) ∧
      (full = true → cap * b ≤ reachBytes) ∧ cap + 1 ≤ n := by
  rcases h with ⟨rfl, rfl⟩ | ⟨x, len, cap, F, C, rfl, rfl, hl, hm, hf, hc⟩
  · exact ⟨none, 0, 0, [], rfl, .inl ⟨rfl, rfl, rfl, rfl⟩, fun _ => by rw [Nat.zero_mul]; exact Nat.zero_le _, Nat.le_refl _⟩
  · have each : ∀ i, i < cap → ∃ z : Int, w.cell? (x.add i) = some (.int k z) ∧ (Lit.int k z).wf = true ∧ F i = 1 := by
      intro i hi
      obtain ⟨h1, h2, h3, z, h4, h5⟩ := hc i hi
      have := h2 0 (by omega)
      rw [h4] at this
      rw [Nat.mul_one, Nat.add_zero] at this
      exact ⟨z, this, h5, h3⟩
    obtain ⟨Z, hZ⟩ := Go.Deep.choose_lt each
    have hget : ∀ i, i < cap → ((List.range cap).map Z).getD i 0 = Z i := by
      intro i hi
      rw [List.getD_eq_getElem?_getD, List.getElem?_map, List.getElem?_range hi]; rfl
    refine ⟨some x, len, cap, (List.range cap).map Z, rfl, .inr ⟨x, rfl, hl, hm, by simp, fun i hi => ?_, fun z hz => ?_⟩, hf, ?_⟩
    · have hi' : i < cap := by simpa using hi
      rw [hget i hi']
      exact (hZ i hi').1
    · obtain ⟨i, hi, rfl⟩ := List.mem_map.1 hz
      exact (hZ i (List.mem_range.1 hi)).2.1
    · have := sumN_le (F := F) (n := cap) (fun i hi => by rw [(hZ i hi).2.2]; exact Nat.le_refl _)
      omega
/-- a slice of bytes -/
theorem met_bytes {w : World} {full : Bool} {n : Nat} {cs : List Value} (h : (Sh.slice 1 1 (.int .u8)).met w full cs n) :
    ∃ a len cap L, cs = [.slice a len cap] ∧ Rd w a len cap L ∧ (full = true → cap ≤ 140737488351232) ∧ cap + 1 ≤ n := by
  obtain ⟨a, len, cap, zs, rfl, hr, hf, hn⟩ := met_ints h
  obtain ⟨L, hL, _⟩ := rd_of_row hr
  exact ⟨a, len, cap, L, rfl, hL, fun h => by have := hf h; unfold reachBytes at this; omega, hn⟩
end

section
theorem shown_int {w : World} {full : Bool} {n : Nat} {v : Value} (h : (Sh.int .i64).shown w full v n) : ∃ z, v = .int .i64 z ∧ -9223372036854775808 ≤ z ∧ z ≤ 9223372036854775807 := by
  obtain ⟨_, z, e, hz⟩ := h
  cases e
  exact ⟨z, rfl, bounds_i64 hz⟩
theorem shown_bytes {w : World} {full : Bool} {n : Nat} {v : Value} (h : (Sh.slice 1 1 (.int .u8)).shown w full v n) : ∃ a len cap L, v = .slice a len cap ∧ Rd w a len cap L ∧ (full = true → cap ≤ 140737488351232) ∧ cap + 1 ≤ n := by
  obtain ⟨a, len, cap, L, e, hr⟩ := met_bytes h
  cases e
  exact ⟨a, len, cap, L, rfl, hr⟩
end
end Go.Proofs.Ytnimehkfnpepfaa
