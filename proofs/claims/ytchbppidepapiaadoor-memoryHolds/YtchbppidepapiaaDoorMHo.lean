import Derived.Test.YtchbppidepapiaaDoorZOp
import Derived.Test.YtchbppidepapiaaDoorMHp
namespace Go.Proofs.YtchbppidepapiaaDoor
open Go.RowKit
set_option linter.unusedVariables false

theorem met_intsJ {w : World} {full : Bool} {n : Nat} {cs : List Value} (h : (Sh.slice 1 8 (.int .i64)).met w full cs n) : ∃ a len cap S, cs = [.slice a len cap] ∧ RdJ w a len cap S ∧ (full = true → cap * 8 ≤ reachBytes) := by
  obtain ⟨a, len, cap, zs, rfl, hr, hf, hn⟩ := met_ints h
  obtain ⟨S, hS, hz, _⟩ := rdI_of_row hr
  refine ⟨a, len, cap, S, rfl, ⟨hS, fun i hi => ?_⟩, hf⟩
  exact hz i
theorem shown_intsJ {w : World} {full : Bool} {n : Nat} {v : Value} (h : (Sh.slice 1 8 (.int .i64)).shown w full v n) : ∃ a len cap S, v = .slice a len cap ∧ RdJ w a len cap S ∧ (full = true → cap * 8 ≤ reachBytes) := by
  obtain ⟨a, len, cap, S, e, hr⟩ := met_intsJ h
  cases e
  exact ⟨a, len, cap, S, rfl, hr⟩
theorem shown_rowsJ {w : World} {full : Bool} {N : Nat} {v : Value} (h : (Sh.slice 1 24 (.slice 1 8 (.int .i64))).shown w full v N) : ∃ a len cap R, v = .slice a len cap ∧ RdJJ w a len cap R ∧ (full = true → cap * 24 ≤ reachBytes) := by
  have h : (Sh.slice 1 24 (.slice 1 8 (.int .i64))).met w full [v] N := h
  rcases h with ⟨rfl, e⟩ | ⟨x, len, cap, G, C, e, e', hl, hm, hf, hc⟩
  · cases e
    exact ⟨none, 0, 0, fun _ => (none, 0, 0, []), rfl, ⟨Nat.le_refl _, Nat.zero_le _, fun h => by omega, fun i h => by omega⟩, fun _ => by rw [Nat.zero_mul]; exact Nat.zero_le _⟩
  · cases e
    have each : ∀ i, i < cap → ∃ r : Option Addr × Nat × Nat × List Int, w.cell? (x.add i) = some (.slice r.1 r.2.1 r.2.2.1) ∧ RdJ w r.1 r.2.1 r.2.2.1 r.2.2.2 := by
      intro i hi
      obtain ⟨h1, h2, h3⟩ := hc i hi
      obtain ⟨a, l, c, S, e, hr, _⟩ := met_intsJ h3
      have d := h2 0 (by decide)
      rw [e] at d
      rw [Nat.mul_one, Nat.add_zero] at d
      exact ⟨(a, l, c, S), d, hr⟩
    have hI : Inhabited (Option Addr × Nat × Nat × List Int) := ⟨(none, 0, 0, [])⟩
    obtain ⟨R, hR⟩ := Go.Deep.choose_lt each
    refine ⟨some x, len, cap, R, rfl, ⟨hl, hm, fun h0 => ?_, fun i hi => (hR i (by omega)).2⟩, hf⟩
    obtain ⟨b, off, spot⟩ := x
    have hc0 := (hR 0 (by omega)).1
    have h0' : w.cell? (⟨b, off, spot⟩ : Addr) = some (.slice (R 0).1 (R 0).2.1 (R 0).2.2.1) := by simpa [Addr.add] using hc0
    have hspot : spot = none := by simpa using World.cell?_spot h0'
    subst hspot
    refine ⟨b, off, rfl, World.block_lt_of_cell? w _ h0', fun i hi => ?_⟩
    have k1 := (hR i (by omega)).1
    rw [addr_add] at k1
    exact k1
end Go.Proofs.YtchbppidepapiaaDoor
