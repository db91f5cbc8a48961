import Derived.Test.YtnnohgllnfmoeaaPUn
import Derived.Test.YtnnohgllnfmoeaaPOp
namespace Go.Proofs.Ytnnohgllnfmoeaa
open Go.RowKit
set_option linter.unusedVariables false

theorem shown_lose {w : World} {full : Bool} {N : Nat} {v : Value} (h : (Sh.slice 1 8 (.int .i64)).shown w full v N) : ∃ a len cap G, v = .slice a len cap ∧ RdL w a len cap G := by
  obtain ⟨a, len, cap, zs, e, hr, _, _⟩ := met_ints h
  cases e
  rcases hr with ⟨rfl, rfl, rfl, _⟩ | ⟨x, rfl, hl, hm, hz, hc, _⟩
  · exact ⟨none, 0, 0, fun _ => 0, rfl, ⟨Nat.le_refl _, Nat.zero_le _, fun h => by omega⟩⟩
  · refine ⟨some x, len, cap, fun i => zs.getD i 0, rfl, ⟨hl, hm, fun h0 => ?_⟩⟩
    obtain ⟨b, off, spot⟩ := x
    have hc0 := hc 0 (by omega)
    have h0' : w.cell? (⟨b, off, spot⟩ : Addr) = some (.int .i64 (zs.getD 0 0)) := by simpa [Addr.add] using hc0
    have hspot : spot = none := by simpa using World.cell?_spot h0'
    subst hspot
    refine ⟨b, off, rfl, World.block_lt_of_cell? w _ h0', fun i hi => ?_⟩
    have k1 := hc i (by omega)
    rw [addr_add] at k1
    exact k1
theorem shown_units {w : World} {full : Bool} {N : Nat} {v : Value} (h : (Sh.slice 1 24 (.slice 1 1 (.int .u8))).shown w full v N) : ∃ a len cap F, v = .slice a len cap ∧ RdU w a len cap F := by
  have h : (Sh.slice 1 24 (.slice 1 1 (.int .u8))).met w full [v] N := h
  rcases h with ⟨rfl, e⟩ | ⟨x, len, cap, G, C, e, e', hl, hm, hf, hc⟩
  · cases e
    exact ⟨none, 0, 0, fun _ => uw0, rfl, ⟨Nat.le_refl _, Nat.zero_le _, fun h => by omega, fun i h => by omega⟩⟩
  · cases e
    have each : ∀ i, i < cap → ∃ r : Uw, w.cell? (x.add i) = some (.slice r.a r.n r.c) ∧ Rd w r.a r.n r.c r.D := by
      intro i hi
      obtain ⟨h1, h2, h3⟩ := hc i hi
      obtain ⟨a, l, c, S, e, hr, _⟩ := met_bytes h3
      have d := h2 0 (by decide)
      rw [e] at d
      rw [Nat.mul_one, Nat.add_zero] at d
      exact ⟨⟨a, l, c, S⟩, d, hr⟩
    have hI : Inhabited Uw := ⟨uw0⟩
    obtain ⟨R, hR⟩ := Go.Deep.choose_lt each
    refine ⟨some x, len, cap, R, rfl, ⟨hl, hm, fun h0 => ?_, fun i hi => (hR i (by omega)).2⟩⟩
    obtain ⟨b, off, spot⟩ := x
    have hc0 := (hR 0 (by omega)).1
    have h0' : w.cell? (⟨b, off, spot⟩ : Addr) = some (.slice (R 0).a (R 0).n (R 0).c) := by simpa [Addr.add] using hc0
    have hspot : spot = none := by simpa using World.cell?_spot h0'
    subst hspot
    refine ⟨b, off, rfl, World.block_lt_of_cell? w _ h0', fun i hi => ?_⟩
    have k1 := (hR i (by omega)).1
    rw [addr_add] at k1
    exact k1
end Go.Proofs.Ytnnohgllnfmoeaa
