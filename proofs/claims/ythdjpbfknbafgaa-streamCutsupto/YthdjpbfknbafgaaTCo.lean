import Derived.Test.YthdjpbfknbafgaaTCe
import Derived.Test.YthdjpbfknbafgaaTOp
namespace Go.Proofs.Ythdjpbfknbafgaa
open Go.RowKit
set_option linter.unusedVariables false

theorem shown_bytesC {w : World} {full : Bool} {n : Nat} {v : Value} (h : (Sh.slice 1 1 (.int .u8)).shown w full v n) : ∃ a len cap L, v = .slice a len cap ∧ Rd w a len cap L ∧ cap + 1 ≤ n := by
  obtain ⟨a, len, cap, L, e, hr, _, hn⟩ := met_bytes h
  cases e
  exact ⟨a, len, cap, L, rfl, hr, hn⟩
theorem shown_cuts {w : World} {full : Bool} {N : Nat} {v : Value} (h : (Sh.slice 1 8 (.int .i64)).shown w full v N) : ∃ a len cap G, v = .slice a len cap ∧ RdIC w a len G ∧ len + 1 ≤ N := by
  obtain ⟨a, len, cap, zs, e, hr, _, hn⟩ := met_ints h
  cases e
  rcases hr with ⟨rfl, rfl, rfl, _⟩ | ⟨x, rfl, hl, hm, hz, hc, hw⟩
  · exact ⟨none, 0, 0, fun _ => 0, rfl, ⟨fun h => by omega⟩, hn⟩
  · refine ⟨some x, len, cap, fun i => zs.getD i 0, rfl, ⟨fun h0 => ?_⟩, by omega⟩
    obtain ⟨b, off, spot⟩ := x
    have hc0 := hc 0 (by omega)
    have h0' : w.cell? (⟨b, off, spot⟩ : Addr) = some (.int .i64 (zs.getD 0 0)) := by simpa [Addr.add] using hc0
    have hspot : spot = none := by simpa using World.cell?_spot h0'
    subst hspot
    refine ⟨b, off, rfl, fun i hi => ?_⟩
    have k1 := hc i (by omega)
    rw [addr_add] at k1
    have hm : zs.getD i 0 ∈ zs := by
      rw [List.getD_eq_getElem?_getD, List.getElem?_eq_getElem (by omega)]
      exact List.getElem_mem _
    obtain ⟨b1, b2⟩ := bounds_i64 (hw _ hm)
    exact ⟨k1, b1, b2⟩
end Go.Proofs.Ythdjpbfknbafgaa
