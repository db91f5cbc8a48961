import Derived.Test.YthdjpbfknbafgaaTSl
import Derived.Test.YthdjpbfknbafgaaTOp
namespace Go.Proofs.Ythdjpbfknbafgaa
open Go.RowKit
set_option linter.unusedVariables false

theorem shown_pieces2 {w : World} {full : Bool} {N : Nat} {v : Value} (h : (Sh.slice 1 24 (.slice 1 1 (.int .u8))).shown w full v N) : ∃ a len cap V Ps, v = .slice a len cap ∧ PsX w a len cap V Ps ∧ (full = true → len * 24 ≤ 140737488351232) := by
  have h : (Sh.slice 1 24 (.slice 1 1 (.int .u8))).met w full [v] N := h
  rcases h with ⟨rfl, e⟩ | ⟨x, len, cap, G, C, e, e', hl, hm, hf, hc⟩
  · cases e
    exact ⟨none, 0, 0, [], [], rfl, ⟨RdX.nil0 _, rfl, fun i v B h _ => by cases h⟩, fun _ => by omega⟩
  · cases e
    have each : ∀ i, i < cap → ∃ r : (Option Addr × Nat × Nat × List Nat), w.cell? (x.add i) = some (.slice r.1 r.2.1 r.2.2.1) ∧ Rd w r.1 r.2.1 r.2.2.1 r.2.2.2 := by
      intro i hi
      obtain ⟨h1, h2, h3⟩ := hc i hi
      obtain ⟨a, l, c, S, e, hr, _⟩ := met_bytes h3
      have d := h2 0 (by decide)
      rw [e] at d
      rw [Nat.mul_one, Nat.add_zero] at d
      exact ⟨(a, l, c, S), d, hr⟩
    obtain ⟨R, hR⟩ := Go.Deep.choose_lt each
    have hget : ∀ {α : Type} (f : Nat → α) i u, ((List.range len).map f)[i]? = some u → i < len ∧ f i = u := by
      intro α f i u hi
      have hil : i < len := by
        by_cases hh : i < len
        · exact hh
        · rw [List.getElem?_eq_none (by simp; omega)] at hi; cases hi
      rw [List.getElem?_map, List.getElem?_range hil] at hi
      exact ⟨hil, Option.some.inj hi⟩
    refine ⟨some x, len, cap, (List.range len).map (fun i => .slice (R i).1 (R i).2.1 (R i).2.2.1), (List.range len).map (fun i => (R i).2.2.2), rfl, ⟨⟨by simp, hl, hm, (fun e => by cases e), fun u hu => ?_, fun h0 => ?_⟩, by simp, fun i v B h1 h2 => ?_⟩, fun hfu => ?_⟩
    · obtain ⟨i, _, rfl⟩ := List.mem_map.1 hu
      rfl
    · obtain ⟨b, off, spot⟩ := x
      have hc0 := (hR 0 (by omega)).1
      have h0' : w.cell? (⟨b, off, spot⟩ : Addr) = some (.slice (R 0).1 (R 0).2.1 (R 0).2.2.1) := by simpa [Addr.add] using hc0
      have hspot : spot = none := by simpa using World.cell?_spot h0'
      subst hspot
      refine ⟨b, off, rfl, World.block_lt_of_cell? w _ h0', fun i u hi => ?_⟩
      obtain ⟨hil, rfl⟩ := hget _ _ _ hi
      have k1 := (hR i (by omega)).1
      rw [addr_add] at k1
      exact k1
    · obtain ⟨hil, rfl⟩ := hget _ _ _ h1
      obtain ⟨_, rfl⟩ := hget _ _ _ h2
      exact ⟨_, _, _, rfl, (hR i (by omega)).2⟩
    · have := hf hfu
      unfold reachBytes at this
      omega
end Go.Proofs.Ythdjpbfknbafgaa
