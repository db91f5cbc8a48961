import Derived.Test.YthdjpbfknbafgaaTLf
import Derived.Test.YthdjpbfknbafgaaZOp
namespace Go.Proofs.Ythdjpbfknbafgaa
open Go.RowKit
set_option linter.unusedVariables false

theorem shown_intT {w : World} {full : Bool} {n : Nat} {v : Value} (h : (Sh.int .i64).shown w full v n) : ∃ z, v = .int .i64 z ∧ -9223372036854775808 ≤ z ∧ z ≤ 9223372036854775807 := by
  obtain ⟨_, z, e, hz⟩ := h
  cases e
  exact ⟨z, rfl, bounds_i64 hz⟩
theorem shown_boolT {w : World} {full : Bool} {n : Nat} {v : Value} (h : Sh.bool.shown w full v n) : ∃ b, v = .bool b := by
  obtain ⟨_, b, e⟩ := h
  cases e
  exact ⟨b, rfl⟩
theorem shown_rule {w : World} {full : Bool} {n : Nat} {v : Value} (h : (Sh.fcons 1 (.int .i64) (.fcons 1 (.int .i64) (.fcons 1 (.int .i64) (.fcons 1 (.int .i64) .fend)))).shown w full v n) :
    ∃ L F H M : Int, v = .agg #[.int .i64 L, .int .i64 F, .int .i64 H, .int .i64 M] ∧ (-9223372036854775808 ≤ L ∧ L ≤ 9223372036854775807) ∧ (-9223372036854775808 ≤ F ∧ F ≤ 9223372036854775807) ∧ (-9223372036854775808 ≤ H ∧ H ≤ 9223372036854775807) ∧ (-9223372036854775808 ≤ M ∧ M ≤ 9223372036854775807) := by
  obtain ⟨cs, rfl, n0, m0, rfl, ⟨_, L, e0, k0⟩, n1, m1, rfl, ⟨_, F, e1, k1⟩, n2, m2, rfl, ⟨_, H, e2, k2⟩, n3, m3, rfl, ⟨_, M, e3, k3⟩, e4, _⟩ := h
  refine ⟨L, F, H, M, ?_, bounds_i64 k0, bounds_i64 k1, bounds_i64 k2, bounds_i64 k3⟩
  congr 1
  match cs with
  | ⟨[]⟩ => simp at e0
  | ⟨[_]⟩ => simp at e1
  | ⟨[_, _]⟩ => simp at e2
  | ⟨[_, _, _]⟩ => simp at e3
  | ⟨[x0, x1, x2, x3]⟩ => simp_all
  | ⟨x0 :: x1 :: x2 :: x3 :: x4 :: r⟩ => simp at e4
theorem shown_pieces {w : World} {full : Bool} {N : Nat} {v : Value} (h : (Sh.slice 1 24 (.slice 1 1 (.int .u8))).shown w full v N) : ∃ a len cap Ps, v = .slice a len cap ∧ RdPs w a len cap Ps ∧ (full = true → len ≤ 140737488351232) := by
  have h : (Sh.slice 1 24 (.slice 1 1 (.int .u8))).met w full [v] N := h
  rcases h with ⟨rfl, e⟩ | ⟨x, len, cap, G, C, e, e', hl, hm, hf, hc⟩
  · cases e
    exact ⟨none, 0, 0, [], rfl, ⟨rfl, fun h => by omega⟩, fun _ => by omega⟩
  · cases e
    have each : ∀ i, i < cap → ∃ r : (Option Addr × Nat × Nat × List Nat), w.cell? (x.add i) = some (.slice r.1 r.2.1 r.2.2.1) ∧ Rd w r.1 r.2.1 r.2.2.1 r.2.2.2 := by
      intro i hi
      obtain ⟨h1, h2, h3⟩ := hc i hi
      obtain ⟨a, l, c, S, e, hr, _⟩ := met_bytes h3
      have d := h2 0 (by decide)
      rw [e] at d
      rw [Nat.mul_one, Nat.add_zero] at d
      exact ⟨(a, l, c, S), d, hr⟩
    obtain ⟨R, hR⟩ := Go.Deep.choose_lt each
    refine ⟨some x, len, cap, (List.range len).map (fun i => (R i).2.2.2), rfl, ⟨by simp, fun h0 => ?_⟩, fun hfu => ?_⟩
    · obtain ⟨b, off, spot⟩ := x
      have hc0 := (hR 0 (by omega)).1
      have h0' : w.cell? (⟨b, off, spot⟩ : Addr) = some (.slice (R 0).1 (R 0).2.1 (R 0).2.2.1) := by simpa [Addr.add] using hc0
      have hspot : spot = none := by simpa using World.cell?_spot h0'
      subst hspot
      refine ⟨b, off, rfl, fun i B hi => ?_⟩
      rw [List.getElem?_map] at hi
      have hil : i < len := by
        by_cases hh : i < len
        · exact hh
        · rw [List.getElem?_eq_none (by simp; omega)] at hi; cases hi
      rw [List.getElem?_range hil] at hi
      have e : (R i).2.2.2 = B := Option.some.inj hi
      have k1 := (hR i (by omega)).1
      rw [addr_add] at k1
      exact ⟨_, _, _, k1, e ▸ (hR i (by omega)).2⟩
    · have := hf hfu
      unfold reachBytes at this
      omega
end Go.Proofs.Ythdjpbfknbafgaa
