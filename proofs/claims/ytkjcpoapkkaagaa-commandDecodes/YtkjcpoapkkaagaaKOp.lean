import Derived.Test.YtkjcpoapkkaagaaKOr1
namespace Go.Proofs.Ytkjcpoapkkaagaa
open Go.RowKit
set_option maxRecDepth 100000
set_option linter.unusedVariables false
set_option linter.unusedSimpArgs false

/-- a gate, as it comes -/
theorem shown_gate {w : World} {full : Bool} {n : Nat} {v : Value} (h : (Sh.fcons 1 (.int .i64) (.fcons 1 (.int .i64) (.fcons 1 (.int .i64) (.fcons 1 .bool (.fcons 1 .bool (.fcons 1 .bool (.fcons 1 (.int .i64) .fend))))))).shown w full v n) :
    ∃ cr nx ha sh wa ag ct, v = .agg (gtA cr nx ha sh wa ag ct) ∧ (-9223372036854775808 ≤ cr ∧ cr ≤ 9223372036854775807) ∧ (-9223372036854775808 ≤ nx ∧ nx ≤ 9223372036854775807) ∧ (-9223372036854775808 ≤ ha ∧ ha ≤ 9223372036854775807) ∧ (-9223372036854775808 ≤ ct ∧ ct ≤ 9223372036854775807) := by
  obtain ⟨cs, rfl, n0, m0, rfl, ⟨_, cr, e0, k0⟩, n1, m1, rfl, ⟨_, nx, e1, k1⟩, n2, m2, rfl, ⟨_, ha, e2, k2⟩, n3, m3, rfl, ⟨_, sh, e3⟩, n4, m4, rfl, ⟨_, wa, e4⟩, n5, m5, rfl, ⟨_, ag, e5⟩, n6, m6, rfl, ⟨_, ct, e6, k6⟩, e7, _⟩ := h
  refine ⟨cr, nx, ha, sh, wa, ag, ct, ?_, bounds_i64 k0, bounds_i64 k1, bounds_i64 k2, bounds_i64 k6⟩
  unfold gtA
  congr 1
  refine Array.toList_inj.1 ?_
  generalize cs.toList = cs at *
  match cs with
  | [] => simp at e0
  | [_] => simp at e1
  | [_, _] => simp at e2
  | [_, _, _] => simp at e3
  | [_, _, _, _] => simp at e4
  | [_, _, _, _, _] => simp at e5
  | [_, _, _, _, _, _] => simp at e6
  | [x0, x1, x2, x3, x4, x5, x6] => simp_all
  | x0 :: x1 :: x2 :: x3 :: x4 :: x5 :: x6 :: x7 :: r => simp at e7
/-- an order, as it comes -/
theorem shown_order {w : World} {full : Bool} {n : Nat} {v : Value} (h : (Sh.fcons 1 (.int .i64) (.fcons 1 .bool (.fcons 1 .bool (.fcons 1 (.int .i64) (.fcons 1 (.slice 1 1 (.int .u8)) .fend))))).shown w full v n) :
    ∃ cr bp co sq a len cap L, v = .agg (orA cr bp co sq a len cap) ∧ Rd w a len cap L ∧ (full = true → cap ≤ 140737488351232) ∧ cap + 1 ≤ n ∧ (-9223372036854775808 ≤ cr ∧ cr ≤ 9223372036854775807) ∧ (-9223372036854775808 ≤ sq ∧ sq ≤ 9223372036854775807) := by
  obtain ⟨cs, rfl, n0, m0, rfl, ⟨_, cr, e0, k0⟩, n1, m1, rfl, ⟨_, bp, e1⟩, n2, m2, rfl, ⟨_, co, e2⟩, n3, m3, rfl, ⟨_, sq, e3, k3⟩, n4, m4, rfl, h4, e5, _⟩ := h
  obtain ⟨a, len, cap, L, e4, hR, hf, hn⟩ := met_bytes h4
  refine ⟨cr, bp, co, sq, a, len, cap, L, ?_, hR, hf, by omega, bounds_i64 k0, bounds_i64 k3⟩
  unfold orA
  congr 1
  refine Array.toList_inj.1 ?_
  generalize cs.toList = cs at *
  match cs with
  | [] => simp at e0
  | [_] => simp at e1
  | [_, _] => simp at e2
  | [_, _, _] => simp at e3
  | [_, _, _, _] => simp at e4
  | [x0, x1, x2, x3, x4] => simp_all
  | x0 :: x1 :: x2 :: x3 :: x4 :: x5 :: r => simp at e5
end Go.Proofs.Ytkjcpoapkkaagaa
