import Derived.Test.YtmcadmndmafogaaPOp
import Derived.Test.YtmcadmndmafogaaPJo7
namespace Go.Proofs.Ytmcadmndmafogaa
open Go.RowKit
set_option linter.unusedVariables false

/-- what is joined, as it comes -/
theorem shown_joined {w : World} {full : Bool} {n : Nat} {v : Value} (h : (Sh.fcons 1 (.int .i64) (.fcons 1 (.int .i64) (.fcons 1 .bool (.fcons 1 (.slice 1 1 (.int .u8)) .fend)))).shown w full v n) :
    ∃ ap nx op a len cap L, v = jnV ap nx op a len cap ∧ Rd w a len cap L ∧ (full = true → cap ≤ 140737488351232) ∧ cap + 1 ≤ n := by
  obtain ⟨cs, rfl, n0, m0, rfl, ⟨_, ap, e0, k0⟩, n1, m1, rfl, ⟨_, nx, e1, k1⟩, n2, m2, rfl, ⟨_, op, e2⟩, n3, m3, rfl, h3, e4, _⟩ := h
  obtain ⟨a, len, cap, L, e3, hR, hf, hn⟩ := met_bytes h3
  refine ⟨ap, nx, op, a, len, cap, L, ?_, hR, hf, by omega⟩
  unfold jnV
  congr 1
  refine Array.toList_inj.1 ?_
  generalize cs.toList = l at *
  match l with
  | [] => simp at e0
  | [_] => simp at e1
  | [_, _] => simp at e2
  | [_, _, _] => simp at e3
  | [x0, x1, x2, x3] => simp_all
  | x0 :: x1 :: x2 :: x3 :: x4 :: r => simp at e4
end Go.Proofs.Ytmcadmndmafogaa
