import Derived.Test.YtknaganjacghnaaPOp
import Derived.Test.YtknaganjacghnaaNPk1
namespace Go.Proofs.Ytknaganjacghnaa
open Go.RowKit
set_option maxRecDepth 100000
set_option linter.unusedVariables false
set_option linter.unusedSimpArgs false

theorem shown_head {w : World} {full : Bool} {n : Nat} {v : Value} (h : (Sh.fcons 1 (.int .i64) (.fcons 1 (.int .i64) (.fcons 1 (.int .i64) (.fcons 1 (.int .i64) (.fcons 1 (.int .i64) .fend))))).shown w full v n) :
    ∃ cr ch ma ow fi, v = .agg (heA cr ch ma ow fi) := by
  obtain ⟨cs, rfl, hm⟩ := h
  obtain ⟨n0, m0, rfl, ⟨_, cr, e0, _⟩, n1, m1, rfl, ⟨_, ch, e1, _⟩, n2, m2, rfl, ⟨_, ma, e2, _⟩, n3, m3, rfl, ⟨_, ow, e3, _⟩, n4, m4, rfl, ⟨_, fi, e4, _⟩, e5, _⟩ := hm
  refine ⟨cr, ch, ma, ow, fi, ?_⟩
  unfold heA
  congr 1
  refine Array.toList_inj.1 ?_
  revert e0 e1 e2 e3 e4 e5
  generalize cs.toList = l
  intro e0 e1 e2 e3 e4 e5
  match l with
  | [] => simp at e0
  | [_] => simp at e1
  | [_, _] => simp at e2
  | [_, _, _] => simp at e3
  | [_, _, _, _] => simp at e4
  | [x0, x1, x2, x3, x4] => simp_all
  | x0 :: x1 :: x2 :: x3 :: x4 :: x5 :: r => simp at e5
end Go.Proofs.Ytknaganjacghnaa
