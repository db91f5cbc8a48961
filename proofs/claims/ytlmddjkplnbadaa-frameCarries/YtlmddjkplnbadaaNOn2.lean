import Derived.Test.YtlmddjkplnbadaaNOn1
import Derived.Test.YtlmddjkplnbadaaKxOw
namespace Go.Proofs.Ytlmddjkplnbadaa
open Go.RowKit
set_option maxRecDepth 100000
set_option linter.unusedVariables false
set_option linter.unusedSimpArgs false

/-- seven ears of which the first k expect any number -/
def eaX (k i : Nat) : Value := .int .i64 (if i < k then -1 else 0)
def eaA (k : Nat) : Array Value := #[eaX k 0, .slice none 0 0, eaX k 1, .slice none 0 0, eaX k 2, .slice none 0 0, eaX k 3, .slice none 0 0, eaX k 4, .slice none 0 0, eaX k 5, .slice none 0 0, eaX k 6, .slice none 0 0]
theorem eaA_set (k : Nat) (h : k < 7) : (eaA k).set! (k * 2) (.int .i64 (-1)) = eaA (k + 1) := by
  obtain (rfl | rfl | rfl | rfl | rfl | rfl | rfl) : k = 0 ∨ k = 1 ∨ k = 2 ∨ k = 3 ∨ k = 4 ∨ k = 5 ∨ k = 6 := by omega
  all_goals rfl
def ze : Value := .agg #[.int .i64 0, .slice none 0 0]
theorem Try.info_ea : (Try.prog.info? 68).map (fun i => (i.zero, i.size, i.bytes)) = some (some ze, 2, 32) := by kernel_rfl
theorem made_e : (madeCells ze.cells (7 * 2)) = eaA 0 := by kernel_rfl
/-- 'make([]api.Ear, 7)' -/
theorem wpList_mkE (w : World) {ops : Array Oper} {rest : List Oper} {o : Oper} {a : Act} {Q : Exit → Act → World → Prop} (hg : o.guard = none) (l c : Operand)
    (hop : o.op = Op.makeSlice 41 l c) (hl : a.eval l = .int .i64 7) (hc : a.eval c = .int .i64 7)
    (hK : ∀ w', BxS w' w.heap.size 68 (eaA 0) → w.grownBy w' none → wpList Try.prog ops Q rest (a.put o.dst (.slice (some ⟨w.heap.size, 0, none⟩) 7 7)) w') :
    wpList Try.prog ops Q (o :: rest) a w := by
  obtain ⟨i0, hi, hz0, hz1, hz2⟩ := info_parts Try.info_ea
  refine wpList_make_full w hg l c 41 hop w.heap.size 68 i0 ze 2 Try.underlying41 hi hz0 hz1 .i64 .i64 7 7 7 hl hc rfl rfl (by rw [hz2]; omega) (by decide) (Nat.le_refl _) ?_
  intro w' hown hgr
  refine hK w' ?_ hgr
  rcases hown.2 with ⟨h, _⟩ | ⟨g, cap, cur, hv, _, hh, h1, _, h3, h4⟩
  · simp at h
  · simp only [Value.slice.injEq, Option.some.injEq, Addr.mk.injEq] at hv
    obtain ⟨⟨hgg, _⟩, _, hcap⟩ := hv
    subst hgg; subst hcap
    unfold BxS
    rw [hh]
    have e1 : cur.toList = (eaA 0).toList := by
      rw [← made_e, ← h4, List.take_of_length_le (by simp; omega)]
    rw [Array.toList_inj.1 e1]
theorem BxS.st4 {w : World} {g : Nat} {t : TypeId} {A : Array Value} (h : BxS w g t A) (i : Nat) (hi : i < A.size) (v : Value) : ∃ u, w.cell? ⟨g, i, none⟩ = some u := ⟨A[i], h.cell i hi⟩
end Go.Proofs.Ytlmddjkplnbadaa
