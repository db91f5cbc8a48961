import Derived.Test.YtdpgblojdppfeaaQO
namespace Go.Proofs.Ytdpgblojdppfeaa
open Go.RowKit
set_option maxRecDepth 100000
set_option linter.unusedVariables false
set_option linter.unusedSimpArgs false
open Go.ChangeShapes Go.WideShapes
theorem shown_keyQ {w : World} {full : Bool} {n : Nat} {v : Value} (h : ShKy.shown w full v n) : ∃ kk : Kw, v = .agg #[.int .i64 kk.id, .slice kk.a kk.n kk.c, .int .i64 kk.tp, .int .i64 kk.sn] ∧ RdI w kk.a kk.n kk.c kk.W ∧ (full = true → kk.n ≤ 17592186043904) ∧ (I64 kk.id ∧ I64 kk.tp ∧ I64 kk.sn) := by
  obtain ⟨cs, rfl, hm⟩ := h
  obtain ⟨kk, e, h1, h2, h3⟩ := met_key hm
  refine ⟨kk, ?_, h1, h2, h3⟩
  congr 1
  apply Array.toList_inj.1
  rw [e]
  rfl
end Go.Proofs.Ytdpgblojdppfeaa
