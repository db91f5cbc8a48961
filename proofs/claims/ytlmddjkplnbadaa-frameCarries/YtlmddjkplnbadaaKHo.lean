import Derived.Test.YtlmddjkplnbadaaKHa
import Derived.Test.YtlmddjkplnbadaaZOp
namespace Go.Proofs.Ytlmddjkplnbadaa
open Go.RowKit
set_option maxRecDepth 100000
set_option linter.unusedVariables false
set_option linter.unusedSimpArgs false
open Go.ChangeShapes Go.WideShapes
theorem met_rowsK {w : World} {full : Bool} {N : Nat} {cs : List Value} (h : (Sh.slice 1 24 (.slice 1 1 (.int .u8))).met w full cs N) : ∃ a len cap R, cs = [.slice a len cap] ∧ RdW w a len cap R ∧ (full = true → Fit 140737488351232 R ∧ len * 24 ≤ 140737488351232) := by
  rcases h with ⟨rfl, rfl⟩ | ⟨x, len, cap, G, C, rfl, rfl, hl, hm, hf, hc⟩
  · exact ⟨none, 0, 0, [], rfl, RdW.nil w, fun _ => ⟨(fun r h => by cases h), by decide⟩⟩
  · have each : ∀ i, i < cap → ∃ r : Rw, w.cell? (x.add i) = some (.slice r.a r.n r.c) ∧ Rd w r.a r.n r.c r.D ∧ (full = true → r.n ≤ 140737488351232) := by
      intro i hi
      obtain ⟨h1, h2, h3⟩ := hc i hi
      obtain ⟨a, l, c, S, e, hr, hg, _⟩ := met_bytes h3
      have d := h2 0 (by decide)
      rw [e] at d
      rw [Nat.mul_one, Nat.add_zero] at d
      refine ⟨⟨a, l, c, S⟩, d, hr, fun hh => ?_⟩
      have := hg hh
      have := hr.le
      show l ≤ _
      omega
    have hI : Inhabited Rw := ⟨kr0⟩
    obtain ⟨R, hR⟩ := Go.Deep.choose_lt each
    refine ⟨some x, len, cap, (List.range len).map (fun i => (R i).D), rfl, ⟨by simp, R, ⟨hl, hm, fun h0 => ?_, fun i hi => (hR i (by omega)).2.1⟩, fun i hi => ?_⟩, fun hh => ⟨fun r hr => ?_, ?_⟩⟩
    · obtain ⟨b, off, spot⟩ := x
      have hc0 := (hR 0 (by omega)).1
      have h0' : w.cell? (⟨b, off, spot⟩ : Addr) = some (.slice (R 0).a (R 0).n (R 0).c) := by simpa [Addr.add] using hc0
      have hspot : spot = none := by simpa using World.cell?_spot h0'
      subst hspot
      refine ⟨b, off, rfl, World.block_lt_of_cell? w _ h0', fun i hi => ?_⟩
      have k1 := (hR i (by omega)).1
      rw [addr_add] at k1
      exact k1
    · rw [List.getD_eq_getElem?_getD, List.getElem?_map, List.getElem?_range hi]; rfl
    · obtain ⟨i, hi, rfl⟩ := List.mem_map.1 hr
      have hi := List.mem_range.1 hi
      have h1 := hR i (by omega)
      rw [h1.2.1.len]
      exact h1.2.2 hh
    · have := hf hh
      unfold reachBytes at this
      omega
abbrev ShHd : Sh := .fcons 1 (.int .i64) (.fcons 1 (.int .i64) (.fcons 1 (.int .i64) (.fcons 1 (.slice 1 24 (.slice 1 1 (.int .u8))) (.fcons 1 (.slice 1 24 (.slice 1 1 (.int .u8))) (.fcons 1 (.int .i64) (.fcons 1 (.int .i64) (.fcons 1 (.int .i64) (.fcons 1 (.int .i64) (.fcons 1 (.int .i64) (.fcons 1 (.int .i64) (.fcons 1 (.int .i64) .fend)))))))))))
set_option maxHeartbeats 8000000 in
theorem shown_hand {w : World} {full : Bool} {k : Nat} {v : Value} (h : ShHd.shown w full v k) :
    ∃ (X : Hx) (d : Hd), v = .agg (hnV d X) ∧ RdHd w X d ∧ (full = true → (Fit 140737488351232 d.S ∧ X.sn * 24 ≤ 140737488351232) ∧ (Fit 140737488351232 d.Q ∧ X.qn * 24 ≤ 140737488351232)) := by
  obtain ⟨cs, rfl, hm⟩ := h
  obtain ⟨_, _, rfl, ⟨_, z0, e0, _⟩, _, _, rfl, ⟨_, z1, e1, _⟩, _, _, rfl, ⟨_, z2, e2, _⟩, _, _, rfl, h3, _, _, rfl, h4, _, _, rfl, ⟨_, z5, e5, _⟩, _, _, rfl, ⟨_, z6, e6, _⟩, _, _, rfl, ⟨_, z7, e7, _⟩, _, _, rfl, ⟨_, z8, e8, _⟩, _, _, rfl, ⟨_, z9, e9, _⟩, _, _, rfl, ⟨_, z10, e10, _⟩, _, _, rfl, ⟨_, z11, e11, _⟩, e12, _⟩ := hm
  obtain ⟨a3, n3, c3, R3, e3, hR3, hf3⟩ := met_rowsK h3
  obtain ⟨a4, n4, c4, R4, e4, hR4, hf4⟩ := met_rowsK h4
  refine ⟨⟨a3, n3, c3, a4, n4, c4⟩, ⟨z0, z1, z2, z5, z6, z7, z8, z9, z10, z11, R3, R4⟩, ?_, ⟨hR3, hR4⟩, fun hf => ⟨hf3 hf, hf4 hf⟩⟩
  unfold hnV
  congr 1
  apply Array.toList_inj.1
  generalize cs.toList = l at *
  match l with
  | [] => simp at e0
  | [_] => simp at e1
  | [_, _] => simp at e2
  | [_, _, _] => simp at e3
  | [_, _, _, _] => simp at e4
  | [_, _, _, _, _] => simp at e5
  | [_, _, _, _, _, _] => simp at e6
  | [_, _, _, _, _, _, _] => simp at e7
  | [_, _, _, _, _, _, _, _] => simp at e8
  | [_, _, _, _, _, _, _, _, _] => simp at e9
  | [_, _, _, _, _, _, _, _, _, _] => simp at e10
  | [_, _, _, _, _, _, _, _, _, _, _] => simp at e11
  | [x0, x1, x2, x3, x4, x5, x6, x7, x8, x9, x10, x11] => simp_all
  | x0 :: x1 :: x2 :: x3 :: x4 :: x5 :: x6 :: x7 :: x8 :: x9 :: x10 :: x11 :: x12 :: r => simp at e12
end Go.Proofs.Ytlmddjkplnbadaa
