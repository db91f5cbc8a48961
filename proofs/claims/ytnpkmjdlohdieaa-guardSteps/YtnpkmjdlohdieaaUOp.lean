import Derived.Test.YtnpkmjdlohdieaaUVg
import Derived.Test.YtnpkmjdlohdieaaZOp
namespace Go.Proofs.Ytnpkmjdlohdieaa
open Go.RowKit
set_option maxRecDepth 100000
set_option linter.unusedVariables false
set_option linter.unusedSimpArgs false
open Go.ChangeShapes Go.WideShapes
abbrev ShM : Sh := .fcons 1 (.int .i64) (.fcons 1 (.int .i64) (.fcons 1 (.int .i64) (.fcons 1 (.int .i64) (.fcons 1 (.int .i64) (.fcons 1 .str .fend)))))
abbrev ShG : Sh := .fcons 1 (.slice 6 56 ShM) (.fcons 1 (.int .i64) (.fcons 1 (.int .i64) (.fcons 1 (.int .i64) (.fcons 1 .str .fend))))
theorem met_monitor {w : World} {full : Bool} {cs : List Value} {n : Nat} (h : ShM.met w full cs n) : ∃ m : Mo, cs = m.cells ∧ 1 ≤ n := by
  obtain ⟨_, _, rfl, ⟨_, z0, e0, _⟩, _, _, rfl, ⟨_, z1, e1, _⟩, _, _, rfl, ⟨_, z2, e2, _⟩, _, _, rfl, ⟨_, z3, e3, _⟩, _, _, rfl, ⟨m4, z4, e4, _⟩, _, _, rfl, ⟨s, e5, _⟩, e6, m6⟩ := h
  refine ⟨⟨z0, z1, z2, z3, z4, s⟩, ?_, by omega⟩
  unfold Mo.cells
  match cs with
  | [] => simp at e0
  | [_] => simp at e1
  | [_, _] => simp at e2
  | [_, _, _] => simp at e3
  | [_, _, _, _] => simp at e4
  | [_, _, _, _, _] => simp at e5
  | [x0, x1, x2, x3, x4, x5] => simp_all
  | x0 :: x1 :: x2 :: x3 :: x4 :: x5 :: x6 :: r => simp at e6
theorem met_monitors {w : World} {full : Bool} {N : Nat} {cs : List Value} (h : (Sh.slice 6 56 ShM).met w full cs N) :
    ∃ a len cap F, cs = [.slice a len cap] ∧ RdM w a len cap F ∧ (full = true → cap * 56 ≤ reachBytes) ∧ cap + 1 ≤ N := by
  rcases h with ⟨rfl, rfl⟩ | ⟨x, len, cap, G, C, rfl, rfl, hl, hm, hf, hc⟩
  · exact ⟨none, 0, 0, fun _ => mo0, rfl, ⟨Nat.le_refl _, Nat.zero_le _, fun _ => rfl, fun h => by omega⟩, fun _ => by rw [Nat.zero_mul]; exact Nat.zero_le _, Nat.le_refl _⟩
  · have each : ∀ i, i < cap → ∃ p : Mo, (∀ j, j < 6 → w.cell? (x.add (i * 6 + j)) = p.cells[j]?) ∧ 1 ≤ G i := by
      intro i hi
      obtain ⟨h1, h2, h3⟩ := hc i hi
      obtain ⟨m, e, hk⟩ := met_monitor h3
      refine ⟨m, fun j hj => ?_, hk⟩
      rw [h2 j hj, e]
    have hI : Inhabited Mo := ⟨mo0⟩
    obtain ⟨F, hF⟩ := Go.Deep.choose_lt each
    have hG : ∀ i, i < cap → 1 ≤ G i := fun i hi => (hF i hi).2
    refine ⟨some x, len, cap, F, rfl, ⟨hl, hm, (fun e => by cases e), fun h0 => ?_⟩, hf, ?_⟩
    · obtain ⟨b, off, spot⟩ := x
      have hc0 := (hF 0 (by omega)).1 0 (by decide)
      have hspot : spot = none := by
        have h0' : w.cell? (⟨b, off, spot⟩ : Addr) = some (.int .i64 (F 0).of') := by simpa [Addr.add, Mo.cells] using hc0
        simpa using World.cell?_spot h0'
      subst hspot
      refine ⟨b, off, rfl, ?_, fun i hi j hj => ?_⟩
      · have h0' : w.cell? (⟨b, off, none⟩ : Addr) = some (.int .i64 (F 0).of') := by simpa [Addr.add, Mo.cells] using hc0
        exact World.block_lt_of_cell? w _ h0'
      · rw [← addr_add]
        exact (hF i (by omega)).1 j hj
    · have := sumN_le (F := G) (n := cap) hG
      omega
theorem shown_guard {w : World} {full : Bool} {k : Nat} {v : Value} (h : ShG.shown w full v k) :
    ∃ a n c si mo wi sa F, v = .agg #[.slice a n c, .int .i64 si, .int .i64 mo, .int .i64 wi, .string sa] ∧ RdM w a n c F ∧ (full = true → c * 56 ≤ reachBytes) ∧ n + 1 ≤ k := by
  obtain ⟨cs, rfl, hm⟩ := h
  obtain ⟨j0, k0, rfl, h0, _, _, rfl, ⟨_, z1, e1, _⟩, _, _, rfl, ⟨_, z2, e2, _⟩, _, _, rfl, ⟨_, z3, e3, _⟩, _, _, rfl, ⟨s, e4, _⟩, e5, _⟩ := hm
  obtain ⟨a, n, c, F, e0, hR, hf, hk⟩ := met_monitors h0
  refine ⟨a, n, c, z1, z2, z3, s, F, ?_, hR, hf, by have := hR.le; omega⟩
  congr 1
  apply Array.toList_inj.1
  generalize cs.toList = l at *
  match l with
  | [] => simp at e0
  | [_] => simp at e1
  | [_, _] => simp at e2
  | [_, _, _] => simp at e3
  | [_, _, _, _] => simp at e4
  | [x0, x1, x2, x3, x4] => simp_all
  | x0 :: x1 :: x2 :: x3 :: x4 :: x5 :: r => simp at e5
end Go.Proofs.Ytnpkmjdlohdieaa
