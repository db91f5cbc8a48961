import Derived.Test.YtaigcjhachkmmaaDoorQAD
import Derived.Test.YtaigcjhachkmmaaDoorZOp
namespace Go.Proofs.YtaigcjhachkmmaaDoor
open Go.RowKit
set_option maxRecDepth 100000
set_option linter.unusedVariables false
set_option linter.unusedSimpArgs false
open Go.ChangeShapes Go.WideShapes
theorem shown_intQ {w : World} {full : Bool} {n : Nat} {v : Value} (h : (Sh.int .i64).shown w full v n) : ∃ z, v = .int .i64 z := by
  obtain ⟨_, z, e, hz⟩ := h
  cases e
  exact ⟨z, rfl⟩
abbrev ShKy : Sh := .fcons 1 (.int .i64) (.fcons 1 (.slice 1 8 (.int .i64)) (.fcons 1 (.int .i64) (.fcons 1 (.int .i64) .fend)))
theorem met_key {w : World} {full : Bool} {n : Nat} {cs : List Value} (h : ShKy.met w full cs n) : ∃ k : Kw, cs = k.cells ∧ RdI w k.a k.n k.c k.W ∧ (full = true → k.n ≤ 17592186043904) ∧ (I64 k.id ∧ I64 k.tp ∧ I64 k.sn) := by
  obtain ⟨n0, m0, rfl, ⟨_, id, e0, k0⟩, n1, m1, rfl, h1, n2, m2, rfl, ⟨_, top, e2, k2⟩, n3, m3, rfl, ⟨_, seen, e3, k3⟩, e4, _⟩ := h
  obtain ⟨a, len, cap, zs, e1, hr, hf, hn⟩ := met_ints h1
  obtain ⟨S, hS, hz, _⟩ := rdI_of_row hr
  refine ⟨⟨id, a, len, cap, S, top, seen⟩, ?_, hS, fun hh => ?_, bounds_i64 k0, bounds_i64 k2, bounds_i64 k3⟩
  · unfold Kw.cells
    match cs with
    | [] => simp at e0
    | [_] => simp at e1
    | [_, _] => simp at e2
    | [_, _, _] => simp at e3
    | [x0, x1, x2, x3] => simp_all
    | x0 :: x1 :: x2 :: x3 :: x4 :: r => simp at e4
  · have h5 := hf hh
    have h6 := hS.le
    show len ≤ _
    try unfold reachBytes at h5
    omega
theorem shown_ring {w : World} {full : Bool} {N : Nat} {v : Value} (h : (Sh.fcons 1 (.slice 4 48 ShKy) .fend).shown w full v N) :
    ∃ a len cap R, v = .agg #[.slice a len cap] ∧ RdG w a len cap R ∧ (full = true → (∀ k, k ∈ R → k.W.length ≤ 17592186043904) ∧ len * 48 ≤ 140737488351232) := by
  obtain ⟨cs, rfl, hm⟩ := h
  obtain ⟨n0, m0, rfl, h0, e1, _⟩ := hm
  have hone : ∀ (u : Value), cs.toList.take 1 = [u] → cs.toList.drop 1 = [] → cs = #[u] := fun u h1 h2 => by
    apply Array.toList_inj.1
    rw [← List.take_append_drop 1 cs.toList, h1, h2]
    rfl
  rcases h0 with ⟨rfl, e⟩ | ⟨x, len, cap, G, C, e, e', hl, hm, hf, hc⟩
  · refine ⟨none, 0, 0, [], ?_, RdG.nil w, fun _ => ⟨(fun k h => by cases h), by decide⟩⟩
    congr 1
    first | exact hone _ e e1 | exact hone _ ‹_› ‹_›
  · have each : ∀ i, i < cap → ∃ k : Kw, (∀ j, j < 4 → w.cell? (x.add (i * 4 + j)) = k.cells[j]?) ∧ RdI w k.a k.n k.c k.W ∧ (full = true → k.n ≤ 17592186043904) ∧ (I64 k.id ∧ I64 k.tp ∧ I64 k.sn) := by
      intro i hi
      obtain ⟨h1, h2, h3⟩ := hc i hi
      obtain ⟨k, e, hk⟩ := met_key h3
      refine ⟨k, fun j hj => ?_, hk⟩
      rw [h2 j hj, e]
    have hI : Inhabited Kw := ⟨kw0⟩
    obtain ⟨K, hK⟩ := Go.Deep.choose_lt each
    have hat : ∀ i k, ((List.range len).map K)[i]? = some k → i < len ∧ K i = k := by
      intro i k hi
      rw [List.getElem?_map] at hi
      by_cases hil : i < len
      · rw [List.getElem?_range hil] at hi
        exact ⟨hil, Option.some.inj hi⟩
      · rw [List.getElem?_eq_none (by simp; omega)] at hi
        cases hi
    have hmem : ∀ k, k ∈ (List.range len).map K → ∃ i, i < len ∧ K i = k := by
      intro k hk
      obtain ⟨i, hi, rfl⟩ := List.mem_map.1 hk
      exact ⟨i, List.mem_range.1 hi, rfl⟩
    refine ⟨some x, len, cap, ((List.range len).map K).map Kw.d, ?_, ⟨(List.range len).map K, ⟨by simp, hl, hm, fun h0 => ?_, fun k hk => ?_, fun k hk => ?_⟩, rfl⟩, fun hh => ⟨fun k hk => ?_, ?_⟩⟩
    · congr 1
      first | exact hone _ e e1 | exact hone _ ‹_› ‹_›
    · obtain ⟨b, off, spot⟩ := x
      have hc0 := (hK 0 (by omega)).1 0 (by decide)
      have h0' : w.cell? (⟨b, off, spot⟩ : Addr) = some (.int .i64 (K 0).id) := by simpa [Addr.add, Kw.cells] using hc0
      have hspot : spot = none := by simpa using World.cell?_spot h0'
      subst hspot
      refine ⟨b, off, rfl, World.block_lt_of_cell? w _ h0', fun i k hi j hj => ?_⟩
      obtain ⟨hil, rfl⟩ := hat i k hi
      rw [← addr_add]
      exact (hK i (by omega)).1 j hj
    · obtain ⟨i, hi, rfl⟩ := hmem k hk
      exact (hK i (by omega)).2.1
    · obtain ⟨i, hi, rfl⟩ := hmem k hk
      exact (hK i (by omega)).2.2.2
    · obtain ⟨q, hq, rfl⟩ := List.mem_map.1 hk
      obtain ⟨i, hi, rfl⟩ := hmem q hq
      show (K i).W.length ≤ _
      rw [(hK i (by omega)).2.1.len]
      exact (hK i (by omega)).2.2.1 hh
    · have := hf hh
      try unfold reachBytes at this
      omega
end Go.Proofs.YtaigcjhachkmmaaDoor
