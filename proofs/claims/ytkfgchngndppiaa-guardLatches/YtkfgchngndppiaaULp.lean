import Derived.Test.YtkfgchngndppiaaZSh
import Derived.Test.YtkfgchngndppiaaFRow
import Derived.Test.YtkfgchngndppiaaULk
namespace Go.Proofs.Ytkfgchngndppiaa
open Go.RowKit
set_option maxRecDepth 100000
set_option linter.unusedVariables false
set_option linter.unusedSimpArgs false

theorem sumN_le {F : Nat → Nat} {n : Nat} (h : ∀ i, i < n → 1 ≤ F i) : n ≤ sumN F n := by
  induction n with
  | zero => exact Nat.le_refl _
  | succ n ih =>
    have h1 := ih (fun i hi => h i (by omega))
    have h2 := h n (by omega)
    simp only [sumN]; omega
theorem sumN_part {F : Nat → Nat} {n i : Nat} (hi : i < n) : F i ≤ sumN F n := by
  induction n with
  | zero => omega
  | succ n ih =>
    simp only [sumN]
    by_cases e : i = n
    · subst e; omega
    · have := ih (by omega); omega
/-- a slice of numbers of one kind: its cells -/
theorem met_ints {w : World} {full : Bool} {k : IntKind} {b n : Nat} {cs : List Value} (h : (Sh.slice 1 b (.int k)).met w full cs n) :
    ∃ a len cap zs, cs = [.slice a len cap] ∧ ((a = none ∧ len = 0 ∧ cap = 0 ∧ zs = []) ∨ ∃ x, a = some x ∧ len ≤ cap ∧ cap ≤ maxLen ∧ zs.length = cap ∧ (∀ i, i < zs.length → w.cell? (x.add i) = some (.int k (zs.getD i 0))) ∧ ∀ n ∈ zs, (Lit.int k n).wf = true) ∧
      (full = true → cap * b ≤ reachBytes) ∧ cap + 1 ≤ n := by
  rcases h with ⟨rfl, rfl⟩ | ⟨x, len, cap, F, C, rfl, rfl, hl, hm, hf, hc⟩
  · exact ⟨none, 0, 0, [], rfl, .inl ⟨rfl, rfl, rfl, rfl⟩, fun _ => by rw [Nat.zero_mul]; exact Nat.zero_le _, Nat.le_refl _⟩
  · have each : ∀ i, i < cap → ∃ z : Int, w.cell? (x.add i) = some (.int k z) ∧ (Lit.int k z).wf = true ∧ F i = 1 := by
      intro i hi
      obtain ⟨h1, h2, h3, z, h4, h5⟩ := hc i hi
      have := h2 0 (by omega)
      rw [h4] at this
      rw [Nat.mul_one, Nat.add_zero] at this
      exact ⟨z, this, h5, h3⟩
    obtain ⟨Z, hZ⟩ := Go.Deep.choose_lt each
    have hget : ∀ i, i < cap → ((List.range cap).map Z).getD i 0 = Z i := by
      intro i hi
      rw [List.getD_eq_getElem?_getD, List.getElem?_map, List.getElem?_range hi]; rfl
    refine ⟨some x, len, cap, (List.range cap).map Z, rfl, .inr ⟨x, rfl, hl, hm, by simp, fun i hi => ?_, fun z hz => ?_⟩, hf, ?_⟩
    · have hi' : i < cap := by simpa using hi
      rw [hget i hi']
      exact (hZ i hi').1
    · obtain ⟨i, hi, rfl⟩ := List.mem_map.1 hz
      exact (hZ i (List.mem_range.1 hi)).2.1
    · have := sumN_le (F := F) (n := cap) (fun i hi => by rw [(hZ i hi).2.2]; exact Nat.le_refl _)
      omega
/-- a slice of bytes -/
theorem met_bytes {w : World} {full : Bool} {n : Nat} {cs : List Value} (h : (Sh.slice 1 1 (.int .u8)).met w full cs n) :
    ∃ a len cap L, cs = [.slice a len cap] ∧ Rd w a len cap L ∧ (full = true → cap ≤ 140737488351232) ∧ cap + 1 ≤ n := by
  obtain ⟨a, len, cap, zs, rfl, hr, hf, hn⟩ := met_ints h
  obtain ⟨L, hL, _⟩ := rd_of_row hr
  exact ⟨a, len, cap, L, rfl, hL, fun h => by have := hf h; unfold reachBytes at this; omega, hn⟩

open Go.ChangeShapes Go.WideShapes
theorem rdx_of {w : World} {a : Option Addr} {n cap : Nat} {S : List Int} (h : RdI w a n cap S) : RdX w a n cap (zys S) := by
  refine ⟨by rw [zys_length]; exact h.len, h.le, h.max, h.nil, zys_one S, fun h0 => ?_⟩
  obtain ⟨b, off, e, hb, hc⟩ := h.at' h0
  refine ⟨b, off, e, hb, fun i u hu => ?_⟩
  have hi : i < S.length := by
    have := (List.getElem?_eq_some_iff.1 hu).1
    rw [zys_length] at this
    exact this
  rw [zys_at S i hi] at hu
  rw [← Option.some.inj hu]
  exact hc i (by rw [← h.len]; exact hi)
theorem met_intsU {w : World} {full : Bool} {n : Nat} {cs : List Value} (h : (Sh.slice 1 8 (.int .i64)).met w full cs n) : ∃ a len cap S, cs = [.slice a len cap] ∧ RdX w a len cap (zys S) ∧ (∀ i, -9223372036854775808 ≤ nthI S i ∧ nthI S i ≤ 9223372036854775807) := by
  obtain ⟨a, len, cap, zs, e, hr, hf, hn⟩ := met_ints h
  obtain ⟨S, hS, hz, _⟩ := rdI_of_row hr
  exact ⟨a, len, cap, S, e, rdx_of hS, hz⟩
theorem shown_intsU {w : World} {full : Bool} {n : Nat} {v : Value} (h : (Sh.slice 1 8 (.int .i64)).shown w full v n) : ∃ a len cap S, v = .slice a len cap ∧ RdX w a len cap (zys S) ∧ (∀ i, -9223372036854775808 ≤ nthI S i ∧ nthI S i ≤ 9223372036854775807) := by
  obtain ⟨a, len, cap, S, e, hr⟩ := met_intsU h
  cases e
  exact ⟨a, len, cap, S, rfl, hr⟩
abbrev ShLk : Sh := .fcons 1 (.slice 1 8 (.int .i64)) (.fcons 1 .bool (.fcons 1 .bool .fend))
theorem met_look {w : World} {full : Bool} {n : Nat} {cs : List Value} (h : ShLk.met w full cs n) : ∃ k : Lk, cs = k.cells ∧ RdX w k.va k.vn k.vc (zys k.vs) ∧ (∀ i, -9223372036854775808 ≤ nthI k.vs i ∧ nthI k.vs i ≤ 9223372036854775807) := by
  obtain ⟨n1, _, _, h0, _, _, _, ⟨_, he, e1⟩, _, _, _, ⟨_, le, e2⟩, e3, _⟩ := h
  obtain ⟨a, len, cap, S, e0, hr, hb⟩ := met_intsU h0
  refine ⟨⟨a, len, cap, S, he, le⟩, ?_, hr, hb⟩
  unfold Lk.cells
  match cs with
  | [] => simp at e0
  | [_] => simp at e1
  | [_, _] => simp at e2
  | [x0, x1, x2] => simp_all
  | x0 :: x1 :: x2 :: x3 :: r => simp at e3
theorem shown_looks {w : World} {full : Bool} {N : Nat} {v : Value} (h : (Sh.slice 3 32 ShLk).shown w full v N) : ∃ a len cap K, v = .slice a len cap ∧ RdLk w a len cap K := by
  have h : (Sh.slice 3 32 ShLk).met w full [v] N := h
  rcases h with ⟨rfl, e⟩ | ⟨x, len, cap, G, C, e, e', hl, hm, hf, hc⟩
  · cases e
    exact ⟨none, 0, 0, fun _ => ⟨none, 0, 0, [], false, false⟩, rfl, ⟨Nat.le_refl _, Nat.zero_le _, fun _ => rfl, (fun h => by omega), (fun i h => by omega), (fun i h => by omega)⟩⟩
  · cases e
    have each : ∀ i, i < cap → ∃ k : Lk, (∀ j, j < 3 → w.cell? (x.add (i * 3 + j)) = k.cells[j]?) ∧ RdX w k.va k.vn k.vc (zys k.vs) ∧ (∀ i, -9223372036854775808 ≤ nthI k.vs i ∧ nthI k.vs i ≤ 9223372036854775807) := by
      intro i hi
      obtain ⟨h1, h2, h3⟩ := hc i hi
      obtain ⟨k, e, hk⟩ := met_look h3
      refine ⟨k, fun j hj => ?_, hk⟩
      rw [h2 j hj, e]
    have hI : Inhabited Lk := ⟨⟨none, 0, 0, [], false, false⟩⟩
    obtain ⟨K, hK⟩ := Go.Deep.choose_lt each
    refine ⟨some x, len, cap, K, rfl, ⟨hl, hm, (fun e => by cases e), fun h0 => ?_, fun i hi => (hK i (by omega)).2.1, fun i hi => (hK i (by omega)).2.2⟩⟩
    obtain ⟨b, off, spot⟩ := x
    have hc0 := (hK 0 (by omega)).1 0 (by decide)
    have h0' : w.cell? (⟨b, off, spot⟩ : Addr) = some (.slice (K 0).va (K 0).vn (K 0).vc) := by simpa [Addr.add, Lk.cells] using hc0
    have hspot : spot = none := by simpa using World.cell?_spot h0'
    subst hspot
    refine ⟨b, off, rfl, World.block_lt_of_cell? w _ h0', fun i hi j hj => ?_⟩
    rw [← addr_add]
    exact (hK i (by omega)).1 j hj
theorem shown_intU {w : World} {full : Bool} {n : Nat} {v : Value} (h : (Sh.int .i64).shown w full v n) : ∃ z, v = .int .i64 z ∧ -9223372036854775808 ≤ z ∧ z ≤ 9223372036854775807 := by
  obtain ⟨_, z, e, hz⟩ := h
  cases e
  exact ⟨z, rfl, bounds_i64 hz⟩
end Go.Proofs.Ytkfgchngndppiaa
