import Derived.Test.YtlmddjkplnbadaaXA
import Derived.Test.YtlmddjkplnbadaaKHo
namespace Go.Proofs.Ytlmddjkplnbadaa
open Go.RowKit
set_option maxRecDepth 100000
set_option linter.unusedVariables false
set_option linter.unusedSimpArgs false
open Go.ChangeShapes Go.WideShapes
abbrev ShQu : Sh := .fcons 1 (.int .i64) (.fcons 1 (.slice 1 24 (.slice 1 1 (.int .u8))) (.fcons 1 (.int .i64) .fend))
/-- a queue as it is read, with its rows as data -/
structure Qr where
  ow : Int
  a : Option Addr
  n : Nat
  c : Nat
  go : Int
  P : List (List Nat)
def Qr.cells (k : Qr) : List Value := [.int .i64 k.ow, .slice k.a k.n k.c, .int .i64 k.go]
theorem met_queue {w : World} {full : Bool} {n : Nat} {cs : List Value} (h : ShQu.met w full cs n) : ∃ k : Qr, cs = k.cells ∧ RdW w k.a k.n k.c k.P ∧ (full = true → Fit 140737488351232 k.P ∧ k.n * 24 ≤ 140737488351232) := by
  obtain ⟨n0, m0, rfl, ⟨_, ow, e0, k0⟩, n1, m1, rfl, h1, n2, m2, rfl, ⟨_, go, e2, k2⟩, e3, _⟩ := h
  obtain ⟨a, len, cap, P, e1, hr, hf⟩ := met_rowsK h1
  refine ⟨⟨ow, a, len, cap, go, P⟩, ?_, hr, hf⟩
  unfold Qr.cells
  match cs with
  | [] => simp at e0
  | [_] => simp at e1
  | [_, _] => simp at e2
  | [x0, x1, x2] => simp_all
  | x0 :: x1 :: x2 :: x3 :: r => simp at e3
theorem met_queues {w : World} {full : Bool} {N : Nat} {cs : List Value} (h : (Sh.slice 3 40 ShQu).met w full cs N) :
    ∃ a len cap Qs, cs = [.slice a len cap] ∧ RdS w a len cap Qs ∧ (full = true → FitQ 140737488351232 Qs ∧ (∀ q, q ∈ Qs → q.P.length * 24 ≤ 140737488351232) ∧ len * 40 ≤ 140737488351232) := by
  rcases h with ⟨rfl, rfl⟩ | ⟨x, len, cap, G, C, rfl, rfl, hl, hm, hf, hc⟩
  · exact ⟨none, 0, 0, [], rfl, RdS.nil w, fun _ => ⟨(fun k h => by cases h), (fun k h => by cases h), by decide⟩⟩
  · have each : ∀ i, i < cap → ∃ k : Qr, (∀ j, j < 3 → w.cell? (x.add (i * 3 + j)) = k.cells[j]?) ∧ RdW w k.a k.n k.c k.P ∧ (full = true → Fit 140737488351232 k.P ∧ k.n * 24 ≤ 140737488351232) := by
      intro i hi
      obtain ⟨h1, h2, h3⟩ := hc i hi
      obtain ⟨k, e, hk⟩ := met_queue h3
      refine ⟨k, fun j hj => ?_, hk⟩
      rw [h2 j hj, e]
    have hI : Inhabited Qr := ⟨⟨0, none, 0, 0, 0, []⟩⟩
    obtain ⟨K, hK⟩ := Go.Deep.choose_lt each
    have hE : ∀ i, i < cap → ∃ F : Nat → Rw, RdR w (K i).a (K i).n (K i).c F ∧ ∀ j, j < (K i).n → (F j).D = (K i).P.getD j [] := fun i hi => (hK i hi).2.1.ex
    have hI2 : Inhabited (Nat → Rw) := ⟨fun _ => kr0⟩
    obtain ⟨F, hF⟩ := Go.Deep.choose_lt hE
    have hat : ∀ i, i < len → ((List.range len).map (fun i => Qd.mk (K i).ow (K i).go (K i).P)).getD i qd0 = ⟨(K i).ow, (K i).go, (K i).P⟩ := fun i hi => by
      rw [List.getD_eq_getElem?_getD, List.getElem?_map, List.getElem?_range hi]; rfl
    have hmem : ∀ k, k ∈ (List.range len).map (fun i => Qd.mk (K i).ow (K i).go (K i).P) → ∃ i, i < len ∧ (⟨(K i).ow, (K i).go, (K i).P⟩ : Qd) = k := by
      intro k hk
      obtain ⟨i, hi, rfl⟩ := List.mem_map.1 hk
      exact ⟨i, List.mem_range.1 hi, rfl⟩
    refine ⟨some x, len, cap, (List.range len).map (fun i => Qd.mk (K i).ow (K i).go (K i).P), rfl, ⟨by simp, fun i => ⟨(K i).ow, (K i).a, (K i).n, (K i).c, (K i).go, F i⟩, ⟨hl, hm, fun h0 => ?_, fun i hi => (hF i (by omega)).1⟩, fun i hi => ?_⟩, fun hh => ⟨fun k hk => ?_, fun k hk => ?_, ?_⟩⟩
    · obtain ⟨b, off, spot⟩ := x
      have hc0 := (hK 0 (by omega)).1 0 (by decide)
      have h0' : w.cell? (⟨b, off, spot⟩ : Addr) = some (.int .i64 (K 0).ow) := by simpa [Addr.add, Qr.cells] using hc0
      have hspot : spot = none := by simpa using World.cell?_spot h0'
      subst hspot
      refine ⟨b, off, rfl, World.block_lt_of_cell? w _ h0', fun i hi => ?_⟩
      have q0 := (hK i (by omega)).1 0 (by decide)
      have q1 := (hK i (by omega)).1 1 (by decide)
      have q2 := (hK i (by omega)).1 2 (by decide)
      rw [addr_add'] at q0 q1 q2
      exact ⟨q0, q1, q2⟩
    · rw [hat i hi]
      exact ⟨rfl, rfl, (hK i (by omega)).2.1.len.symm, (hF i (by omega)).2⟩
    · obtain ⟨i, hi, rfl⟩ := hmem k hk
      exact ((hK i (by omega)).2.2 hh).1
    · obtain ⟨i, hi, rfl⟩ := hmem k hk
      have h1 := ((hK i (by omega)).2.2 hh).2
      have h2 := (hK i (by omega)).2.1.len
      show (K i).P.length * 24 ≤ _
      omega
    · have := hf hh
      unfold reachBytes at this
      omega
abbrev ShSe : Sh := .fcons 1 (.int .i64) (.fcons 1 (.int .i64) (.fcons 1 (.int .i64) (.fcons 1 (.int .i64) (.fcons 1 (.slice 3 40 ShQu) .fend))))
theorem shown_sender {w : World} {full : Bool} {k : Nat} {v : Value} (h : ShSe.shown w full v k) :
    ∃ (cr sz ma tu : Int) (a : Option Addr) (n c : Nat) (Qs : List Qd), v = .agg #[.int .i64 cr, .int .i64 sz, .int .i64 ma, .int .i64 tu, .slice a n c] ∧ RdS w a n c Qs ∧ (full = true → FitQ 140737488351232 Qs ∧ (∀ q, q ∈ Qs → q.P.length * 24 ≤ 140737488351232) ∧ n * 40 ≤ 140737488351232) := by
  obtain ⟨cs, rfl, hm⟩ := h
  obtain ⟨_, _, rfl, ⟨_, z0, e0, _⟩, _, _, rfl, ⟨_, z1, e1, _⟩, _, _, rfl, ⟨_, z2, e2, _⟩, _, _, rfl, ⟨_, z3, e3, _⟩, _, _, rfl, h4, e5, _⟩ := hm
  obtain ⟨a4, n4, c4, R4, e4, hR4, hf4⟩ := met_queues h4
  refine ⟨z0, z1, z2, z3, a4, n4, c4, R4, ?_, hR4, hf4⟩
  congr 1
  apply Array.toList_inj.1
  generalize cs.toList = l at *
  match l with
  | [] => simp at e0
  | [_] => simp at e1
  | [_, _] => simp at e2
  | [_, _, _] => simp at e3
  | [_, _, _, _] => simp at e4
  | [x0, x1, x2, x3, x4] => simp_all
  | x0 :: x1 :: x2 :: x3 :: x4 :: x5 :: r => simp at e5
end Go.Proofs.Ytlmddjkplnbadaa
