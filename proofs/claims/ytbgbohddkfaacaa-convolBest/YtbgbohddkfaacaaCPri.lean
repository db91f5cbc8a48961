import Derived.Test.YtbgbohddkfaacaaCFol
namespace Go.Proofs.Ytbgbohddkfaacaa
open Go.RowKit
set_option maxRecDepth 100000
set_option linter.unusedVariables false
set_option linter.unusedSimpArgs false

/-! slices of numbers as they are read -/
def nthI (S : List Int) (i : Nat) : Int := S.getD i 0
structure RdI (w : World) (a : Option Addr) (n cap : Nat) (S : List Int) : Prop where
  len : S.length = n
  le : n ≤ cap
  max : cap ≤ maxLen
  nil : a = none → cap = 0
  at' : 0 < n → ∃ b off, a = some ⟨b, off, none⟩ ∧ b < w.heap.size ∧ ∀ i, i < n → w.cell? ⟨b, off + i, none⟩ = some (.int .i64 (nthI S i))
theorem RdI.grown {w w' : World} {a : Option Addr} {n cap : Nat} {S : List Int} {r : Option Nat} (h : RdI w a n cap S) (hg : w.grownBy w' r) (hne : ∀ b off, a = some ⟨b, off, none⟩ → some b ≠ r) : RdI w' a n cap S := by
  refine ⟨h.len, h.le, h.max, h.nil, fun h0 => ?_⟩
  obtain ⟨b, off, rfl, hb, hc⟩ := h.at' h0
  refine ⟨b, off, rfl, Nat.lt_of_lt_of_le hb hg.size, fun i hi => ?_⟩
  exact (World.cell?_of_block (w := w) (hg.block b hb (hne b off rfl))).trans (hc i hi)
theorem RdI.keep {w w' : World} {a : Option Addr} {n cap : Nat} {S : List Int} (h : RdI w a n cap S) (hg : w.grownBy w' none) : RdI w' a n cap S := h.grown hg (fun _ _ _ => by simp)

/-- what a symbol costs (0, then 1) of which this number came; of both symbols of a step -/
def prV (r : Nat) (S : List Int) (j : Nat) : Int :=
  if j % 4 < 2 then
    (if kb (pF r) (j / 4) then (if j % 4 = 0 then 7 + nthI S (cntN r (j / 4)) else 7 - nthI S (cntN r (j / 4))) else 0)
  else (if kb (pS r) (j / 4) then (if j % 4 = 2 then 7 + nthI S (cntN r (j / 4) + kn (kb (pF r) (j / 4))) else 7 - nthI S (cntN r (j / 4) + kn (kb (pF r) (j / 4)))) else 0)
theorem prV0 (r : Nat) (S : List Int) (k : Nat) : prV r S (k * 4) = if kb (pF r) k then 7 + nthI S (cntN r k) else 0 := by
  unfold prV
  rw [show k * 4 / 4 = k by omega, show k * 4 % 4 = 0 by omega, if_pos (by decide), if_pos rfl]
theorem prV1 (r : Nat) (S : List Int) (k : Nat) : prV r S (k * 4 + 1) = if kb (pF r) k then 7 - nthI S (cntN r k) else 0 := by
  unfold prV
  rw [show (k * 4 + 1) / 4 = k by omega, show (k * 4 + 1) % 4 = 1 by omega, if_pos (by decide), if_neg (show ¬ (1 = 0) by decide)]
theorem prV2 (r : Nat) (S : List Int) (k : Nat) : prV r S (k * 4 + 2) = if kb (pS r) k then 7 + nthI S (cntN r k + kn (kb (pF r) k)) else 0 := by
  unfold prV
  rw [show (k * 4 + 2) / 4 = k by omega, show (k * 4 + 2) % 4 = 2 by omega, if_neg (by decide), if_pos rfl]
theorem prV3 (r : Nat) (S : List Int) (k : Nat) : prV r S (k * 4 + 3) = if kb (pS r) k then 7 - nthI S (cntN r k + kn (kb (pF r) k)) else 0 := by
  unfold prV
  rw [show (k * 4 + 3) / 4 = k by omega, show (k * 4 + 3) % 4 = 3 by omega, if_neg (by decide), if_neg (show ¬ (3 = 2) by decide)]
theorem prV_bd (r : Nat) (S : List Int) (hS : ∀ i, -7 ≤ nthI S i ∧ nthI S i ≤ 7) (j : Nat) : 0 ≤ prV r S j ∧ prV r S j ≤ 14 := by
  have h1 := hS (cntN r (j / 4)); have h2 := hS (cntN r (j / 4) + kn (kb (pF r) (j / 4)))
  unfold prV
  repeat' split
  all_goals omega
theorem priced_any (s : Int) (hs : -7 ≤ s ∧ s ≤ 7) (w : World) : Calls Try.prog 56 #[.int .i64 s] w fun e w' => e = .returned (.agg #[.int .i64 (7 + s), .int .i64 (7 - s)]) ∧ w' = w.alloc (.cells #[.int .i64 (7 + s), .int .i64 (7 - s)] 88) := by
  obtain ⟨h1, h2⟩ := hs
  go_enter Try.func56, Try.ntmps56
  go_wp2
  refine bodyPost_ret (v := .agg #[.int .i64 (7 + s), .int .i64 (7 - s)]) (by simp [results, Try.results56, go_sem]) rfl ⟨rfl, rfl⟩
theorem Try.info_74 : (Try.prog.info? 90).map (fun i => (i.zero, i.size, i.bytes)) = some (some (.agg #[.int .i64 0, .int .i64 0, .int .i64 0, .int .i64 0]), 4, 32) := by kernel_rfl
theorem made4 (n : Nat) : madeCells #[.int .i64 0, .int .i64 0, .int .i64 0, .int .i64 0] (n * 4) = ints (4 * n) fun _ => 0 := by
  apply Array.ext_getElem?
  intro i
  by_cases hi : i < 4 * n
  · rw [ints_at _ _ _ hi]
    have h4 : i % 4 < 4 := Nat.mod_lt _ (by decide)
    simp only [madeCells, Array.getElem?_map]
    rw [Array.getElem?_eq_getElem (by simp; omega)]
    simp
    rcases (by omega : i % 4 = 0 ∨ i % 4 = 1 ∨ i % 4 = 2 ∨ i % 4 = 3) with e | e | e | e <;> simp [e]
  · rw [Array.getElem?_eq_none (by simp [size_madeCells]; omega), Array.getElem?_eq_none (by simp [ints_size]; omega)]
/-- 'make([][2]price, n)' -/
theorem wpList_mkP (w : World) {ops : Array Oper} {rest : List Oper} {o : Oper} {a : Act} {Q : Exit → Act → World → Prop} (hg : o.guard = none) (l c : Operand)
    (hop : o.op = Op.makeSlice 86 l c) (n : Nat) (hl : a.eval l = .int .i64 (n : Nat)) (hc : a.eval c = .int .i64 (n : Nat)) (hn : n ≤ 20000)
    (hK : ∀ w', IRow w' w.heap.size 90 (4 * n) (fun _ => 0) → w.grownBy w' none → w'.heap.size = w.heap.size + 1 → wpList Try.prog ops Q rest (a.put o.dst (.slice (some ⟨w.heap.size, 0, none⟩) n n)) w') :
    wpList Try.prog ops Q (o :: rest) a w := by
  obtain ⟨i0, hi, hz0, hz1, hz2⟩ := info_parts Try.info_74
  refine wpList_plain hg fun K hK' => ?_
  have h := run_makeSlice (P := Try.prog) w 86 90 i0 _ Try.underlying86 hi hz0 .i64 .i64 n n (by omega) (by omega) (by rw [hz1]; omega) (by rw [hz2]; omega) (by omega)
  rw [hz1] at h
  simp only [Int.toNat_natCast] at h
  unfold Oper.wp
  simp [execOp, hop, hl, hc, h, Result.andThen]
  refine hK' _ _ (hK _ ?_ (World.grownBy_alloc _ _ _) (by simp))
  unfold IRow
  rw [heap_alloc_new]
  have := made4 n
  rw [← this]
  rfl
end Go.Proofs.Ytbgbohddkfaacaa
