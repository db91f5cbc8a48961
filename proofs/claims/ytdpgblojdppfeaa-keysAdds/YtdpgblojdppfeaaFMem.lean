import Derived.Test.YtdpgblojdppfeaaFInt
import Derived.Deep.QuietTactic
import Derived.BigQuiet
import Derived.Laws.CopyOwn
import Derived.Laws.AppendOwnNone
import Derived.Deep.RegionHeld3
namespace Go.Proofs.Ytdpgblojdppfeaa
open Go.RowKit
set_option maxRecDepth 100000
set_option linter.unusedVariables false
set_option linter.unusedSimpArgs false

/-! lists of bytes, and how they lie in memory -/
def nth (L : List Nat) (k : Nat) : Nat := L.getD k 0
def bys (L : List Nat) : List Value := L.map fun (n : Nat) => Value.int .u8 (n : Int)
def IsB (L : List Nat) : Prop := ∀ x, x ∈ L → x < 256
theorem IsB.nth {L : List Nat} (h : IsB L) (k : Nat) : nth L k < 256 := by
  unfold Go.Proofs.Ytdpgblojdppfeaa.nth
  by_cases hk : k < L.length
  · rw [List.getD_eq_getElem?_getD, List.getElem?_eq_getElem hk]; exact h _ (List.getElem_mem hk)
  · rw [List.getD_eq_getElem?_getD, List.getElem?_eq_none (by omega)]; decide
/-- A slice of bytes as it is read: n of them, the numbers L. -/
structure Rd (w : World) (a : Option Addr) (n cap : Nat) (L : List Nat) : Prop where
  len : L.length = n
  le : n ≤ cap
  max : cap ≤ maxLen
  nil : a = none → cap = 0
  byte : IsB L
  at' : 0 < n → ∃ b off, a = some ⟨b, off, none⟩ ∧ b < w.heap.size ∧ ∀ i, i < n → w.cell? ⟨b, off + i, none⟩ = some (.int .u8 (nth L i : Nat))
/-- The numbers without the noughts at their end. -/
def trimN (L : List Nat) : Nat → Nat
  | 0 => 0
  | k + 1 => if nth L k = 0 then trimN L k else k + 1
def trimL (L : List Nat) : List Nat := L.take (trimN L L.length)
theorem trimN_le (L : List Nat) (k : Nat) : trimN L k ≤ k := by
  induction k with
  | zero => exact Nat.le_refl _
  | succ k ih => unfold trimN; split <;> omega

theorem trimN_zero (L : List Nat) (k : Nat) (h : nth L k = 0) : trimN L (k + 1) = trimN L k := if_pos h
theorem trimN_nz (L : List Nat) (k : Nat) (h : ¬ nth L k = 0) : trimN L (k + 1) = k + 1 := if_neg h
/-- Block g is a row of bytes, the call's own: the numbers L. -/
def Blk (w : World) (g : Nat) (L : List Nat) : Prop := w.heap[g]? = some (.cells (bys L).toArray 5)
theorem nth_bys (L : List Nat) (i : Nat) (hi : i < L.length) : (bys L)[i]? = some (.int .u8 (nth L i : Nat)) := by
  unfold bys nth
  rw [List.getElem?_map, List.getElem?_eq_getElem hi, List.getD_eq_getElem?_getD, List.getElem?_eq_getElem hi]; rfl
theorem Blk.lt {w : World} {g : Nat} {L : List Nat} (h : Blk w g L) : g < w.heap.size := (Array.getElem?_eq_some_iff.1 h).1
theorem Blk.cell {w : World} {g : Nat} {L : List Nat} (h : Blk w g L) (i : Nat) (hi : i < L.length) : w.cell? ⟨g, i, none⟩ = some (.int .u8 (nth L i : Nat)) := by
  rw [cell_of_row w g i _ _ _ h]; simpa using nth_bys L i hi
theorem Blk.free {w : World} {g : Nat} {L : List Nat} (h : Blk w g L) (i : Nat) : w.frozen? ⟨g, i, none⟩ = false := frozen_of_row w g i _ _ h
theorem Blk.set {w : World} {g : Nat} {L : List Nat} (h : Blk w g L) (i x : Nat) : Blk (w.setCell ⟨g, i, none⟩ (.int .u8 (x : Int))) g (L.set i x) := by
  unfold Blk
  rw [heap_setCell_same w g i _ _ _ h]
  simp [bys, List.map_set]
theorem Blk.grown {w w' : World} {g : Nat} {L : List Nat} {r : Option Nat} (h : Blk w g L) (hg : w.grownBy w' r) (hne : some g ≠ r) : Blk w' g L := by
  unfold Blk; rw [hg.block g h.lt hne]; exact h
theorem Blk.below {w w' : World} {g B : Nat} {L : List Nat} (h : Blk w g L) (hb : Below B w w') (hl : g < B) : Blk w' g L := by
  unfold Blk; rw [hb.block g hl]; exact h
theorem grown_set (w : World) (g i : Nat) (v : Value) : w.grownBy (w.setCell ⟨g, i, none⟩ v) (some g) :=
  ⟨rfl, rfl, rfl, by simp [World.setCell], fun k _ hk => heap_setCell_other w _ k v (fun e => hk (by rw [e]))⟩
theorem grown_trans {a b c : World} {r : Option Nat} (h : a.grownBy b r) (k : b.grownBy c r) : a.grownBy c r :=
  ⟨k.os.trans h.os, k.tape.trans h.tape, k.output.trans h.output, Nat.le_trans h.size k.size, fun i hi hn => (k.block i (Nat.lt_of_lt_of_le hi h.size) hn).trans (h.block i hi hn)⟩
theorem grown_drew (w : World) (r : Option Nat) : w.grownBy w.drew r := ⟨rfl, rfl, rfl, Nat.le_refl _, fun _ _ _ => rfl⟩
theorem grown_weak {a b : World} (h : a.grownBy b none) (r : Option Nat) : a.grownBy b r := ⟨h.os, h.tape, h.output, h.size, fun k hk _ => h.block k hk (by simp)⟩
theorem Rd.grown {w w' : World} {a : Option Addr} {n cap : Nat} {L : List Nat} {r : Option Nat} (h : Rd w a n cap L) (hg : w.grownBy w' r) (hne : ∀ b off, a = some ⟨b, off, none⟩ → some b ≠ r) : Rd w' a n cap L := by
  refine ⟨h.len, h.le, h.max, h.nil, h.byte, fun h0 => ?_⟩
  obtain ⟨b, off, rfl, hb, hc⟩ := h.at' h0
  refine ⟨b, off, rfl, Nat.lt_of_lt_of_le hb hg.size, fun i hi => ?_⟩
  exact (World.cell?_of_block (w := w) (hg.block b hb (hne b off rfl))).trans (hc i hi)

theorem Rd.grown' {w w' : World} {a : Option Addr} {n cap : Nat} {L : List Nat} {r : Option Nat} (h : Rd w a n cap L) (hg : w.grownBy w' r) (hne : 0 < n → ∀ b off, a = some ⟨b, off, none⟩ → some b ≠ r) : Rd w' a n cap L := by
  refine ⟨h.len, h.le, h.max, h.nil, h.byte, fun h0 => ?_⟩
  obtain ⟨b, off, rfl, hb, hc⟩ := h.at' h0
  refine ⟨b, off, rfl, Nat.lt_of_lt_of_le hb hg.size, fun i hi => ?_⟩
  exact (World.cell?_of_block (w := w) (hg.block b hb (hne h0 b off rfl))).trans (hc i hi)
theorem Rd.ne {w : World} {a : Option Addr} {n cap g : Nat} {L : List Nat} (h : Rd w a n cap L) (hg : w.heap.size ≤ g) : 0 < n → ∀ b off, a = some ⟨b, off, none⟩ → some b ≠ some g := by
  intro h0 b off e
  obtain ⟨b', off', e', hb, _⟩ := h.at' h0
  rw [e'] at e
  cases e
  simp; omega
/-- c times Q added at place o: k rounds -/
def addN (L : List Nat) (o : Nat) (Q : List Nat) (c : Nat) : Nat → List Nat
  | 0 => L
  | k + 1 => (addN L o Q c k).set (o + k) (nth (addN L o Q c k) (o + k) ^^^ Fld.mul (nth Q k) c)
theorem addN_length (L : List Nat) (o : Nat) (Q : List Nat) (c k : Nat) : (addN L o Q c k).length = L.length := by
  induction k with
  | zero => rfl
  | succ k ih => simp only [addN, List.length_set]; exact ih
theorem isB_set {L : List Nat} (h : IsB L) (i x : Nat) (hx : x < 256) : IsB (L.set i x) := by
  intro y hy
  rcases List.mem_or_eq_of_mem_set hy with h1 | h1
  · exact h y h1
  · rw [h1]; exact hx
theorem addN_isB {L Q : List Nat} (hL : IsB L) (hQ : IsB Q) (o c k : Nat) : IsB (addN L o Q c k) := by
  induction k with
  | zero => exact hL
  | succ k ih => exact isB_set ih _ _ (Fld.xor_lt (ih.nth _) (Fld.mul_lt _ (hQ.nth _)))

theorem add_step {w wr : World} {g o c k : Nat} {L Q : List Nat} (hB : Blk wr g (addN L o Q c k)) (hL : IsB L) (hQ : IsB Q) (hgr : w.grownBy wr (some g)) :
    Blk (wr.setCell ⟨g, o + k, none⟩ (.int .u8 (bits .xor .u8 (nth (addN L o Q c k) (o + k) : Nat) (Fld.mul (nth Q k) c : Nat)))).drew g (addN L o Q c (k + 1)) ∧
    w.grownBy (wr.setCell ⟨g, o + k, none⟩ (.int .u8 (bits .xor .u8 (nth (addN L o Q c k) (o + k) : Nat) (Fld.mul (nth Q k) c : Nat)))).drew (some g) := by
  rw [u8_xor_nat _ _ ((addN_isB hL hQ o c k).nth _) (Fld.mul_lt _ (hQ.nth _))]
  exact ⟨hB.set (o + k) _, grown_trans (grown_trans hgr (grown_set wr g (o + k) _)) (grown_drew _ _)⟩
end Go.Proofs.Ytdpgblojdppfeaa
