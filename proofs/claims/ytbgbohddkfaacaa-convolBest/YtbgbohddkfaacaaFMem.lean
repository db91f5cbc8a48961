import Derived.Test.YtbgbohddkfaacaaFInt
import Derived.Deep.QuietTactic
import Derived.BigQuiet
import Derived.Laws.CopyOwn
import Derived.Laws.AppendOwnNone
import Derived.Deep.RegionHeld3
namespace Go.Proofs.Ytbgbohddkfaacaa
open Go.RowKit
set_option maxRecDepth 100000
set_option linter.unusedVariables false
set_option linter.unusedSimpArgs false

/-! lists of bytes, and how they lie in memory -/
def nth (L : List Nat) (k : Nat) : Nat := L.getD k 0
def bys (L : List Nat) : List Value := L.map fun (n : Nat) => Value.int .u8 (n : Int)
def IsB (L : List Nat) : Prop := ∀ x, x ∈ L → x < 256
theorem IsB.nth {L : List Nat} (h : IsB L) (k : Nat) : nth L k < 256 := by
  unfold Go.Proofs.Ytbgbohddkfaacaa.nth
  by_cases hk : k < L.length
  · rw [List.getD_eq_getElem?_getD, List.getElem?_eq_getElem hk]; exact h _ (List.getElem_mem hk)
  · rw [List.getD_eq_getElem?_getD, List.getElem?_eq_none (by omega)]; decide
/-- A slice of bytes as it is read: n of them, the numbers L. -/
structure Rd (w : World) (a : Option Addr) (n cap : Nat) (L : List Nat) : Prop where
  len : L.length = n
  le : n ≤ cap
  max : cap ≤ maxLen
  nil : a = none → cap = 0
  byte : IsB L
  at' : 0 < n → ∃ b off, a = some ⟨b, off, none⟩ ∧ b < w.heap.size ∧ ∀ i, i < n → w.cell? ⟨b, off + i, none⟩ = some (.int .u8 (nth L i : Nat))
/-- The numbers without the noughts at their end. -/
def trimN (L : List Nat) : Nat → Nat
  | 0 => 0
  | k + 1 => if nth L k = 0 then trimN L k else k + 1
def trimL (L : List Nat) : List Nat := L.take (trimN L L.length)
theorem trimN_le (L : List Nat) (k : Nat) : trimN L k ≤ k := by
  induction k with
  | zero => exact Nat.le_refl _
  | succ k ih => unfold trimN; split <;> omega

theorem trimN_zero (L : List Nat) (k : Nat) (h : nth L k = 0) : trimN L (k + 1) = trimN L k := if_pos h
theorem trimN_nz (L : List Nat) (k : Nat) (h : ¬ nth L k = 0) : trimN L (k + 1) = k + 1 := if_neg h
theorem trim_any (a : Option Addr) (n cap : Nat) (L : List Nat) (w : World) (h : Rd w a n cap L) :
    Calls Try.prog 59 #[.slice a n cap] w fun e w' => e = .returned (.slice a (trimN L n) cap) ∧ w' = w := by
  obtain ⟨hl, hle, hm, hnil, hb, hat⟩ := h
  unfold maxLen at hm
  go_enter Try.func59, Try.ntmps59
  go_wp2
  go_loop [3] (fun i => ∃ k : Nat, k ≤ n ∧ i = .int .i64 k ∧ trimN L k = trimN L n) (fun i => (intOf i).toNat)
  case atStart => exact ⟨n, by omega, rfl, rfl⟩
  case round =>
    obtain ⟨k, hk, rfl, HK⟩ := hrel
    have HK' : Hid (trimN L k = trimN L n) := HK
    clear HK
    by_cases hk0 : 0 < k
    · obtain ⟨b, off, rfl, hbw, hc⟩ := hat (by omega)
      have hck := hc (k - 1) (by omega)
      have hbk := hb.nth (k - 1)
      clear hat hc hnil
      obtain ⟨j, rfl⟩ : ∃ j, k = j + 1 := ⟨k - 1, by omega⟩
      simp only [Nat.add_sub_cancel] at hck hbk
      by_cases hz : nth L j = 0
      · have hz' : ((nth L j : Int) == 0) = true := by rw [hz]; rfl
        have HZ : Hid (trimN L j = trimN L n) := (trimN_zero L j hz).symm.trans HK'.out
        clear hz
        go_wp2
        go_round
        case rel => exact ⟨j, by omega, by go_num, HZ⟩
        case measure => simp [intOf] <;> omega
      · have hz' : ((nth L j : Int) == 0) = false := by simp; omega
        have HZ : Hid (j + 1 = trimN L n) := (trimN_nz L j hz).symm.trans HK'.out
        clear hz
        go_wp2
        go_ret
        exact ⟨by rw [← HZ.out]; rfl, rfl⟩
    · obtain rfl : k = 0 := by omega
      have HZ : Hid (0 = trimN L n) := HK'.out
      go_wp2
      go_ret
      exact ⟨by rw [← HZ.out]; rfl, rfl⟩

/-- Block g is a row of bytes, the call's own: the numbers L. -/
def Blk (w : World) (g : Nat) (L : List Nat) : Prop := w.heap[g]? = some (.cells (bys L).toArray 5)
theorem nth_bys (L : List Nat) (i : Nat) (hi : i < L.length) : (bys L)[i]? = some (.int .u8 (nth L i : Nat)) := by
  unfold bys nth
  rw [List.getElem?_map, List.getElem?_eq_getElem hi, List.getD_eq_getElem?_getD, List.getElem?_eq_getElem hi]; rfl
theorem Blk.lt {w : World} {g : Nat} {L : List Nat} (h : Blk w g L) : g < w.heap.size := (Array.getElem?_eq_some_iff.1 h).1
theorem Blk.cell {w : World} {g : Nat} {L : List Nat} (h : Blk w g L) (i : Nat) (hi : i < L.length) : w.cell? ⟨g, i, none⟩ = some (.int .u8 (nth L i : Nat)) := by
  rw [cell_of_row w g i _ _ _ h]; simpa using nth_bys L i hi
theorem Blk.free {w : World} {g : Nat} {L : List Nat} (h : Blk w g L) (i : Nat) : w.frozen? ⟨g, i, none⟩ = false := frozen_of_row w g i _ _ h
theorem Blk.set {w : World} {g : Nat} {L : List Nat} (h : Blk w g L) (i x : Nat) : Blk (w.setCell ⟨g, i, none⟩ (.int .u8 (x : Int))) g (L.set i x) := by
  unfold Blk
  rw [heap_setCell_same w g i _ _ _ h]
  simp [bys, List.map_set]
theorem Blk.grown {w w' : World} {g : Nat} {L : List Nat} {r : Option Nat} (h : Blk w g L) (hg : w.grownBy w' r) (hne : some g ≠ r) : Blk w' g L := by
  unfold Blk; rw [hg.block g h.lt hne]; exact h
theorem Blk.below {w w' : World} {g B : Nat} {L : List Nat} (h : Blk w g L) (hb : Below B w w') (hl : g < B) : Blk w' g L := by
  unfold Blk; rw [hb.block g hl]; exact h
theorem grown_set (w : World) (g i : Nat) (v : Value) : w.grownBy (w.setCell ⟨g, i, none⟩ v) (some g) :=
  ⟨rfl, rfl, rfl, by simp [World.setCell], fun k _ hk => heap_setCell_other w _ k v (fun e => hk (by rw [e]))⟩
theorem grown_trans {a b c : World} {r : Option Nat} (h : a.grownBy b r) (k : b.grownBy c r) : a.grownBy c r :=
  ⟨k.os.trans h.os, k.tape.trans h.tape, k.output.trans h.output, Nat.le_trans h.size k.size, fun i hi hn => (k.block i (Nat.lt_of_lt_of_le hi h.size) hn).trans (h.block i hi hn)⟩
theorem grown_drew (w : World) (r : Option Nat) : w.grownBy w.drew r := ⟨rfl, rfl, rfl, Nat.le_refl _, fun _ _ _ => rfl⟩
theorem grown_weak {a b : World} (h : a.grownBy b none) (r : Option Nat) : a.grownBy b r := ⟨h.os, h.tape, h.output, h.size, fun k hk _ => h.block k hk (by simp)⟩
theorem Rd.grown {w w' : World} {a : Option Addr} {n cap : Nat} {L : List Nat} {r : Option Nat} (h : Rd w a n cap L) (hg : w.grownBy w' r) (hne : ∀ b off, a = some ⟨b, off, none⟩ → some b ≠ r) : Rd w' a n cap L := by
  refine ⟨h.len, h.le, h.max, h.nil, h.byte, fun h0 => ?_⟩
  obtain ⟨b, off, rfl, hb, hc⟩ := h.at' h0
  refine ⟨b, off, rfl, Nat.lt_of_lt_of_le hb hg.size, fun i hi => ?_⟩
  exact (World.cell?_of_block (w := w) (hg.block b hb (hne b off rfl))).trans (hc i hi)

theorem Rd.grown' {w w' : World} {a : Option Addr} {n cap : Nat} {L : List Nat} {r : Option Nat} (h : Rd w a n cap L) (hg : w.grownBy w' r) (hne : 0 < n → ∀ b off, a = some ⟨b, off, none⟩ → some b ≠ r) : Rd w' a n cap L := by
  refine ⟨h.len, h.le, h.max, h.nil, h.byte, fun h0 => ?_⟩
  obtain ⟨b, off, rfl, hb, hc⟩ := h.at' h0
  refine ⟨b, off, rfl, Nat.lt_of_lt_of_le hb hg.size, fun i hi => ?_⟩
  exact (World.cell?_of_block (w := w) (hg.block b hb (hne h0 b off rfl))).trans (hc i hi)
theorem Rd.ne {w : World} {a : Option Addr} {n cap g : Nat} {L : List Nat} (h : Rd w a n cap L) (hg : w.heap.size ≤ g) : 0 < n → ∀ b off, a = some ⟨b, off, none⟩ → some b ≠ some g := by
  intro h0 b off e
  obtain ⟨b', off', e', hb, _⟩ := h.at' h0
  rw [e'] at e
  cases e
  simp; omega
/-- c times Q added at place o: k rounds -/
def addN (L : List Nat) (o : Nat) (Q : List Nat) (c : Nat) : Nat → List Nat
  | 0 => L
  | k + 1 => (addN L o Q c k).set (o + k) (nth (addN L o Q c k) (o + k) ^^^ Fld.mul (nth Q k) c)
theorem addN_length (L : List Nat) (o : Nat) (Q : List Nat) (c k : Nat) : (addN L o Q c k).length = L.length := by
  induction k with
  | zero => rfl
  | succ k ih => simp only [addN, List.length_set]; exact ih
theorem isB_set {L : List Nat} (h : IsB L) (i x : Nat) (hx : x < 256) : IsB (L.set i x) := by
  intro y hy
  rcases List.mem_or_eq_of_mem_set hy with h1 | h1
  · exact h y h1
  · rw [h1]; exact hx
theorem addN_isB {L Q : List Nat} (hL : IsB L) (hQ : IsB Q) (o c k : Nat) : IsB (addN L o Q c k) := by
  induction k with
  | zero => exact hL
  | succ k ih => exact isB_set ih _ _ (Fld.xor_lt (ih.nth _) (Fld.mul_lt _ (hQ.nth _)))

theorem add_step {w wr : World} {g o c k : Nat} {L Q : List Nat} (hB : Blk wr g (addN L o Q c k)) (hL : IsB L) (hQ : IsB Q) (hgr : w.grownBy wr (some g)) :
    Blk (wr.setCell ⟨g, o + k, none⟩ (.int .u8 (bits .xor .u8 (nth (addN L o Q c k) (o + k) : Nat) (Fld.mul (nth Q k) c : Nat)))).drew g (addN L o Q c (k + 1)) ∧
    w.grownBy (wr.setCell ⟨g, o + k, none⟩ (.int .u8 (bits .xor .u8 (nth (addN L o Q c k) (o + k) : Nat) (Fld.mul (nth Q k) c : Nat)))).drew (some g) := by
  rw [u8_xor_nat _ _ ((addN_isB hL hQ o c k).nth _) (Fld.mul_lt _ (hQ.nth _))]
  exact ⟨hB.set (o + k) _, grown_trans (grown_trans hgr (grown_set wr g (o + k) _)) (grown_drew _ _)⟩
set_option maxHeartbeats 400000 in
theorem addScaled_any (g o lp cp : Nat) (a : Option Addr) (n cap c : Nat) (L Q : List Nat) (w : World) (hB : Blk w g L) (hL : IsB L) (hq : Rd w a n cap Q)
    (hne : 0 < n → ∀ b off, a = some ⟨b, off, none⟩ → some b ≠ some g) (ho : o + n ≤ L.length) (hlp : n ≤ lp) (hlm : lp ≤ 9223372036854775807) (hc : c < 256) :
    Calls Try.prog 62 #[.slice (some ⟨g, o, none⟩) lp cp, .slice a n cap, .int .u8 c] w fun e w' =>
      e = .returned (.tuple #[]) ∧ Blk w' g (addN L o Q c n) ∧ w.grownBy w' (some g) := by
  have hq0 := hq
  obtain ⟨hl, hle, hm, hnil, hb, hat⟩ := hq
  unfold maxLen at hm
  go_enter Try.func62, Try.ntmps62
  go_wp2
  go_loopw [10] (fun i wr => ∃ k : Nat, k ≤ n ∧ i = .int .i64 k ∧ Blk wr g (addN L o Q c k) ∧ w.grownBy wr (some g)) (fun i _ => n - (intOf i).toNat)
  case atStart => exact ⟨0, by omega, rfl, hB, World.grownBy.refl _ _⟩
  case round =>
    obtain ⟨k, hk, rfl, hBk, hgr⟩ := hrel
    by_cases hlt : k < n
    · obtain ⟨b, off, rfl, hbw, hcc⟩ := (hq0.grown' hgr hne).at' (by omega)
      have hck := hcc k hlt
      have hpk := hBk.cell (o + k) (by rw [addN_length]; omega)
      have hfk := hBk.free (o + k)
      have hqk := hb.nth k
      have hAk := (addN_isB hL hb o c k).nth (o + k)
      clear hcc hat hnil hq0
      have hkl : (k : Int) < (lp : Int) := by omega
      go_wp2
      go_region_with (go_at_call 61; refine (mul_any _ _ hqk hc _).mono ?_; rintro e w' ⟨rfl, rfl⟩)
      all_goals
        have R := add_step hBk hL hb hgr
        go_wp2
        go_roundw
        case rel => exact ⟨k + 1, by omega, by go_num, R.1, R.2⟩
        case measure => simp [intOf]; omega
    · obtain rfl : k = n := by omega
      go_wp2
      go_end0
      exact ⟨rfl, hBk, hgr⟩
end Go.Proofs.Ytbgbohddkfaacaa
