import Derived.Test.YtbgbohddkfaacaaCOfB
namespace Go.Proofs.Ytbgbohddkfaacaa
open Go.RowKit
set_option maxRecDepth 100000
set_option linter.unusedVariables false
set_option linter.unusedSimpArgs false

/-- the path that is followed, and its bits -/
def pthM (M : Nat → Nat) : Nat → Nat
  | 0 => 0
  | k + 1 => (2 * pthM M k + M k / 2 ^ pthM M k % 2) % 64
def folL (M : Nat → Nat) (n : Nat) : List Nat := (List.range n).map fun k => M k / 2 ^ pthM M k % 2
theorem pthM_lt (M : Nat → Nat) (k : Nat) : pthM M k < 64 := by
  cases k with
  | zero => exact (by decide : 0 < 64)
  | succ k => exact Nat.mod_lt _ (by decide)
/-- a row of numbers of 64 bits -/
def lits64 (n : Nat) (M : Nat → Nat) : Array Value := ((List.range n).map fun i => Value.int .u64 (M i : Nat)).toArray
theorem lits64_size (n : Nat) (f : Nat → Nat) : (lits64 n f).size = n := by simp [lits64]
theorem lits64_at (n : Nat) (f : Nat → Nat) (j : Nat) (h : j < n) : (lits64 n f)[j]? = some (.int .u64 (f j : Nat)) := by
  simp [lits64, h]
theorem lits64_set (n : Nat) (f : Nat → Nat) (j x : Nat) : (lits64 n f).setIfInBounds j (.int .u64 (x : Nat)) = lits64 n fun i => if i = j then x else f i := by
  apply Array.ext_getElem?
  intro i
  by_cases hi : i < n
  · rw [lits64_at _ _ _ hi, Array.getElem?_setIfInBounds]
    by_cases e : j = i
    · subst e; simp [lits64_size, hi]
    · rw [if_neg e, lits64_at _ _ _ hi, if_neg (Ne.symm e)]
  · rw [Array.getElem?_eq_none (by simp [lits64_size]; omega), Array.getElem?_eq_none (by simp [lits64_size]; omega)]
def URow (w : World) (g n : Nat) (M : Nat → Nat) : Prop := w.heap[g]? = some (.cells (lits64 n M) 82)
theorem URow.lt {w : World} {g n : Nat} {f : Nat → Nat} (h : URow w g n f) : g < w.heap.size := (Array.getElem?_eq_some_iff.1 h).1
theorem URow.cell {w : World} {g n : Nat} {f : Nat → Nat} (h : URow w g n f) (j : Nat) (hj : j < n) : w.cell? ⟨g, j, none⟩ = some (.int .u64 (f j : Nat)) := by
  rw [cell_of_row w g j _ _ _ h]; exact lits64_at n f j hj
theorem URow.free {w : World} {g n : Nat} {f : Nat → Nat} (h : URow w g n f) (j : Nat) : w.frozen? ⟨g, j, none⟩ = false := frozen_of_row w g j _ _ h
theorem URow.set {w : World} {g n : Nat} {f : Nat → Nat} (h : URow w g n f) (j x : Nat) : URow (w.setCell ⟨g, j, none⟩ (.int .u64 (x : Nat))) g n fun i => if i = j then x else f i := by
  unfold URow
  rw [heap_setCell_same w g j _ _ _ h, lits64_set]
theorem URow.kept {w w' : World} {g n : Nat} {f : Nat → Nat} {o : Option Nat} (h : URow w g n f) (hg : w.grownBy w' o) (hne : some g ≠ o) : URow w' g n f := by
  unfold URow; rw [hg.block g h.lt hne]; exact h
theorem URow.keep {w w' : World} {g n : Nat} {f : Nat → Nat} (h : URow w g n f) (hg : w.grownBy w' none) : URow w' g n f := h.kept hg (by simp)
theorem lits64_congr (n : Nat) (f g : Nat → Nat) (h : ∀ i, i < n → f i = g i) : lits64 n f = lits64 n g := by
  apply Array.ext_getElem?
  intro i
  by_cases hi : i < n
  · rw [lits64_at _ _ _ hi, lits64_at _ _ _ hi, h i hi]
  · rw [Array.getElem?_eq_none (by simp [lits64_size]; omega), Array.getElem?_eq_none (by simp [lits64_size]; omega)]
theorem URow.congr {w : World} {g n : Nat} {f f' : Nat → Nat} (h : URow w g n f) (e : ∀ i, i < n → f i = f' i) : URow w g n f' := by
  unfold URow; rw [← lits64_congr n f f' e]; exact h
theorem u64_bit (m s : Nat) (hm : m < 18446744073709551616) : bits .and .u64 ((m : Int) / 2 ^ s) 1 = ((m / 2 ^ s % 2 : Nat) : Int) := by
  have e : ((m : Int) / 2 ^ s) = ((m / 2 ^ s : Nat) : Int) := by simp
  have hl : m / 2 ^ s < 18446744073709551616 := Nat.lt_of_le_of_lt (Nat.div_le_self _ _) hm
  have := u64_and_nat (m / 2 ^ s) 1 hl (by decide)
  rw [e]
  simp only [Nat.and_one_is_mod] at this
  exact this
set_option maxHeartbeats 1000000 in
theorem follow_any (g n : Nat) (M : Nat → Nat) (w : World) (h : URow w g n M) (hM : ∀ i, M i < 18446744073709551616) (hn : n ≤ 16384) :
    Calls Try.prog 55 #[.slice (some ⟨g, 0, none⟩) n n] w fun e w' => ∃ a' c', e = .returned (.slice a' n c') ∧ Ans w' w.heap.size a' n c' (folL M n) ∧ w.grownBy w' none := by
  go_enter Try.func55, Try.ntmps55
  go_wp2_with (at_make; refine wpList_mkB _ rfl _ _ rfl _ _ n rfl rfl (by omega) (by omega) (by omega) ?_; intro w1 hb1 hg1)
  go_loopw [4, 13] (fun s i wr => ∃ k : Nat, k ≤ n ∧ i = .int .i64 k ∧ s = .int .i64 (pthM M k : Nat) ∧ w.grownBy wr none ∧ ∃ D, Blk wr w.heap.size D ∧ D.length = n ∧ IsB D ∧ ∀ j, j < k → nth D j = M j / 2 ^ pthM M j % 2) (fun _ i _ => n - (intOf i).toNat)
  case atStart => exact ⟨0, by omega, rfl, rfl, hg1, _, hb1, by simp, isB_zeros _, fun j hj => by omega⟩
  case round =>
    obtain ⟨k, hk, rfl, rfl, hgr, D, hB, hl, hby, hD⟩ := hrel
    have HD : Hid (∀ j, j < k → nth D j = M j / 2 ^ pthM M j % 2) := hD
    have HL : Hid (D.length = n) := hl
    clear hD
    by_cases hlt : k < n
    · have c0 := (h.keep hgr).cell k hlt
      have hf := hB.free k
      have hc := hB.cell k (by omega)
      have hs := pthM_lt M k
      have HP : Hid (pthM M (k + 1) = (2 * pthM M k + M k / 2 ^ pthM M k % 2) % 64) := rfl
      have hb := u64_bit (M k) (pthM M k) (hM k)
      have hbl : M k / 2 ^ pthM M k % 2 < 2 := Nat.mod_lt _ (by decide)
      have hor := or_reg (pthM M k) hs (M k / 2 ^ pthM M k % 2) hbl
      have HV : Hid (M k / 2 ^ pthM M k % 2 = (fun j => M j / 2 ^ pthM M j % 2) k) := rfl
      have hBs := hB.set k (M k / 2 ^ pthM M k % 2)
      generalize pthM M k = s at *
      generalize M k / 2 ^ s % 2 = b at *
      have v1 := wrap_u8_small b (by omega)
      clear hl
      go_wp2
      go_roundw
      case rel =>
        refine ⟨k + 1, by omega, by go_num, congrArg (Value.int .i64) (by rw [HP.out]; omega), new_then hgr (grown_set _ _ _ _), _, hBs, by rw [List.length_set]; exact HL.out, isB_set hby _ _ (by omega), ?_⟩
        intro j hj
        rw [nth_set _ _ _ _ (by rw [HL.out]; exact hlt)]
        by_cases e : k = j
        · subst e; rw [if_pos rfl]; exact HV.out
        · rw [if_neg e]; exact HD.out j (by omega)
      case measure => simp [intOf]; omega
    · obtain rfl : k = n := by omega
      have hE : D = folL M k := by
        refine list_ext (by unfold folL; rw [hl]; simp) fun i hi => ?_
        unfold folL
        rw [hl] at hi
        rw [nth_map_range _ _ _ hi]; exact HD.out i hi
      go_wp2
      go_ret
      have hans := hB.ans (n := k) (lo := w.heap.size) hby (by omega) (by unfold maxLen; omega) (Nat.le_refl _)
      rw [List.take_of_length_le (by omega)] at hans
      exact ⟨_, _, rfl, by rw [← hE]; rw [hl] at hans; exact hans, hgr⟩
end Go.Proofs.Ytbgbohddkfaacaa
