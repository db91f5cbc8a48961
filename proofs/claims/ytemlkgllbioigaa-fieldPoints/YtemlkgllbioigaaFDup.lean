import Derived.Test.YtemlkgllbioigaaFAt
namespace Go.Proofs.Ytemlkgllbioigaa
open Go.RowKit
set_option maxRecDepth 100000
set_option linter.unusedVariables false
set_option linter.unusedSimpArgs false

def seenB (X : List Nat) : Nat → Nat → Bool
  | 0, _ => false
  | k + 1, v => (nth X k == v) || seenB X k v
def dupB (X : List Nat) : Nat → Bool
  | 0 => false
  | k + 1 => dupB X k || seenB X k (nth X k)
theorem dupB_mono (X : List Nat) (k n : Nat) (h : k ≤ n) (hd : dupB X k = true) : dupB X n = true := by
  induction n with
  | zero => obtain rfl : k = 0 := by omega
            exact hd
  | succ n ih =>
    by_cases e : k = n + 1
    · subst e; exact hd
    · simp only [dupB, Bool.or_eq_true]; exact .inl (ih (by omega))
def boolZ : Array Value := Array.replicate 256 (.bool false)
theorem zero_bools (w : World) : (zeroValue 57).run Try.prog w = .ok (.agg boolZ) w := by kernel_rfl
/-- block g: which numbers have come -/
structure Seen (w : World) (g : Nat) (X : List Nat) (k : Nat) (A : Array Value) : Prop where
  blk : w.heap[g]? = some (.cells A 57)
  size : A.size = 256
  val : ∀ v, v < 256 → A[v]? = some (.bool (seenB X k v))
theorem dup_any (a : Option Addr) (n cap : Nat) (X : List Nat) (w : World) (hp : Rd w a n cap X) (hn : n ≤ 255) :
    Calls Try.prog 47 #[.slice a n cap] w fun e w' => e = .returned (.bool (dupB X n)) ∧ w.grownBy w' none := by
  have hz := zero_bools
  have hS0 : Seen (w.alloc (.cells boolZ 57)) w.heap.size X 0 boolZ := ⟨heap_alloc_new w _, by simp [boolZ], fun v hv => by simp [boolZ, seenB, hv]⟩
  go_enter Try.func47, Try.ntmps47
  go_wp2
  clear hz
  go_loopw [8] (fun i wr => ∃ k : Nat, k ≤ n ∧ i = .int .i64 k ∧ w.grownBy wr none ∧ dupB X k = false ∧ ∃ A, Seen wr w.heap.size X k A) (fun i _ => n - (intOf i).toNat)
  case atStart => exact ⟨0, by omega, rfl, World.grownBy_alloc _ _ _, rfl, _, hS0⟩
  case round =>
    obtain ⟨k, hk, rfl, hgr, hd, A, hS⟩ := hrel
    have HD : Hid (dupB X k = false) := hd
    clear hd hS0
    by_cases hlt : k < n
    · obtain ⟨b, off, rfl, hbw, hcc⟩ := (hp.keep hgr).at' (by omega)
      have hck := hcc k hlt
      have hv := hp.byte.nth k
      have hcv : wr.cell? ⟨w.heap.size, nth X k, none⟩ = some (.bool (seenB X k (nth X k))) := by rw [cell_of_row _ _ _ _ _ _ hS.blk]; exact hS.val _ hv
      have hfv : wr.frozen? ⟨w.heap.size, nth X k, none⟩ = false := frozen_of_row _ _ _ _ _ hS.blk
      clear hcc
      cases hs : seenB X k (nth X k) with
      | true =>
        have HT : Hid (dupB X n = true) := dupB_mono X (k + 1) n (by omega) (by simp only [dupB, hs, Bool.or_true])
        rw [hs] at hcv
        clear hs
        go_wp2
        go_ret
        exact ⟨by rw [HT.out]; rfl, hgr⟩
      | false =>
        rw [hs] at hcv
        have HF : Hid (dupB X (k + 1) = false) := by show _ = _; simp only [dupB, hs, HD.out]; rfl
        clear hs
        go_wp2
        go_roundw
        case rel =>
          refine ⟨k + 1, by omega, by go_num, new_then hgr (grown_set _ _ _ _), HF, A.setIfInBounds (nth X k) (.bool true), ⟨heap_setCell_same _ _ _ _ _ _ hS.blk, by rw [Array.size_setIfInBounds]; exact hS.size, fun v hv' => ?_⟩⟩
          rw [Array.getElem?_setIfInBounds]
          by_cases e : nth X k = v
          · rw [if_pos e, if_pos (by rw [hS.size]; exact hv)]; simp [seenB, e]
          · rw [if_neg e, hS.val v hv']; simp [seenB, e]
        case measure => simp [intOf]; omega
    · obtain rfl : k = n := by omega
      go_wp2
      go_ret
      exact ⟨by rw [HD.out]; rfl, hgr⟩
end Go.Proofs.Ytemlkgllbioigaa
