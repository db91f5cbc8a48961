import Derived.Test.YtbgbohddkfaacaaCOnes
namespace Go.Proofs.Ytbgbohddkfaacaa
open Go.RowKit
set_option maxRecDepth 100000
set_option linter.unusedVariables false
set_option linter.unusedSimpArgs false

/-- the rates' rows (P3.2) -/
def pF (r : Nat) : ByteArray := if r = 1 then ⟨#[49]⟩ else if r = 2 then ⟨#[49, 48]⟩ else if r = 3 then ⟨#[49, 48, 49]⟩ else if r = 4 then ⟨#[49, 48, 49, 48, 49]⟩ else if r = 5 then ⟨#[49, 48, 48, 48, 49, 48, 49]⟩ else ⟨#[]⟩
def pS (r : Nat) : ByteArray := if r = 1 then ⟨#[49]⟩ else if r = 2 then ⟨#[49, 49]⟩ else if r = 3 then ⟨#[49, 49, 48]⟩ else if r = 4 then ⟨#[49, 49, 48, 49, 48]⟩ else if r = 5 then ⟨#[49, 49, 49, 49, 48, 49, 48]⟩ else ⟨#[]⟩
def patV (r : Nat) : Value := .agg #[.string (pF r), .string (pS r)]
theorem kept_any (r : Nat) (hr : r ≤ 5) (w : World) : Calls Try.prog 38 #[.int .i64 r] w fun e w' => e = .returned (patV r) ∧ w.grownBy w' none := by
  go_enter Try.func38, Try.ntmps38
  rcases (by omega : r = 0 ∨ r = 1 ∨ r = 2 ∨ r = 3 ∨ r = 4 ∨ r = 5) with rfl | rfl | rfl | rfl | rfl | rfl
  all_goals
    go_wp2
    refine bodyPost_ret (v := patV _) (by simp [results, Try.results38, go_sem, patV, pF, pS]) rfl ⟨rfl, World.grownBy_alloc _ _ _⟩
def bAt (s : ByteArray) (i : Nat) : Nat := (s.data.getD i 0).toNat
theorem bAt_of (s : ByteArray) (i : Nat) (h : i < s.size) : (s[i]'h).toNat = bAt s i := by
  unfold bAt
  have h' : i < s.data.size := h
  rw [Array.getD, dif_pos h']
  rfl
/-- is the symbol of step k kept by this row? -/
def kb (s : ByteArray) (k : Nat) : Bool := ((bAt s (k % s.size) : Int) == 49)
theorem kb_of (s : ByteArray) (k m : Nat) (hm : m = s.size) (h : k % m < s.size) : (((s[k % m]'h).toNat : Int) == 49) = kb s k := by
  subst hm
  unfold kb
  rw [bAt_of]
theorem two_bools {a b c d : Bool} (h : a = c) (h' : b = d) : Ending.returned (.tuple #[.bool a, .bool b]) = Ending.returned (.tuple #[.bool c, .bool d]) := by rw [h, h']
theorem one_bool {a c : Bool} (h : a = c) : Ending.returned (.bool a) = Ending.returned (.bool c) := by rw [h]
theorem at_any (a b : ByteArray) (k : Nat) (hk : k < 100000) (ha : 0 < a.size) (hb : b.size = a.size) (w : World) : Calls Try.prog 52 #[.agg #[.string a, .string b], .int .i64 k] w fun e w' => e = .returned (.tuple #[.bool (kb a k), .bool (kb b k)]) ∧ w.grownBy w' none := by
  go_enter Try.func52, Try.ntmps52
  have hi : (k : Int) % (a.size : Int) < (a.size : Int) := Int.emod_lt_of_pos _ (by omega)
  have hj : (k : Int) % (a.size : Int) < (b.size : Int) := by rw [hb]; exact hi
  have h0 : 0 ≤ (k : Int) % (a.size : Int) := Int.emod_nonneg _ (by omega)
  have HB : Hid (b.size = a.size) := hb
  clear hb
  go_wp2
  go_quiet (fail)
  go_wp2
  go_ret2
  refine ⟨?_, grown_trans (World.grownBy_alloc _ _ _) (grown_drewN _ _ _)⟩
  exact two_bools (kb_of a k a.size rfl _) (kb_of b k a.size HB.out.symm _)
theorem pat_size (r : Nat) (h1 : 1 ≤ r) (h2 : r ≤ 5) : 0 < (pF r).size ∧ (pS r).size = (pF r).size := by
  rcases (by omega : r = 1 ∨ r = 2 ∨ r = 3 ∨ r = 4 ∨ r = 5) with rfl | rfl | rfl | rfl | rfl <;> exact ⟨by decide, by decide⟩
theorem keep_any (r k : Nat) (hk : k < 100000) (h1 : 1 ≤ r) (h2 : r ≤ 5) (w : World) : Calls Try.prog 52 #[patV r, .int .i64 k] w fun e w' => e = .returned (.tuple #[.bool (kb (pF r) k), .bool (kb (pS r) k)]) ∧ w.grownBy w' none :=
  at_any (pF r) (pS r) k hk (pat_size r h1 h2).1 (pat_size r h1 h2).2 w
theorem rkept_any (r k : Nat) (b : Bool) (hk : k < 100000) (h1 : 1 ≤ r) (h2 : r ≤ 5) (w : World) : Calls Try.prog 37 #[.int .i64 r, .int .i64 k, .bool b] w fun e w' => e = .returned (.bool (if b then kb (pS r) k else kb (pF r) k)) ∧ w' = w := by
  have P := pat_size r h1 h2
  rcases (by omega : r = 1 ∨ r = 2 ∨ r = 3 ∨ r = 4 ∨ r = 5) with rfl | rfl | rfl | rfl | rfl
  all_goals
    cases b
    all_goals
      go_enter Try.func37, Try.ntmps37
      go_wp2
      go_ret
      refine ⟨one_bool ?_, rfl⟩
      first
        | exact kb_of _ _ _ rfl _
        | (show _ = ((bAt _ (k % 1) : Int) == 49); rw [Nat.mod_one]; rfl)
def kn (b : Bool) : Nat := if b then 1 else 0
/-- how many symbols of n steps are kept -/
def cntN (r : Nat) : Nat → Nat
  | 0 => 0
  | n + 1 => cntN r n + kn (kb (pF r) n) + kn (kb (pS r) n)
theorem kn_le (b : Bool) : kn b ≤ 1 := by cases b <;> decide
theorem cntN_le (r n : Nat) : cntN r n ≤ 2 * n := by
  induction n with
  | zero => exact Nat.le_refl 0
  | succ n ih => have h1 := kn_le (kb (pF r) n); have h2 := kn_le (kb (pS r) n); unfold cntN; omega
end Go.Proofs.Ytbgbohddkfaacaa
