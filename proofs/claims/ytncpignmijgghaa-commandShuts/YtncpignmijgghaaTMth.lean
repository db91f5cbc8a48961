import Derived.Test.YtncpignmijgghaaSRev
namespace Go.Proofs.Ytncpignmijgghaa
open Go.RowKit
set_option maxRecDepth 100000
set_option linter.unusedVariables false
set_option linter.unusedSimpArgs false

/-- how many bits of a byte are set -/
def pop8 (x : Nat) : Nat := x % 2 + x / 2 % 2 + x / 4 % 2 + x / 8 % 2 + x / 16 % 2 + x / 32 % 2 + x / 64 % 2 + x / 128 % 2
/-- the next bit of the row, told by the eight that are there; a step of the register -/
def parN (x : Nat) : Nat := (x + x / 4 + x / 16 + x / 128) % 2
def stpN (x : Nat) : Nat := (2 * x + parN x) % 256
def itN (x : Nat) : Nat → Nat
  | 0 => x
  | k + 1 => stpN (itN x k)
theorem stpN_lt (x : Nat) : stpN x < 256 := Nat.mod_lt _ (by decide)
theorem itN_lt (x : Nat) (hx : x < 256) (k : Nat) : itN x k < 256 := by
  cases k with
  | zero => exact hx
  | succ k => exact stpN_lt _
theorem itN_add (x a b : Nat) : itN x (a + b) = itN (itN x a) b := by
  induction b with
  | zero => rfl
  | succ b ih => show stpN (itN x (a + b)) = stpN _; rw [ih]
/-- the register behind n bits; the row's byte i, its bit n -/
def rgS (n : Nat) : Nat := itN 255 n
def rowN (i : Nat) : Nat := rgS (8 * i)
def sbN (n : Nat) : Nat := rgS n / 128
theorem rgS_lt (n : Nat) : rgS n < 256 := itN_lt 255 (by decide) n
theorem rowN_lt (i : Nat) : rowN i < 256 := rgS_lt _
theorem sbN_lt (n : Nat) : sbN n < 2 := by have := rgS_lt n; unfold sbN; omega
theorem rowN_succ (i : Nat) : rowN (i + 1) = itN (rowN i) 8 := by
  unfold rowN rgS; rw [show 8 * (i + 1) = 8 * i + 8 from by omega, itN_add]
theorem stp_bits : ∀ x : Nat, x < 256 → (∀ j, j < 7 → stpN x / 2 ^ (j + 1) % 2 = x / 2 ^ j % 2) ∧ stpN x % 2 = parN x := by decide +kernel
theorem reg_bit (n : Nat) : ∀ j, j < 8 → rgS n / 2 ^ (7 - j) % 2 = sbN (n + j) := by
  intro j
  induction j generalizing n with
  | zero =>
    intro _
    have := rgS_lt n
    show rgS n / 128 % 2 = rgS n / 128
    omega
  | succ j ih =>
    intro hj
    have h := ih (n + 1) (by omega)
    have e : rgS (n + 1) = stpN (rgS n) := rfl
    rw [e, show 7 - j = (7 - (j + 1)) + 1 from by omega, (stp_bits (rgS n) (rgS_lt n)).1 _ (by omega)] at h
    rw [h]; congr 1; omega
theorem row_bit (i j : Nat) (hj : j < 8) : rowN i / 2 ^ (7 - j) % 2 = sbN (8 * i + j) := reg_bit (8 * i) j hj
theorem sb_first (n : Nat) (h : n < 8) : sbN n = 1 := by
  revert h; revert n; decide +kernel
theorem sb_next (n : Nat) : sbN (n + 8) = (sbN (n + 7) + sbN (n + 5) + sbN (n + 3) + sbN n) % 2 := by
  have h7 := reg_bit n 7 (by decide)
  have h5 := reg_bit n 5 (by decide)
  have h3 := reg_bit n 3 (by decide)
  have h0 := reg_bit n 0 (by decide)
  have h8 := reg_bit (n + 1) 7 (by decide)
  have e : rgS (n + 1) = stpN (rgS n) := rfl
  rw [e] at h8
  have hs := (stp_bits (rgS n) (rgS_lt n)).2
  have hp : parN (rgS n) = (rgS n + rgS n / 4 + rgS n / 16 + rgS n / 128) % 2 := rfl
  simp only [Nat.sub_self, Nat.pow_zero, Nat.div_one, show 7 - 5 = 2 from rfl, show 7 - 3 = 4 from rfl, show 7 - 0 = 7 from rfl, show (2:Nat) ^ 2 = 4 from rfl, show (2:Nat) ^ 4 = 16 from rfl, show (2:Nat) ^ 7 = 128 from rfl, Nat.add_zero] at h7 h5 h3 h0 h8
  rw [show n + 1 + 7 = n + 8 from by omega] at h8
  have := rgS_lt n
  omega
theorem xor4 : ∀ a b c d : Nat, a < 2 → b < 2 → c < 2 → d < 2 → ((a ^^^ b) ^^^ c) ^^^ d = (a + b + c + d) % 2 := by
  intro a b c d ha hb hc hd
  have e : ∀ a, a < 2 → ∀ b, b < 2 → ∀ c, c < 2 → ∀ d, d < 2 → ((a ^^^ b) ^^^ c) ^^^ d = (a + b + c + d) % 2 := by decide
  exact e a ha b hb c hc d hd

/-! the program's row -/
end Go.Proofs.Ytncpignmijgghaa
