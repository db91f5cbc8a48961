import Derived.Test.YtkeegebhobklcaaFSums
namespace Go.Proofs.Ytkeegebhobklcaa
open Go.RowKit
set_option maxRecDepth 100000
set_option linter.unusedVariables false
set_option linter.unusedSimpArgs false

/-- the value, the highest coefficient first: k rounds -/
def horN (P : List Nat) (x : Nat) : Nat → Nat
  | 0 => 0
  | k + 1 => Fld.mul (horN P x k) x ^^^ nth P (P.length - 1 - k)
def atL (P : List Nat) (x : Nat) : Nat := horN P x P.length
theorem horN_lt {P : List Nat} (hP : IsB P) (x k : Nat) : horN P x k < 256 := by
  induction k with
  | zero => simp [horN]
  | succ k ih => exact Fld.xor_lt (Fld.mul_lt _ ih) (hP.nth _)

theorem at_any (a : Option Addr) (n cap x : Nat) (P : List Nat) (w : World) (hp : Rd w a n cap P) (hx : x < 256) (hn : n ≤ 140737488351232) :
    Calls Try.prog 26 #[.slice a n cap, .int .u8 x] w fun e w' => e = .returned (.int .u8 (atL P x)) ∧ w.grownBy w' none := by
  have HL : Hid (P.length = n) := hp.len
  go_enter Try.func26, Try.ntmps26
  go_wp2
  go_loopw [5, 9] (fun v i wr => ∃ k : Nat, k ≤ n ∧ i = .int .i64 k ∧ v = .int .u8 (horN P x k) ∧ w.grownBy wr none) (fun _ i _ => n - (intOf i).toNat)
  case atStart => exact ⟨0, by omega, rfl, rfl, World.grownBy.refl _ _⟩
  case round =>
    obtain ⟨k, hk, rfl, rfl, hgr⟩ := hrel
    have hv := horN_lt hp.byte x k
    by_cases hlt : k < n
    · obtain ⟨b, off, rfl, hbw, hcc⟩ := (hp.keep hgr).at' (by omega)
      have hck := hcc (n - 1 - k) (by omega)
      have hxr := u8_xor_nat (Fld.mul (horN P x k) x) (nth P (n - 1 - k)) (Fld.mul_lt _ hv) (hp.byte.nth _)
      have HS : Hid (horN P x (k + 1) = Fld.mul (horN P x k) x ^^^ nth P (n - 1 - k)) := by show _ = _; simp only [horN]; rw [HL.out]
      clear hcc
      go_wp2
      go_quiet ((go_at_call 13; exact Calls.quiet_of_same (mul_any _ _ hv hx _)))
      go_wp2
      go_roundw
      case rel => exact ⟨k + 1, by omega, by go_num, by rw [HS.out], grown_trans hgr (grown_drewN _ _ _)⟩
      case measure => simp [intOf]; omega
    · obtain rfl : k = n := by omega
      go_wp2
      go_ret
      exact ⟨by unfold atL; rw [HL.out]; rfl, hgr⟩

theorem rat_any (a : Option Addr) (n cap x : Nat) (P : List Nat) (w : World) (hp : Rd w a n cap P) (hx : x < 256) (hn : n ≤ 140737488351232) :
    Calls Try.prog 27 #[.slice a n cap, .int .u8 x] w fun e w' => e = .returned (.int .u8 (atL P x)) ∧ w.grownBy w' none := by
  have HL : Hid (P.length = n) := hp.len
  go_enter Try.func27, Try.ntmps27
  go_wp2
  go_loopw [5, 6] (fun v i wr => ∃ k : Nat, k ≤ n ∧ i = .int .i64 ((n : Int) - 1 - k) ∧ v = .int .u8 (horN P x k) ∧ w.grownBy wr none) (fun _ i _ => (intOf i + 1).toNat)
  case atStart => exact ⟨0, by omega, by go_num, rfl, World.grownBy.refl _ _⟩
  case round =>
    obtain ⟨k, hk, rfl, rfl, hgr⟩ := hrel
    have hv := horN_lt hp.byte x k
    by_cases hlt : k < n
    · obtain ⟨b, off, rfl, hbw, hcc⟩ := (hp.keep hgr).at' (by omega)
      have hck := hcc (n - 1 - k) (by omega)
      have hxr := u8_xor_nat (Fld.mul (horN P x k) x) (nth P (n - 1 - k)) (Fld.mul_lt _ hv) (hp.byte.nth _)
      have HS : Hid (horN P x (k + 1) = Fld.mul (horN P x k) x ^^^ nth P (n - 1 - k)) := by show _ = _; simp only [horN]; rw [HL.out]
      clear hcc
      go_wp2
      go_quiet ((go_at_call 14; exact Calls.quiet_of_same (rmul_any _ _ hv hx _)))
      go_wp2
      go_roundw
      case rel => exact ⟨k + 1, by omega, by go_num, by rw [HS.out], grown_trans hgr (grown_drewN _ _ _)⟩
      case measure => simp [intOf]; omega
    · obtain rfl : k = n := by omega
      go_wp2
      go_ret
      exact ⟨by unfold atL; rw [HL.out]; rfl, hgr⟩
end Go.Proofs.Ytkeegebhobklcaa
