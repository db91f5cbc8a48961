import Derived.Test.YtpenggkefbbopaaDoorFSums
namespace Go.Proofs.YtpenggkefbbopaaDoor
open Go.RowKit
set_option maxRecDepth 100000
set_option linter.unusedVariables false
set_option linter.unusedSimpArgs false

/-- the value, the highest coefficient first: k rounds -/
def horN (P : List Nat) (x : Nat) : Nat → Nat
  | 0 => 0
  | k + 1 => Fld.mul (horN P x k) x ^^^ nth P (P.length - 1 - k)
def atL (P : List Nat) (x : Nat) : Nat := horN P x P.length
theorem horN_lt {P : List Nat} (hP : IsB P) (x k : Nat) : horN P x k < 256 := by
  induction k with
  | zero => simp [horN]
  | succ k ih => exact Fld.xor_lt (Fld.mul_lt _ ih) (hP.nth _)

theorem at_anyQ (a : Option Addr) (n cap x : Nat) (P : List Nat) (w : World) (hp : Rd w a n cap P) (hx : x < 256) (hn : n ≤ 140737488351232) :
    Calls Tryd.prog 28 #[.slice a n cap, .int .u8 x] w fun e w' => e = .returned (.int .u8 (atL P x)) ∧ ∃ q, w' = w.drewN q := by
  have HL : Hid (P.length = n) := hp.len
  go_enter Tryd.func28, Tryd.ntmps28
  go_wp2
  go_loopw [5, 9] (fun v i wr => ∃ k : Nat, k ≤ n ∧ i = .int .i64 k ∧ v = .int .u8 (horN P x k) ∧ ∃ q, wr = w.drewN q) (fun _ i _ => n - (intOf i).toNat)
  case atStart => exact ⟨0, by omega, rfl, rfl, 0, rfl⟩
  case round =>
    obtain ⟨k, hk, rfl, rfl, q, hwq⟩ := hrel
    have HW : Hid (wr = w.drewN q) := hwq
    have hgr : w.grownBy wr none := by rw [hwq]; exact grown_drewN _ _ _
    clear hwq
    have hv := horN_lt hp.byte x k
    by_cases hlt : k < n
    · obtain ⟨b, off, rfl, hbw, hcc⟩ := (hp.keep hgr).at' (by omega)
      have hck := hcc (n - 1 - k) (by omega)
      have hxr := u8_xor_nat (Fld.mul (horN P x k) x) (nth P (n - 1 - k)) (Fld.mul_lt _ hv) (hp.byte.nth _)
      have HS : Hid (horN P x (k + 1) = Fld.mul (horN P x k) x ^^^ nth P (n - 1 - k)) := by show _ = _; simp only [horN]; rw [HL.out]
      clear hcc
      go_wp2
      go_quiet ((go_at_call 23; exact Calls.quiet_of_same (mul_any _ _ hv hx _)))
      go_wp2
      go_roundw
      case rel => exact ⟨k + 1, by omega, by go_num, by rw [HS.out], q + nq, by rw [HW.out, World.drewN_drewN]⟩
      case measure => simp [intOf]; omega
    · obtain rfl : k = n := by omega
      go_wp2
      go_ret
      exact ⟨by unfold atL; rw [HL.out]; rfl, q, HW⟩

theorem at_any (a : Option Addr) (n cap x : Nat) (P : List Nat) (w : World) (hp : Rd w a n cap P) (hx : x < 256) (hn : n ≤ 140737488351232) :
    Calls Tryd.prog 28 #[.slice a n cap, .int .u8 x] w fun e w' => e = .returned (.int .u8 (atL P x)) ∧ w.grownBy w' none := by
  refine (at_anyQ a n cap x P w hp hx hn).mono ?_
  rintro e w' ⟨rfl, q, rfl⟩
  exact ⟨rfl, grown_drewN _ _ _⟩
end Go.Proofs.YtpenggkefbbopaaDoor
