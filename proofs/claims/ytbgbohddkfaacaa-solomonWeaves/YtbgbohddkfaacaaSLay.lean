import Derived.Test.YtbgbohddkfaacaaSPick
namespace Go.Proofs.Ytbgbohddkfaacaa
open Go.RowKit
set_option maxRecDepth 100000
set_option linter.unusedVariables false
set_option linter.unusedSimpArgs false

theorem lay_any (g N capN m cb at_ d : Nat) (b : Option Addr) (D R : List Nat) (w : World) (hB : Blk w g D) (hD : IsB D) (hr : Rd w b m cb R) (hne : 0 < m → ∀ b' off, b = some ⟨b', off, none⟩ → some b' ≠ some g)
    (hat : at_ < d) (hd : d ≤ 8) (hm : m ≤ 255) (hN : D.length = N) (hfit : m * d ≤ N) :
    Calls Try.prog 34 #[.slice (some ⟨g, 0, none⟩) N capN, .slice b m cb, .int .i64 at_, .int .i64 d] w fun e w' => e = .returned (.tuple #[]) ∧ Blk w' g (layN D R at_ d m) ∧ w.grownBy w' (some g) := by
  have HN : Hid (D.length = N) := hN
  have HF : Hid (m * d ≤ N) := hfit
  clear hN hfit
  go_enter Try.func34, Try.ntmps34
  go_wp2
  go_loopw [12] (fun i wr => ∃ k : Nat, k ≤ m ∧ i = .int .i64 k ∧ w.grownBy wr (some g) ∧ Blk wr g (layN D R at_ d k)) (fun i _ => m - (intOf i).toNat)
  case atStart => exact ⟨0, by omega, rfl, World.grownBy.refl _ _, hB⟩
  case round =>
    obtain ⟨k, hk, rfl, hgr, hBk⟩ := hrel
    by_cases hlt : k < m
    · obtain ⟨b1, off1, rfl, hbw1, hcc⟩ := (hr.grown' hgr hne).at' (by omega)
      have hck := hcc k hlt
      have hbk := hr.byte.nth k
      obtain ⟨x, hx⟩ : ∃ x, x = k * d := ⟨_, rfl⟩
      have hxN : x + at_ < N := by
        have h1 : (k + 1) * d ≤ m * d := Nat.mul_le_mul_right _ (by omega)
        rw [Nat.add_mul] at h1
        have := HF.out
        omega
      have hx8 : x ≤ 2040 := by rw [hx]; exact Nat.le_trans (Nat.mul_le_mul (show k ≤ 255 by omega) hd) (by decide)
      have hxz : (k : Int) * (d : Int) = (x : Int) := by rw [hx, Int.natCast_mul]
      have hcx := hBk.cell (x + at_) (by rw [layN_len, HN.out]; exact hxN)
      have hfx := hBk.free (x + at_)
      have hS := hBk.set (x + at_) (nth R k)
      have hto : ((x : Int) + (at_ : Int)).toNat = x + at_ := by omega
      have hixn : (x : Int) + (at_ : Int) < (N : Int) := by omega
      have HX : Hid (x = k * d) := hx
      clear hx hcc
      go_wp2
      go_roundw
      case rel => exact ⟨k + 1, by omega, by go_num, grown_trans hgr (grown_set _ _ _ _), by have e := HX.out; rw [e] at hS; rw [e]; exact hS⟩
      case measure => simp [intOf]; omega
    · obtain rfl : k = m := by omega
      go_wp2
      go_end0
      exact ⟨rfl, hBk, hgr⟩
theorem splits_yes (n d : Nat) (w : World) (h1 : 1 ≤ d) (h2 : d ≤ 8) (hn : n ≤ 9223372036854775807) (h : n % d = 0) :
    Calls Try.prog 33 #[.int .i64 n, .int .i64 d] w fun e w' => e = .returned (.bool true) ∧ w' = w := by
  have hr : (n : Int) % (d : Int) = 0 := by have := congrArg (fun x : Nat => (x : Int)) h; simpa using this
  have hr2 : (n : Int).tmod (d : Int) = 0 := by rw [Int.tmod_eq_emod_of_nonneg (by omega)]; exact hr
  have hdz : ((d : Int) == 0) = false := by simp; omega
  clear h
  go_enter Try.func33, Try.ntmps33
  go_wp2
  go_ret
  exact ⟨rfl, rfl⟩
theorem splits_no (n : Nat) (d : Int) (w : World) (hn : n ≤ 9223372036854775807) (h : ¬ (1 ≤ d ∧ d ≤ 8 ∧ n % d.toNat = 0)) :
    Calls Try.prog 33 #[.int .i64 n, .int .i64 d] w fun e w' => e = .returned (.bool false) ∧ w' = w := by
  by_cases h1 : 1 ≤ d
  · by_cases h2 : d ≤ 8
    · obtain ⟨k, rfl⟩ := Int.eq_ofNat_of_zero_le (a := d) (by omega)
      have h3 : ¬ n % k = 0 := fun e => h ⟨h1, h2, by rw [Int.toNat_natCast]; exact e⟩
      have hr : ((n : Int) % (k : Int) == 0) = false := by
        have : ((n % k : Nat) : Int) ≠ 0 := by omega
        simpa using this
      have hr2 : ((n : Int).tmod (k : Int) == 0) = false := by rw [Int.tmod_eq_emod_of_nonneg (by omega)]; exact hr
      have hdz : ((k : Int) == 0) = false := by simp; omega
      clear h h3
      go_enter Try.func33, Try.ntmps33
      go_wp2
      go_ret
      exact ⟨rfl, rfl⟩
    · clear h
      go_enter Try.func33, Try.ntmps33
      go_wp2
      go_ret
      exact ⟨rfl, rfl⟩
  · clear h
    go_enter Try.func33, Try.ntmps33
    go_wp2
    go_ret
    exact ⟨rfl, rfl⟩
end Go.Proofs.Ytbgbohddkfaacaa
