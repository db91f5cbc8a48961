import Derived.Test.YtemlkgllbioigaaFThr
namespace Go.Proofs.Ytemlkgllbioigaa
open Go.RowKit
set_option maxRecDepth 100000
set_option linter.unusedVariables false
set_option linter.unusedSimpArgs false

theorem seen_mono (X : List Nat) (j i v : Nat) (h : j ≤ i) (hs : seenB X j v = true) : seenB X i v = true := by
  induction i with
  | zero => obtain rfl : j = 0 := by omega
            exact hs
  | succ i ih =>
    by_cases e : j = i + 1
    · subst e; exact hs
    · simp only [seenB, Bool.or_eq_true]; exact .inr (ih (by omega))
theorem rthr_len (a b : Option Addr) (n m cap cap' : Nat) (w : World) (hn : n ≤ 9223372036854775807) (hm : m ≤ 9223372036854775807) (h : n ≠ m ∨ 255 < n) :
    Calls Try.prog 32 #[.slice a n cap, .slice b m cap'] w fun e w' => e = .returned (.tuple #[.slice none 0 0, .int .i64 1]) ∧ w' = w := by
  by_cases h1 : n = m
  · subst h1
    have h2 : 255 < n := by omega
    go_enter Try.func32, Try.ntmps32
    go_wp2
    go_ret2
    exact ⟨rfl, rfl⟩
  · have hb : ((n : Int) != (m : Int)) = true := by simp; omega
    go_enter Try.func32, Try.ntmps32
    go_wp2
    go_ret2
    exact ⟨rfl, rfl⟩
set_option maxHeartbeats 1000000 in
theorem rthr_dup (a b : Option Addr) (n cap cap' : Nat) (X : List Nat) (w : World) (hX : Rd w a n cap X) (hn : n ≤ 255) (hd : dupB X n = true) :
    Calls Try.prog 32 #[.slice a n cap, .slice b n cap'] w fun e w' => e = .returned (.tuple #[.slice none 0 0, .int .i64 4]) ∧ w.grownBy w' none := by
  have HDn : Hid (dupB X n = true) := hd
  clear hd
  go_enter Try.func32, Try.ntmps32
  go_wp2
  go_loopw [6] (fun i wr => ∃ k : Nat, k ≤ n ∧ i = .int .i64 k ∧ w.grownBy wr none ∧ dupB X k = false) (fun i _ => n - (intOf i).toNat)
  case atStart => exact ⟨0, by omega, rfl, World.grownBy.refl _ _, rfl⟩
  case round =>
    obtain ⟨k, hk, rfl, hgr, hd⟩ := hrel
    have HD : Hid (dupB X k = false) := hd
    clear hd
    by_cases hlt : k < n
    · obtain ⟨b1, off1, rfl, hbw1, _⟩ := hX.at' (by omega)
      obtain ⟨wo, rfl⟩ : ∃ wo : World, wo = wr := ⟨_, rfl⟩
      go_wp2
      go_loopw [7] (fun i wr => ∃ j : Nat, j ≤ k ∧ i = .int .i64 j ∧ w.grownBy wr none ∧ seenB X j (nth X k) = false) (fun i _ => k - (intOf i).toNat)
      case atStart => exact ⟨0, by omega, rfl, hgr, rfl⟩
      case round =>
        obtain ⟨j, hj, rfl, hgj, hs⟩ := hrel
        have HS : Hid (seenB X j (nth X k) = false) := hs
        clear hs
        by_cases hjk : j < k
        · obtain ⟨_, _, e1, _, hcc⟩ := (hX.keep hgj).at' (by omega)
          cases e1
          have hck := hcc k hlt
          have hcj := hcc j (by omega)
          clear hcc
          by_cases he : nth X k = nth X j
          · have hb : ((nth X k : Int) == (nth X j : Int)) = true := by rw [he]; simp
            clear he
            go_wp2
            go_quiet (fail)
            go_wp2
            go_ret2
            exact ⟨rfl, grown_trans hgj (grown_drewN _ _ _)⟩
          · have hb : ((nth X k : Int) == (nth X j : Int)) = false := by simp; omega
            have HS' : Hid (seenB X (j + 1) (nth X k) = false) := by show _ = _; simp only [seenB, HS.out, Bool.or_false]; simp; omega
            clear he
            go_wp2
            go_quiet (fail)
            go_wp2
            go_roundw
            case rel => exact ⟨j + 1, by omega, by go_num, grown_trans hgj (grown_drewN _ _ _), HS'⟩
            case measure => simp [intOf]; omega
        · obtain rfl : j = k := by omega
          have HD' : Hid (dupB X (j + 1) = false) := by show _ = _; simp only [dupB, HD.out, HS.out]; rfl
          go_wp2
          go_roundw
          case rel => exact ⟨j + 1, by omega, by go_num, hgj, HD'⟩
          case measure => simp [intOf]; omega
    · obtain rfl : k = n := by omega
      have h1 := HD.out
      rw [HDn.out] at h1
      cases h1
end Go.Proofs.Ytemlkgllbioigaa
