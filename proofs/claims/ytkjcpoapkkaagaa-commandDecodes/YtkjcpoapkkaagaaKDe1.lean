import Derived.Test.YtkjcpoapkkaagaaKOr3
import Derived.Test.YtkjcpoapkkaagaaNUn2
namespace Go.Proofs.Ytkjcpoapkkaagaa
open Go.RowKit
set_option maxRecDepth 100000
set_option linter.unusedVariables false
set_option linter.unusedSimpArgs false

theorem knum_any (h l : Nat) (w : World) (hh : h < 256) (hl : l < 256) : Calls Try.prog 54 #[.int .u8 h, .int .u8 l] w fun e w' => e = .returned (.int .i64 (h * 256 + l : Nat)) ∧ w' = w := by
  have hA : bits .or .i64 ((h : Int) * 256) (l : Int) = ((h * 256 + l : Nat) : Int) := by
    rw [show ((h : Int) * 256) = ((h * 2 ^ 8 : Nat) : Int) by omega, or_put _ _ 8 (by omega) (by omega) (by omega)]
  generalize h * 256 + l = x at hA ⊢
  go_enter Try.func54, Try.ntmps54
  go_wp2
  go_ret
  exact ⟨rfl, rfl⟩
/-- how many bytes are told -/
def toN (B : List Nat) : Nat := (nth B 2 * 256 + nth B 3) % 1024 + 1
set_option maxHeartbeats 2000000 in
theorem told_any (a : Option Addr) (n c : Nat) (B : List Nat) (w : World) (hR : Rd w a n c B) (hn : 8 ≤ n) : Calls Try.prog 52 #[.slice a n c] w fun e w' => e = .returned (.int .i64 (toN B : Nat)) ∧ w.grownBy w' none := by
  obtain ⟨b, off, rfl, hbw, hcc⟩ := hR.at' (by omega)
  have x2 := hcc 2 (by omega)
  have x3 := hcc 3 (by omega)
  have b2 := hR.byte.nth 2
  have b3 := hR.byte.nth 3
  unfold toN
  have hle := hR.le
  have hmx := hR.max
  unfold maxLen at hmx
  clear hcc hR
  generalize nth B 2 = x at x2 b2 ⊢
  generalize nth B 3 = y at x3 b3 ⊢
  have hN := fun wz => knum_any x y wz b2 b3
  have hl : x * 256 + y < 65536 := by omega
  generalize x * 256 + y = N at hN hl ⊢
  have hA : bits .and .i64 (N : Int) 1023 = ((N % 1024 : Nat) : Int) := i64_low N 10 (by omega) (by decide)
  have hlt : N % 1024 < 1024 := Nat.mod_lt _ (by decide)
  generalize N % 1024 = z at hA hlt ⊢
  have i2 : (2 : Int) < (n : Int) := by omega
  have i3 : (3 : Int) < (n : Int) := by omega
  go_enter Try.func52, Try.ntmps52
  go_wp2
  go_quiet ((go_at_call 54; exact Calls.quiet_of_same (hN _)))
  go_wp2
  go_ret
  exact ⟨rfl, grown_drewN w _ none⟩
/-- the name that is told -/
def nmN (B : List Nat) : Nat := nth B 0 * 256 + nth B 1
set_option maxHeartbeats 4000000 in
theorem rhead_any (a : Option Addr) (n c : Nat) (B : List Nat) (w : World) (hR : Rd w a n c B) (hn : 8 ≤ n) : Calls Try.prog 55 #[.slice a n c] w fun e w' => e = .returned (.agg (orA (nmN B % 1024 : Nat) (decide (nmN B / 8192 % 2 = 1)) (decide (nmN B / 4096 % 2 = 1)) (nth B 4 : Nat) none 0 0)) ∧ w.grownBy w' none := by
  obtain ⟨b, off, rfl, hbw, hcc⟩ := hR.at' (by omega)
  have x0 := hcc 0 (by omega)
  have x1 := hcc 1 (by omega)
  have x4 := hcc 4 (by omega)
  rw [Nat.add_zero] at x0
  have b0 := hR.byte.nth 0
  have b1 := hR.byte.nth 1
  have b4 := hR.byte.nth 4
  unfold nmN
  have hle := hR.le
  have hmx := hR.max
  unfold maxLen at hmx
  clear hcc hR
  generalize nth B 0 = x at x0 b0 ⊢
  generalize nth B 1 = y at x1 b1 ⊢
  generalize nth B 4 = z at x4 b4 ⊢
  have hN := fun wz => knum_any x y wz b0 b1
  have hl : x * 256 + y < 65536 := by omega
  generalize x * 256 + y = N at hN hl ⊢
  have hA : bits .and .i64 (N : Int) 1023 = ((N % 1024 : Nat) : Int) := i64_low N 10 (by omega) (by decide)
  have fb : ∀ k, k < 32 → (bits .and .i64 (N : Int) ((2 ^ k : Nat) : Int) != 0) = decide (N / 2 ^ k % 2 = 1) := fun k hk => by
    rw [i64_and_p2 N k (by omega) (by omega)]
    rcases (show N / 2 ^ k % 2 = 0 ∨ N / 2 ^ k % 2 = 1 by omega) with e | e
    · rw [e, Nat.zero_mul]; rfl
    · rw [e, Nat.one_mul]
      have := Nat.two_pow_pos k
      exact bne_iff_ne.2 (fun h => by have h2 := Int.ofNat_eq_zero.1 h; omega)
  have F13 : Hid ((bits .and .i64 (N : Int) 8192 != 0) = decide (N / 8192 % 2 = 1)) := fb 13 (by decide)
  have F12 : Hid ((bits .and .i64 (N : Int) 4096 != 0) = decide (N / 4096 % 2 = 1)) := fb 12 (by decide)
  clear fb
  have hm : N % 1024 < 1024 := Nat.mod_lt _ (by decide)
  generalize N % 1024 = m at hA hm ⊢
  have B0 := BxS.new w 24 (orA 0 false false 0 none 0 0)
  have g0 := World.grownBy_alloc w (.cells (orA 0 false false 0 none 0 0) 24) none
  unfold orA at B0 g0 ⊢
  have y0 := cell_grown x0 g0 hbw (by simp)
  have y1 := cell_grown x1 g0 hbw (by simp)
  have y4 := cell_grown x4 g0 hbw (by simp)
  generalize hw0 : w.alloc (.cells #[.int .i64 0, .bool false, .bool false, .int .i64 0, .slice none 0 0] 24) = w0 at B0 g0 y0 y1 y4
  have i0 : (0 : Int) < (n : Int) := by omega
  have i1 : (1 : Int) < (n : Int) := by omega
  have i4 : (4 : Int) < (n : Int) := by omega
  have i5 := Try.info_or
  have z4 := cell_grown y4 (grown_drewN w0 0 none) (Nat.lt_of_lt_of_le hbw g0.size) (by simp)
  go_enter Try.func55, Try.ntmps55
  go_wp2
  go_quiet ((go_at_call 54; exact Calls.quiet_of_same (hN _)))
  have g2 := grown_drewN w0 nq none
  have B2 := B0.keep g2 (by simp)
  have u4 := cell_grown y4 g2 (Nat.lt_of_lt_of_le hbw g0.size) (by simp)
  generalize w0.drewN nq = w2 at g2 B2 u4 ⊢
  clear y0 y1 y4 x0 x1 x4 z4
  have t1 : True := trivial
  go_wp2_with (first
    | (have _t := t1; refine wpList_stX _ rfl _ (.tmp 2) (.tmp 23) rfl w.heap.size _ _ rfl rfl B2 i5 rfl (by simp [Value.oneCell']) ?_; clear t1; intro w9 b9 g9))
  refine bodyPost_ret (kres_cell1 rfl _ _ _ ⟨w.heap.size, 0, none⟩ _ rfl (BxS.load (t := 24) b9 Try.underlying24 Try.info_or)) rfl ?_
  exact ⟨by rw [← F13.out, ← F12.out], grown_far (grown_trans g0 g2) g9 (fun q e => by cases e; exact Nat.le_refl _)⟩
end Go.Proofs.Ytkjcpoapkkaagaa
