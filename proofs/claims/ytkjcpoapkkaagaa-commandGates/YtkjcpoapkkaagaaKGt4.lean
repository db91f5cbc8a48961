import Derived.Test.YtkjcpoapkkaagaaKGt3
namespace Go.Proofs.Ytkjcpoapkkaagaa
open Go.RowKit
set_option maxRecDepth 100000
set_option linter.unusedVariables false
set_option linter.unusedSimpArgs false

/-- what Read answers -/
def stE (z : Int) : Nat := if kwB z 0 4294967295 = true then (if z.toNat / 16384 = 1024 ∧ z.toNat / 256 % 2 = 0 then 0 else 8) else 2
def stN (z : Int) : Nat := if stE z = 0 then z.toNat % 256 else 0
def stC (z : Int) : Nat := if stE z = 0 then z.toNat / 512 % 4 else 0
def stB (z : Int) (k : Nat) : Bool := decide (stE z = 0) && decide (z.toNat / 2 ^ k % 2 = 1)
theorem st_no {z : Int} (h : stE z ≠ 0) : stN z = 0 ∧ stC z = 0 ∧ ∀ k, stB z k = false := by
  unfold stN stC stB
  rw [if_neg h, if_neg h, decide_eq_false h]
  exact ⟨rfl, rfl, fun k => rfl⟩
theorem bit_two (x k : Nat) : x / 2 ^ k % 2 = 0 ∨ x / 2 ^ k % 2 = 1 := by omega
set_option maxHeartbeats 8000000 in
theorem read_any (z : Int) (w : World) : Calls Try.prog 27 #[.int .i64 z] w fun e w' => e = .returned (.tuple #[.agg (gtA 0 (stN z : Nat) 0 (stB z 13) (stB z 12) (stB z 11) (stC z : Nat)), .int .i64 (stE z : Nat)]) ∧ w.grownBy w' none := by
  have h0 := fun wz => kwithin_any z 0 4294967295 wz
  have B2 := BxS.new w 38 (gtA 0 0 0 false false false 0)
  have g0 := World.grownBy_alloc w (.cells (gtA 0 0 0 false false false 0) 38) none
  have i7 := Try.info_gt
  unfold gtA at B2 g0 ⊢
  generalize hw0 : w.alloc (.cells #[.int .i64 0, .int .i64 0, .int .i64 0, .bool false, .bool false, .bool false, .int .i64 0] 38) = w0 at B2 g0
  have t1 : True := trivial
  have t2 : True := trivial
  by_cases hk : 0 ≤ z ∧ z ≤ 4294967295
  · rw [kwB_t hk] at h0
    obtain ⟨k0, k1⟩ := hk
    obtain ⟨x, rfl⟩ := Int.eq_ofNat_of_zero_le k0
    have hN := andNot_form x (by omega)
    by_cases hf : x / 16384 = 1024 ∧ x / 256 % 2 = 0
    · have hE : stE (x : Int) = 0 := by unfold stE; rw [kwB_t ⟨k0, k1⟩, if_pos rfl, Int.toNat_natCast, if_pos hf]
      rw [hf.1, hf.2] at hN
      have hN : bits .andNot .i64 (x : Int) 16127 = 16777216 := hN
      have h8 : bits .and .i64 (x : Int) 255 = ((stN (x : Int) : Nat) : Int) := by
        unfold stN; rw [if_pos hE, Int.toNat_natCast]
        exact i64_low x 8 (by omega) (by decide)
      have h9 : bits .and .i64 ((x : Int) / 512) 3 = ((stC (x : Int) : Nat) : Int) := by
        unfold stC; rw [if_pos hE, Int.toNat_natCast, show ((x : Int) / 512) = ((x / 512 : Nat) : Int) by omega]
        exact i64_low (x / 512) 2 (by omega) (by decide)
      have sb : ∀ k, stB (x : Int) k = decide (x / 2 ^ k % 2 = 1) := fun k => by unfold stB; rw [decide_eq_true hE, Int.toNat_natCast]; rfl
      have fb : ∀ k, k < 32 → (bits .and .i64 (x : Int) ((2 ^ k : Nat) : Int) != 0) = stB (x : Int) k := fun k hk => by
        rw [i64_and_p2 x k (by omega) (by omega), sb]
        rcases bit_two x k with e | e
        · rw [e, Nat.zero_mul]; rfl
        · rw [e, Nat.one_mul]
          have := Nat.two_pow_pos k
          exact bne_iff_ne.2 (fun h => by have h2 := Int.ofNat_eq_zero.1 h; omega)
      have F13 : Hid ((bits .and .i64 (x : Int) 8192 != 0) = stB (x : Int) 13) := fb 13 (by decide)
      have F12 : Hid ((bits .and .i64 (x : Int) 4096 != 0) = stB (x : Int) 12) := fb 12 (by decide)
      have F11 : Hid ((bits .and .i64 (x : Int) 2048 != 0) = stB (x : Int) 11) := fb 11 (by decide)
      rw [hE]
      generalize stN (x : Int) = N at h8 ⊢
      generalize stC (x : Int) = C at h9 ⊢
      clear sb hf hE fb
      go_enter Try.func27, Try.ntmps27
      go_wp2_with (first
        | (go_at_call 62; have _t := t1; clear t1; refine (h0 _).mono ?_; rintro e wx ⟨rfl, hw⟩; have hw := hw.symm; subst hw)
        | (have _t := t2; refine wpList_stX _ rfl _ (.tmp 2) (.tmp 26) rfl w.heap.size _ _ rfl rfl B2 i7 rfl (by simp [Value.oneCell']) ?_; clear t2; intro w9 b9 g9))
      refine bodyPost_ret (results_cell1t rfl _ _ _ ⟨w.heap.size, 0, none⟩ _ (.int .i64 0) rfl (BxS.load (t := 38) b9 Try.underlying38 Try.info_gt) rfl) rfl ?_
      exact ⟨by rw [← F13.out, ← F12.out, ← F11.out]; rfl, grown_far g0 g9 (fun q e => by cases e; exact Nat.le_refl _)⟩
    · have hE : stE (x : Int) = 8 := by unfold stE; rw [kwB_t ⟨k0, k1⟩, if_pos rfl, Int.toNat_natCast, if_neg hf]
      obtain ⟨e1, e2, e3⟩ := st_no (z := (x : Int)) (by rw [hE]; decide)
      rw [e1, e2, e3, e3, e3, hE]
      obtain ⟨M, hM⟩ : ∃ M, M = x / 16384 * 16384 + x / 256 % 2 * 256 := ⟨_, rfl⟩
      rw [← hM] at hN
      have hne : (((M : Int) != 16777216) : Bool) = true := by simp; omega
      clear hM hf e1 e2 e3 hE
      go_enter Try.func27, Try.ntmps27
      go_wp2_with (first
        | (go_at_call 62; have _t := t1; clear t1; refine (h0 _).mono ?_; rintro e wx ⟨rfl, hw⟩; have hw := hw.symm; subst hw)
        | (have _t := t2; refine wpList_stX _ rfl _ (.tmp 2) (.tmp 11) rfl w.heap.size _ _ rfl rfl B2 i7 rfl (by simp [Value.oneCell']) ?_; clear t2; intro w9 b9 g9))
      refine bodyPost_ret (results_cell1t rfl _ _ _ ⟨w.heap.size, 0, none⟩ _ (.int .i64 8) rfl (BxS.load (t := 38) b9 Try.underlying38 Try.info_gt) rfl) rfl ?_
      exact ⟨rfl, grown_far g0 g9 (fun q e => by cases e; exact Nat.le_refl _)⟩
  · rw [kwB_f hk] at h0
    have hE : stE z = 2 := by unfold stE; rw [kwB_f hk, if_neg (by decide)]
    obtain ⟨e1, e2, e3⟩ := st_no (z := z) (by rw [hE]; decide)
    rw [e1, e2, e3, e3, e3, hE]
    clear hk
    go_enter Try.func27, Try.ntmps27
    go_wp2_with (first
      | (go_at_call 62; have _t := t1; clear t1; refine (h0 _).mono ?_; rintro e wx ⟨rfl, hw⟩; have hw := hw.symm; subst hw)
      | (have _t := t2; refine wpList_stX _ rfl _ (.tmp 2) (.tmp 7) rfl w.heap.size _ _ rfl rfl B2 i7 rfl (by simp [Value.oneCell']) ?_; clear t2; intro w9 b9 g9))
    refine bodyPost_ret (results_cell1t rfl _ _ _ ⟨w.heap.size, 0, none⟩ _ (.int .i64 2) rfl (BxS.load (t := 38) b9 Try.underlying38 Try.info_gt) rfl) rfl ?_
    exact ⟨rfl, grown_far g0 g9 (fun q e => by cases e; exact Nat.le_refl _)⟩
set_option maxHeartbeats 8000000 in
theorem rread_any (z : Int) (w : World) : Calls Try.prog 26 #[.int .i64 z] w fun e w' => e = .returned (.tuple #[.agg (gtA 0 (stN z : Nat) 0 (stB z 13) (stB z 12) (stB z 11) (stC z : Nat)), .int .i64 (stE z : Nat)]) ∧ w.grownBy w' none := by
  have B0 := BxS.new w 38 (gtA 0 0 0 false false false 0)
  have g0 := World.grownBy_alloc w (.cells (gtA 0 0 0 false false false 0) 38) none
  have i7 := Try.info_gt
  unfold gtA at B0 g0 ⊢
  generalize hw0 : w.alloc (.cells #[.int .i64 0, .int .i64 0, .int .i64 0, .bool false, .bool false, .bool false, .int .i64 0] 38) = w0 at B0 g0
  have t2 : True := trivial
  by_cases hk : 0 ≤ z ∧ z ≤ 4294967295
  · obtain ⟨k0, k1⟩ := hk
    obtain ⟨x, rfl⟩ := Int.eq_ofNat_of_zero_le k0
    have h8 : bits .and .i64 (x : Int) 255 = ((x % 256 : Nat) : Int) := i64_low x 8 (by omega) (by decide)
    have h9 : bits .and .i64 ((x : Int) / 512) 3 = ((x / 512 % 4 : Nat) : Int) := by
      rw [show ((x : Int) / 512) = ((x / 512 : Nat) : Int) by omega]
      exact i64_low (x / 512) 2 (by omega) (by decide)
    have fk : ∀ k, k < 32 → bits .and .i64 (((x / 2 ^ k : Nat) : Int)) 1 = ((x / 2 ^ k % 2 : Nat) : Int) := fun k hk => i64_low (x / 2 ^ k) 1 (Nat.lt_of_le_of_lt (Nat.div_le_self _ _) (by omega)) (by decide)
    have f8 : bits .and .i64 ((x : Int) / 256) 1 = ((x / 2 ^ 8 % 2 : Nat) : Int) := by rw [show ((x : Int) / 256) = ((x / 2 ^ 8 : Nat) : Int) by omega]; exact fk 8 (by decide)
    by_cases hf : x / 16384 = 1024 ∧ x / 256 % 2 = 0
    · have hE : stE (x : Int) = 0 := by unfold stE; rw [kwB_t ⟨k0, k1⟩, if_pos rfl, Int.toNat_natCast, if_pos hf]
      have sb : ∀ k, stB (x : Int) k = decide (x / 2 ^ k % 2 = 1) := fun k => by unfold stB; rw [decide_eq_true hE, Int.toNat_natCast]; rfl
      have sn : stN (x : Int) = x % 256 := by unfold stN; rw [if_pos hE, Int.toNat_natCast]
      have sc : stC (x : Int) = x / 512 % 4 := by unfold stC; rw [if_pos hE, Int.toNat_natCast]
      rw [hE, sn, sc]
      have h14 : (x : Int) / 16384 = 1024 := by omega
      have f8 : bits .and .i64 ((x : Int) / 256) 1 = 0 := by rw [f8]; show ((x / 256 % 2 : Nat) : Int) = _; rw [hf.2]; rfl
      generalize x % 256 = N at h8 ⊢
      generalize x / 512 % 4 = C at h9 ⊢
      have fb : ∀ k, k < 32 → (bits .and .i64 ((x / 2 ^ k : Nat) : Int) 1 == 1) = stB (x : Int) k := fun k hk => by
        rw [fk k hk, sb]
        rcases bit_two x k with e | e
        · rw [e]; rfl
        · rw [e]; rfl
      have F13 : Hid ((bits .and .i64 ((x : Int) / 8192) 1 == 1) = stB (x : Int) 13) := by rw [show ((x : Int) / 8192) = ((x / 2 ^ 13 : Nat) : Int) by omega]; exact fb 13 (by decide)
      have F12 : Hid ((bits .and .i64 ((x : Int) / 4096) 1 == 1) = stB (x : Int) 12) := by rw [show ((x : Int) / 4096) = ((x / 2 ^ 12 : Nat) : Int) by omega]; exact fb 12 (by decide)
      have F11 : Hid ((bits .and .i64 ((x : Int) / 2048) 1 == 1) = stB (x : Int) 11) := by rw [show ((x : Int) / 2048) = ((x / 2 ^ 11 : Nat) : Int) by omega]; exact fb 11 (by decide)
      clear sb hf hE sn sc fb fk
      have gA := fun (p q r : Bool) => World.grownBy_alloc w0 (.cells #[.int .i64 0, .int .i64 N, .int .i64 0, .bool p, .bool q, .bool r, .int .i64 C] 38) none
      go_enter Try.func26, Try.ntmps26
      go_wp2_with (first
        | (have _t := t2; refine wpList_stX _ rfl _ (.tmp 2) (.tmp 40) rfl w.heap.size _ _ rfl rfl (B0.keep (gA _ _ _) (by simp)) i7 rfl (by simp [Value.oneCell']) ?_; clear t2; intro w9 b9 g9))
      refine bodyPost_ret (results_cell1t rfl _ _ _ ⟨w.heap.size, 0, none⟩ _ (.int .i64 0) rfl (BxS.load (t := 38) b9 Try.underlying38 Try.info_gt) rfl) rfl ?_
      exact ⟨by rw [← F13.out, ← F12.out, ← F11.out]; rfl, grown_far (grown_trans g0 (gA _ _ _)) g9 (fun q e => by cases e; exact Nat.le_refl _)⟩
    · have hE : stE (x : Int) = 8 := by unfold stE; rw [kwB_t ⟨k0, k1⟩, if_pos rfl, Int.toNat_natCast, if_neg hf]
      obtain ⟨e1, e2, e3⟩ := st_no (z := (x : Int)) (by rw [hE]; decide)
      rw [e1, e2, e3, e3, e3, hE]
      clear e1 e2 e3 hE
      have gA := fun (N C : Nat) (p q r : Bool) => World.grownBy_alloc w0 (.cells #[.int .i64 0, .int .i64 N, .int .i64 0, .bool p, .bool q, .bool r, .int .i64 C] 38) none
      generalize x % 256 = N at h8
      generalize x / 512 % 4 = C at h9
      clear fk
      by_cases h14 : x / 16384 = 1024
      · have h14' : (x : Int) / 16384 = 1024 := by omega
        have f8 : bits .and .i64 ((x : Int) / 256) 1 = 1 := by rw [f8]; show ((x / 256 % 2 : Nat) : Int) = _; rw [show x / 256 % 2 = 1 by omega]; rfl
        clear hf h14
        go_enter Try.func26, Try.ntmps26
        go_wp2_with (first
          | (have _t := t2; refine wpList_stX _ rfl _ (.tmp 2) (.tmp 39) rfl w.heap.size _ _ rfl rfl (B0.keep (gA _ _ _ _ _) (by simp)) i7 rfl (by simp [Value.oneCell']) ?_; clear t2; intro w9 b9 g9))
        refine bodyPost_ret (results_cell1t rfl _ _ _ ⟨w.heap.size, 0, none⟩ _ (.int .i64 8) rfl (BxS.load (t := 38) b9 Try.underlying38 Try.info_gt) rfl) rfl ?_
        exact ⟨rfl, grown_far (grown_trans g0 (gA _ _ _ _ _)) g9 (fun q e => by cases e; exact Nat.le_refl _)⟩
      · have h14' : (((x : Int) / 16384 != 1024) : Bool) = true := by simp; omega
        clear hf h14 f8
        go_enter Try.func26, Try.ntmps26
        go_wp2_with (first
          | (have _t := t2; refine wpList_stX _ rfl _ (.tmp 2) (.tmp 39) rfl w.heap.size _ _ rfl rfl (B0.keep (gA _ _ _ _ _) (by simp)) i7 rfl (by simp [Value.oneCell']) ?_; clear t2; intro w9 b9 g9))
        refine bodyPost_ret (results_cell1t rfl _ _ _ ⟨w.heap.size, 0, none⟩ _ (.int .i64 8) rfl (BxS.load (t := 38) b9 Try.underlying38 Try.info_gt) rfl) rfl ?_
        exact ⟨rfl, grown_far (grown_trans g0 (gA _ _ _ _ _)) g9 (fun q e => by cases e; exact Nat.le_refl _)⟩
  · have hE : stE z = 2 := by unfold stE; rw [kwB_f hk, if_neg (by decide)]
    obtain ⟨e1, e2, e3⟩ := st_no (z := z) (by rw [hE]; decide)
    rw [e1, e2, e3, e3, e3, hE]
    clear e1 e2 e3 hE
    by_cases k0 : z < 0
    · clear hk
      go_enter Try.func26, Try.ntmps26
      go_wp2_with (first
        | (have _t := t2; refine wpList_stX _ rfl _ (.tmp 2) (.tmp 11) rfl w.heap.size _ _ rfl rfl B0 i7 rfl (by simp [Value.oneCell']) ?_; clear t2; intro w9 b9 g9))
      refine bodyPost_ret (results_cell1t rfl _ _ _ ⟨w.heap.size, 0, none⟩ _ (.int .i64 2) rfl (BxS.load (t := 38) b9 Try.underlying38 Try.info_gt) rfl) rfl ?_
      exact ⟨rfl, grown_far g0 g9 (fun q e => by cases e; exact Nat.le_refl _)⟩
    · have k1 : 4294967295 < z := by omega
      clear hk
      go_enter Try.func26, Try.ntmps26
      go_wp2_with (first
        | (have _t := t2; refine wpList_stX _ rfl _ (.tmp 2) (.tmp 11) rfl w.heap.size _ _ rfl rfl B0 i7 rfl (by simp [Value.oneCell']) ?_; clear t2; intro w9 b9 g9))
      refine bodyPost_ret (results_cell1t rfl _ _ _ ⟨w.heap.size, 0, none⟩ _ (.int .i64 2) rfl (BxS.load (t := 38) b9 Try.underlying38 Try.info_gt) rfl) rfl ?_
      exact ⟨rfl, grown_far g0 g9 (fun q e => by cases e; exact Nat.le_refl _)⟩
end Go.Proofs.Ytkjcpoapkkaagaa
