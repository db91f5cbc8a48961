import Derived.Test.YtnnoeeakkpaocaaKBas
namespace Go.Proofs.Ytnnoeeakkpaocaa
open Go.RowKit
set_option maxRecDepth 100000
set_option linter.unusedVariables false
set_option linter.unusedSimpArgs false

theorem and_pow2 (x k : Nat) : x &&& 2 ^ k = x / 2 ^ k % 2 * 2 ^ k := by
  have h1 : (x &&& 2 ^ k) / 2 ^ k = x / 2 ^ k % 2 := by
    rw [Nat.and_div_two_pow, Nat.div_self (Nat.two_pow_pos k), Nat.and_one_is_mod]
  have h2 : (x &&& 2 ^ k) % 2 ^ k = 0 := by
    rw [Nat.and_mod_two_pow, Nat.mod_self, Nat.and_zero]
  have h3 := Nat.div_add_mod (x &&& 2 ^ k) (2 ^ k)
  rw [h1, h2, Nat.add_zero, Nat.mul_comm] at h3
  exact h3.symm
theorem i64_and_p2 (x k : Nat) (hx : x < 2 ^ 63) (hk : k < 63) : bits .and .i64 (x : Int) ((2 ^ k : Nat) : Int) = ((x / 2 ^ k % 2 * 2 ^ k : Nat) : Int) := by
  rw [i64_and_nat _ _ hx (Nat.pow_lt_pow_right (by decide) hk), and_pow2]
theorem i64_low (x k : Nat) (hx : x < 2 ^ 63) (hk : k < 63) : bits .and .i64 (x : Int) ((2 ^ k - 1 : Nat) : Int) = ((x % 2 ^ k : Nat) : Int) := by
  rw [i64_and_nat _ _ hx (Nat.lt_of_le_of_lt (Nat.sub_le _ _) (Nat.pow_lt_pow_right (by decide) hk)), Nat.and_two_pow_sub_one_eq_mod]
theorem and_form (x : Nat) (hx : x < 4294967296) : x &&& 18446744073709535488 = x / 16384 * 16384 + x / 256 % 2 * 256 := by
  have h1 : (x &&& 18446744073709535488) / 2 ^ 14 = x / 16384 := by
    rw [Nat.and_div_two_pow]
    show (x / 16384) &&& (2 ^ 50 - 1) = _
    rw [Nat.and_two_pow_sub_one_eq_mod, Nat.mod_eq_of_lt (by omega)]
  have h2 : (x &&& 18446744073709535488) % 2 ^ 14 = x / 256 % 2 * 256 := by
    rw [Nat.and_mod_two_pow]
    show (x % 16384) &&& 2 ^ 8 = _
    rw [and_pow2]
    show x % 16384 / 256 % 2 * 256 = _
    omega
  have h3 := Nat.div_add_mod (x &&& 18446744073709535488) (2 ^ 14)
  rw [h1, h2] at h3
  omega
theorem andNot_form (x : Nat) (hx : x < 4294967296) : bits .andNot .i64 (x : Int) 16127 = ((x / 16384 * 16384 + x / 256 % 2 * 256 : Nat) : Int) := by
  show IntKind.i64.wrap ((BitVec.ofInt 64 (x : Int) &&& ~~~ BitVec.ofInt 64 16127).toNat : Int) = _
  rw [BitVec.toNat_and, BitVec.toNat_not, ofInt_i64 x (by omega)]
  show IntKind.i64.wrap ((x &&& 18446744073709535488 : Nat) : Int) = _
  rw [and_form x hx, wrap_i64_in _ (by omega) (by omega)]
theorem or_nat (h x k : Nat) (hx : x < 2 ^ k) : (h * 2 ^ k) ||| x = h * 2 ^ k + x := by
  have h3 := Nat.shiftLeft_add_eq_or_of_lt hx h
  rw [Nat.shiftLeft_eq] at h3
  exact h3.symm
/-- what Guard answers -/
def guE (cr ha : Int) : Nat := if kwB cr 0 1023 && kwB ha 1 127 then 0 else 2
def guX (cr ha z : Int) : Int := if kwB cr 0 1023 && kwB ha 1 127 then z else 0
set_option maxHeartbeats 4000000 in
theorem guard_any (cr ha : Int) (w : World) : Calls Try.prog 23 #[.int .i64 cr, .int .i64 ha] w fun e w' => e = .returned (.tuple #[.agg (gtA (guX cr ha cr) 0 (guX cr ha ha) false false false 0), .int .i64 (guE cr ha : Nat)]) ∧ w.grownBy w' none := by
  have h0 := fun wz => gmay_any cr 0 ha false false false 0 wz
  have e : gtB cr 0 ha 0 = (kwB cr 0 1023 && kwB ha 1 127) := by
    unfold gtB
    rw [show kwB 0 0 255 = true from rfl, show kwB 0 0 3 = true from rfl, Bool.and_true, Bool.and_true]
  rw [e] at h0
  have b0 := BxS.new w 38 (gtA 0 0 0 false false false 0)
  have g0 := World.grownBy_alloc w (.cells (gtA 0 0 0 false false false 0) 38) none
  have i7 := Try.info_gt
  unfold guX guE
  generalize (kwB cr 0 1023 && kwB ha 1 127) = b at h0 ⊢
  unfold gtA at h0 b0 g0 ⊢
  generalize hw0 : w.alloc (.cells #[.int .i64 0, .int .i64 0, .int .i64 0, .bool false, .bool false, .bool false, .int .i64 0] 38) = w0 at b0 g0
  have b1 := BxS.new w0 38 #[.int .i64 cr, .int .i64 0, .int .i64 ha, .bool false, .bool false, .bool false, .int .i64 0]
  have g1 := World.grownBy_alloc w0 (.cells #[.int .i64 cr, .int .i64 0, .int .i64 ha, .bool false, .bool false, .bool false, .int .i64 0] 38) none
  have t1 : True := trivial
  cases b
  · go_enter Try.func23, Try.ntmps23
    go_wp2_with (first
      | (go_at_call 59; have _t := t1; clear t1; refine (h0 _).mono ?_; rintro e w2 ⟨rfl, g2⟩; have b2 := (b0.keep g1 (by simp)).keep g2 (by simp); have t2 : True := trivial)
      | (have _t := t2; refine wpList_stX _ rfl _ (.tmp 4) (.tmp 13) rfl w.heap.size _ _ rfl rfl b2 i7 rfl (by simp [Value.oneCell']) ?_; clear t2; intro w9 b9 g9))
    refine bodyPost_ret (results_cell1t rfl _ _ _ ⟨w.heap.size, 0, none⟩ _ (.int .i64 2) rfl (BxS.load (t := 38) b9 Try.underlying38 Try.info_gt) rfl) rfl ?_
    exact ⟨rfl, grown_far (grown_trans (grown_trans g0 g1) g2) g9 (fun q e => by cases e; exact Nat.le_refl _)⟩
  · go_enter Try.func23, Try.ntmps23
    go_wp2_with (first
      | (go_at_call 59; have _t := t1; clear t1; refine (h0 _).mono ?_; rintro e w2 ⟨rfl, g2⟩; have b2 := (b0.keep g1 (by simp)).keep g2 (by simp); obtain ⟨d0, d1, d2, d3, d4, d5, d6⟩ := (b1.keep g2 (by simp)).cell7; have t2 : True := trivial)
      | (have _t := t2; refine wpList_stX _ rfl _ (.tmp 4) (.tmp 14) rfl w.heap.size _ _ rfl rfl b2 i7 rfl (by simp [Value.oneCell']) ?_; clear t2; intro w9 b9 g9))
    refine bodyPost_ret (results_cell1t rfl _ _ _ ⟨w.heap.size, 0, none⟩ _ (.int .i64 0) rfl (BxS.load (t := 38) b9 Try.underlying38 Try.info_gt) rfl) rfl ?_
    exact ⟨rfl, grown_far (grown_trans (grown_trans g0 g1) g2) g9 (fun q e => by cases e; exact Nat.le_refl _)⟩
end Go.Proofs.Ytnnoeeakkpaocaa
