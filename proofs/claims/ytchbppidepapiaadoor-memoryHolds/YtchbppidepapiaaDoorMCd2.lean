import Derived.Test.YtchbppidepapiaaDoorMCd1
import Derived.OwnWalk
namespace Go.Proofs.YtchbppidepapiaaDoor
open Go.RowKit
set_option maxRecDepth 100000
set_option linter.unusedVariables false
set_option linter.unusedSimpArgs false

/-- the code of a word -/
def coN (n : Nat) : Nat := ckW (spW n 39) (xsW (spW n 39) 39) 6 ||| (odW (ckW (spW n 39) (xsW (spW n 39) 39) 6)).toNat
theorem odW_le (b : Bool) : b.toNat ≤ 1 := by cases b <;> decide
theorem coN_lt (n : Nat) : coN n < 549755813888 := by
  have h := ckW_lt (spW n 39) (xsW (spW n 39) 39) 6 (spW_lt n 39) (by omega)
  have h2 := odW_le (odW (ckW (spW n 39) (xsW (spW n 39) 39) 6))
  exact Nat.or_lt_two_pow (n := 39) h (by omega)
/-- may a number be? -/
def inN (z m : Int) : Bool := decide (0 ≤ z ∧ z ≤ m)
theorem inN_t {z m : Int} (h : 0 ≤ z ∧ z ≤ m) : inN z m = true := decide_eq_true h
theorem inN_f {z m : Int} (h : ¬ (0 ≤ z ∧ z ≤ m)) : inN z m = false := decide_eq_false h
theorem inN_ok {z m : Int} (h : inN z m = true) : 0 ≤ z ∧ z ≤ m := of_decide_eq_true h
theorem inN_no {z m : Int} (h : inN z m = false) : ¬ (0 ≤ z ∧ z ≤ m) := of_decide_eq_false h
theorem mwithin_any (z m : Int) (w : World) : Calls Tryd.prog 25 #[.int .i64 z, .int .i64 m] w fun e w' => e = .returned (.bool (inN z m)) ∧ w' = w := by
  by_cases h : 0 ≤ z ∧ z ≤ m
  · rw [inN_t h]
    have h1 := h.1
    have h2 := h.2
    go_enter Tryd.func25, Tryd.ntmps25
    go_wp2
    go_ret
    exact ⟨rfl, rfl⟩
  · rw [inN_f h]
    by_cases h1 : 0 ≤ z
    · have h2 : ¬ z ≤ m := fun h2 => h ⟨h1, h2⟩
      go_enter Tryd.func25, Tryd.ntmps25
      go_wp2
      go_ret
      exact ⟨rfl, rfl⟩
    · go_enter Tryd.func25, Tryd.ntmps25
      go_wp2
      go_ret
      exact ⟨rfl, rfl⟩
def cdV (z : Int) : Nat := if inN z 4294967295 then coN z.toNat else 0
def cdE (z : Int) : Nat := if inN z 4294967295 then 0 else 2
theorem code_any (z : Int) (w : World) : Calls Tryd.prog 24 #[.int .i64 z] w fun e w' => e = .returned (.tuple #[.int .i64 (cdV z : Nat), .int .i64 (cdE z : Nat)]) ∧ w' = w := by
  have HI := fun w => mwithin_any z 4294967295 w
  unfold cdV cdE
  cases h : inN z 4294967295
  · rw [h] at HI
    go_enter Tryd.func24, Tryd.ntmps24
    go_wp2_with (go_at_call 25; refine (HI _).mono ?_; rintro e w' ⟨rfl, rfl⟩)
    go_ret2
    exact ⟨rfl, rfl⟩
  · rw [h] at HI
    obtain ⟨n, rfl⟩ : ∃ n : Nat, z = n := ⟨z.toNat, by have := inN_ok h; omega⟩
    have hn := inN_ok h
    have HS := fun w => spread_any n (by omega) w
    have HC := fun w => checked_any (spW n 39) (spW_lt n 39) w
    rw [if_pos rfl, if_pos rfl, Int.toNat_natCast]
    unfold coN
    generalize ckW (spW n 39) (xsW (spW n 39) 39) 6 ||| (odW (ckW (spW n 39) (xsW (spW n 39) 39) 6)).toNat = r at HC ⊢
    generalize spW n 39 = s at HS HC
    clear h
    go_enter Tryd.func24, Tryd.ntmps24
    go_wp2_with (first | (go_at_call 25; refine (HI _).mono ?_; rintro e w' ⟨rfl, rfl⟩) | (go_at_call 37; refine (HS _).mono ?_; rintro e w' ⟨rfl, rfl⟩) | (go_at_call 36; refine (HC _).mono ?_; rintro e w' ⟨rfl, rfl⟩))
    go_ret2
    exact ⟨rfl, rfl⟩
/-- what is wrong with a code: 0 nothing, 1 one bit, 2 more -/
def wrW (c : Nat) : Nat := if odW c then (if xsW c 39 < 39 then 1 else 2) else (if xsW c 39 = 0 then 0 else 2)
/-- a code without its wrong bit -/
def riW (c : Nat) : Nat := if wrW c = 0 then c else if wrW c = 1 then c ^^^ 1 <<< xsW c 39 else 0
def riE (c : Nat) : Nat := if wrW c = 2 then 18 else 0
theorem riW_lt (c : Nat) (hc : c < 549755813888) : riW c < 549755813888 := by
  unfold riW
  split
  · exact hc
  · split
    · rename_i h1 h2
      have hx : xsW c 39 < 39 := by
        unfold wrW at h2
        by_cases h : xsW c 39 < 39
        · exact h
        · rw [if_neg h] at h2
          have hz : ¬ xsW c 39 = 0 := by omega
          rw [if_neg hz] at h2
          cases ho : odW c <;> rw [ho] at h2 <;> simp at h2
      refine Nat.xor_lt_two_pow (n := 39) hc ?_
      rw [Nat.shiftLeft_eq, Nat.one_mul]
      exact Nat.pow_lt_pow_right (by decide) hx
    · omega
theorem shl_one (s : Nat) (hs : s < 39) : wrap64 (2 ^ s) = ((1 <<< s : Nat) : Int) := by
  have : ∀ s : Nat, s < 39 → wrap64 (2 ^ s) = ((1 <<< s : Nat) : Int) := by decide +kernel
  exact this s hs
theorem ri_0 {c : Nat} (ho : odW c = false) (hs : xsW c 39 = 0) : riW c = c ∧ (wrW c == 1) = false ∧ riE c = 0 := by
  have h : wrW c = 0 := by simp [wrW, ho, hs]
  simp [riW, riE, h]
theorem ri_1 {c : Nat} (ho : odW c = true) (hs : xsW c 39 < 39) : riW c = c ^^^ 1 <<< xsW c 39 ∧ (wrW c == 1) = true ∧ riE c = 0 := by
  have h : wrW c = 1 := by simp [wrW, ho, hs]
  simp [riW, riE, h]
theorem ri_2 {c : Nat} (ho : odW c = false) (hs : ¬ xsW c 39 = 0) : riW c = 0 ∧ (wrW c == 1) = false ∧ riE c = 18 := by
  have h : wrW c = 2 := by simp [wrW, ho, hs]
  simp [riW, riE, h]
theorem ri_3 {c : Nat} (ho : odW c = true) (hs : ¬ xsW c 39 < 39) : riW c = 0 ∧ (wrW c == 1) = false ∧ riE c = 18 := by
  have h : wrW c = 2 := by simp [wrW, ho, hs]
  simp [riW, riE, h]
theorem righted_any (c : Nat) (hc : c < 549755813888) (w : World) : Calls Tryd.prog 34 #[.int .i64 c] w fun e w' => e = .returned (.tuple #[.int .i64 (riW c : Nat), .bool (wrW c == 1), .int .i64 (riE c : Nat)]) ∧ w' = w := by
  have HP := fun w => placeSum_any c hc w
  have HO := fun w => odd_any c hc w
  have hx := xsW_lt c 39 (by omega)
  cases hb : odW c
  · rw [hb] at HO
    by_cases h0 : xsW c 39 = 0
    · obtain ⟨e1, e2, e3⟩ := ri_0 hb h0
      rw [e1, e2, e3]
      rw [h0] at HP
      clear hx hb h0 e1 e2 e3
      go_enter Tryd.func34, Tryd.ntmps34
      go_wp2_with (first | (go_at_call 40; refine (HP _).mono ?_; rintro e w' ⟨rfl, rfl⟩) | (go_at_call 41; refine (HO _).mono ?_; rintro e w' ⟨rfl, rfl⟩))
      go_ret3
      exact ⟨rfl, rfl⟩
    · obtain ⟨e1, e2, e3⟩ := ri_2 hb h0
      rw [e1, e2, e3]
      clear e1 e2 e3 hb
      generalize xsW c 39 = s at HP hx h0
      have hz : ((s : Int) == 0) = false := by simp; omega
      go_enter Tryd.func34, Tryd.ntmps34
      go_wp2_with (first | (go_at_call 40; refine (HP _).mono ?_; rintro e w' ⟨rfl, rfl⟩) | (go_at_call 41; refine (HO _).mono ?_; rintro e w' ⟨rfl, rfl⟩))
      go_ret3
      exact ⟨rfl, rfl⟩
  · rw [hb] at HO
    by_cases h0 : xsW c 39 < 39
    · obtain ⟨e1, e2, e3⟩ := ri_1 hb h0
      rw [e1, e2, e3]
      clear e1 e2 e3 hb
      generalize xsW c 39 = s at HP hx h0 ⊢
      have e1 := shl_one s h0
      have e2 : 1 <<< s < 2 ^ 63 := by
        rw [Nat.shiftLeft_eq, Nat.one_mul]
        exact Nat.pow_lt_pow_right (by decide) (by omega)
      have e3 := i64_xor_nat c (1 <<< s) (by omega) e2
      rw [← e1] at e3
      generalize c ^^^ 1 <<< s = r at e3 ⊢
      clear e1 e2
      go_enter Tryd.func34, Tryd.ntmps34
      go_wp2_with (first | (go_at_call 40; refine (HP _).mono ?_; rintro e w' ⟨rfl, rfl⟩) | (go_at_call 41; refine (HO _).mono ?_; rintro e w' ⟨rfl, rfl⟩))
      go_ret3
      exact ⟨rfl, rfl⟩
    · obtain ⟨e1, e2, e3⟩ := ri_3 hb h0
      rw [e1, e2, e3]
      clear e1 e2 e3 hb
      generalize xsW c 39 = s at HP hx h0
      have hz : ¬ ((s : Int) < 39) := by omega
      go_enter Tryd.func34, Tryd.ntmps34
      go_wp2_with (first | (go_at_call 40; refine (HP _).mono ?_; rintro e w' ⟨rfl, rfl⟩) | (go_at_call 41; refine (HO _).mono ?_; rintro e w' ⟨rfl, rfl⟩))
      go_ret3
      exact ⟨rfl, rfl⟩
def mdV (z : Int) : Nat := if inN z 549755813887 then gaW (riW z.toNat) 39 else 0
def mdB (z : Int) : Bool := inN z 549755813887 && wrW z.toNat == 1
def mdE (z : Int) : Nat := if inN z 549755813887 then riE z.toNat else 2
theorem mend_any (z : Int) (w : World) : Calls Tryd.prog 27 #[.int .i64 z] w fun e w' => e = .returned (.tuple #[.int .i64 (mdV z : Nat), .bool (mdB z), .int .i64 (mdE z : Nat)]) ∧ w' = w := by
  have HI := fun w => mwithin_any z 549755813887 w
  unfold mdV mdB mdE
  cases h : inN z 549755813887
  · rw [h] at HI
    go_enter Tryd.func27, Tryd.ntmps27
    go_wp2_with (go_at_call 25; refine (HI _).mono ?_; rintro e w' ⟨rfl, rfl⟩)
    go_ret3
    exact ⟨rfl, rfl⟩
  · rw [h] at HI
    obtain ⟨n, rfl⟩ : ∃ n : Nat, z = n := ⟨z.toNat, by have := inN_ok h; omega⟩
    have hn := inN_ok h
    have HS := fun w => righted_any n (by omega) w
    have HC := fun w => gathered_any (riW n) (riW_lt n (by omega)) w
    rw [if_pos rfl, if_pos rfl, Int.toNat_natCast]
    generalize gaW (riW n) 39 = r at HC ⊢
    generalize riW n = s at HS HC
    generalize riE n = t at HS ⊢
    rw [Bool.true_and]
    generalize (wrW n == 1) = u at HS ⊢
    clear h
    go_enter Tryd.func27, Tryd.ntmps27
    go_wp2_with (first | (go_at_call 25; refine (HI _).mono ?_; rintro e w' ⟨rfl, rfl⟩) | (go_at_call 34; refine (HS _).mono ?_; rintro e w' ⟨rfl, rfl⟩) | (go_at_call 23; refine (HC _).mono ?_; rintro e w' ⟨rfl, rfl⟩))
    go_ret3
    exact ⟨rfl, rfl⟩
end Go.Proofs.YtchbppidepapiaaDoor
