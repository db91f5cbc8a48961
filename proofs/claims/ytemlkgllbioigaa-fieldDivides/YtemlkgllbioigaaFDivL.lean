import Derived.Test.YtemlkgllbioigaaFDivN
namespace Go.Proofs.Ytemlkgllbioigaa
open Go.RowKit
set_option maxRecDepth 100000
set_option linter.unusedVariables false
set_option linter.unusedSimpArgs false

theorem rd_nil (w : World) : Rd w none 0 0 [] := ⟨rfl, Nat.le_refl _, Nat.zero_le _, fun _ => rfl, (fun x hx => by cases hx), fun h => by omega⟩
theorem mul_2_1 (w : World) : Calls Try.prog 17 #[.int .u8 2, .int .u8 1] w fun e w' => e = .returned (.int .u8 2) ∧ w' = w := by
  have h := mul_any 2 1 (by decide) (by decide) w
  rw [Fld.mul_one (by decide)] at h
  exact h
theorem below_of {w w' : World} (h : w.grownBy w' none) : Below w.heap.size w w' := (Below.refl _ _).grown h (Nat.le_refl _) (fun k hk => by cases hk)
theorem div_big (a b : Option Addr) (n m cap cap' : Nat) (w : World) (hn : n ≤ 9223372036854775807) (hm : m ≤ 9223372036854775807) (h : 256 < n ∨ 256 < m) :
    Calls Try.prog 9 #[.slice a n cap, .slice b m cap'] w fun e w' => e = .returned (.bool true) ∧ Below w.heap.size w w' := by
  by_cases h1 : 256 < n
  · go_enter Try.func9, Try.ntmps9
    go_wp2
    go_ret
    exact ⟨rfl, Below.refl _ _⟩
  · have h2 : 256 < m := by omega
    go_enter Try.func9, Try.ntmps9
    go_wp2
    go_ret
    exact ⟨rfl, Below.refl _ _⟩
theorem div_zero (a b : Option Addr) (n m cap cap' : Nat) (P Q : List Nat) (w : World) (hp : Rd w a n cap P) (hq : Rd w b m cap' Q) (hn : n ≤ 256) (hm : m ≤ 256) (hz : trimN Q m = 0) :
    Calls Try.prog 9 #[.slice a n cap, .slice b m cap'] w fun e w' => e = .returned (.bool true) ∧ Below w.heap.size w w' := by
  have e0 : (trimL (sumL Q [])).length = 0 := by rw [trim_self, trimL_len, hq.len, hz]
  go_enter Try.func9, Try.ntmps9
  go_wp2_with (first
    | (go_at_call 25; refine (sum_any b none m 0 cap' 0 Q [] w hq (rd_nil w) (by omega) (by omega)).mono ?_; rintro e w1 ⟨a1, n1, c1, rfl, hs1, g01⟩; have hn1 : n1 = 0 := hs1.len.symm.trans e0; subst hn1; have hq1 := hq.keep g01)
    | (go_at_call 29; refine (over_zero a b n m cap cap' Q w1 hq1 (by omega) (by omega) hz).mono ?_; rintro e w' ⟨rfl, hw⟩; have hw := hw.symm; subst hw)
    | (go_at_call 17; refine (mul_2_1 _).mono ?_; rintro e w' ⟨rfl, hw⟩; have hw := hw.symm; subst hw))
  go_ret
  exact ⟨rfl, below_of g01⟩

end Go.Proofs.Ytemlkgllbioigaa
