import Derived.Test.YtchbppidepapiaaMTwM
import Derived.Test.YtchbppidepapiaaMRm
import Derived.Test.YtchbppidepapiaaFMem
namespace Go.Proofs.Ytchbppidepapiaa
open Go.RowKit
set_option maxRecDepth 100000
set_option linter.unusedVariables false
set_option linter.unusedSimpArgs false

/-- which of n things a raw number speaks of -/
theorem mpicked_any (n of : Int) (w : World) (h1 : -9223372036854775808 ≤ n) (h2 : n ≤ 9223372036854775807) (ho : 0 < of) (ho2 : of ≤ 9223372036854775807) :
    Calls Try.prog 17 #[.int .i64 n, .int .i64 of] w fun e w' => ∃ v : Nat, (v : Int) < of ∧ e = .returned (.int .i64 v) ∧ w' = w := by
  by_cases hn : n < 0
  · have hnz : ¬ of = 0 := by omega
    go_enter Try.func17, Try.ntmps17
    go_wp2
    go_ret
    have p1 := Int.emod_nonneg (-(n + 1)) (show of ≠ 0 by omega)
    have p2 := Int.emod_lt_of_pos (-(n + 1)) ho
    have e : -((n + 1).tmod of) = (-(n + 1)) % of := by rw [← Int.neg_tmod, Int.tmod_eq_emod_of_nonneg (by omega)]
    refine ⟨((-(n + 1)) % of).toNat, by omega, ?_, rfl⟩
    refine congrArg (fun z => Ending.returned (Value.int .i64 z)) (?_ : -((n + 1).tmod of) = _)
    rw [e]; omega
  · have hnz : ¬ of = 0 := by omega
    go_enter Try.func17, Try.ntmps17
    go_wp2
    go_ret
    have p1 := Int.emod_nonneg n (show of ≠ 0 by omega)
    have p2 := Int.emod_lt_of_pos n ho
    refine ⟨(n % of).toNat, by omega, ?_, rfl⟩
    refine congrArg (fun z => Ending.returned (Value.int .i64 z)) (?_ : n % of = _)
    omega
theorem md_nat (c : Nat) (hc : c < 549755813888) : mdV c = gaW (riW c) 39 ∧ mdB c = (wrW c == 1) ∧ mdE c = riE c := by
  have := md_ok (z := (c : Int)) ⟨by omega, by omega⟩
  rwa [Int.toNat_natCast] at this
theorem cd_nat (n : Nat) (hn : n < 4294967296) : cdV n = coN n ∧ cdE n = 0 := by
  have := cdE_ok (z := (n : Int)) ⟨by omega, by omega⟩
  rwa [Int.toNat_natCast] at this
theorem md_none (n : Nat) (hn : n < 4294967296) : mdV (coN n : Nat) = n ∧ mdB (coN n : Nat) = false ∧ mdE (coN n : Nat) = 0 := by
  obtain ⟨e1, e2, e3⟩ := md_nat (coN n) (coN_lt n)
  obtain ⟨h1, h2⟩ := none_wrong n
  rw [e1, e2, e3, h2, ga_co n hn, h1]
  refine ⟨rfl, rfl, ?_⟩
  unfold riE
  rw [h1]; rfl
theorem xo_lt (c p : Nat) (hc : c < 549755813888) (hp : p < 39) : c ^^^ 1 <<< p < 549755813888 := by
  refine Nat.xor_lt_two_pow (n := 39) hc ?_
  rw [Nat.shiftLeft_eq, Nat.one_mul]
  exact Nat.pow_lt_pow_right (by decide) hp
theorem md_one (n p : Nat) (hn : n < 4294967296) (hp : p < 39) : mdV (coN n ^^^ 1 <<< p : Nat) = n ∧ mdB (coN n ^^^ 1 <<< p : Nat) = true ∧ mdE (coN n ^^^ 1 <<< p : Nat) = 0 := by
  obtain ⟨e1, e2, e3⟩ := md_nat (coN n ^^^ 1 <<< p) (xo_lt _ _ (coN_lt n) hp)
  obtain ⟨h1, h2⟩ := one_wrong n p hp
  rw [e1, e2, e3, h2, ga_co n hn, h1]
  refine ⟨rfl, rfl, ?_⟩
  unfold riE
  rw [h1]; rfl
theorem md_two (n p q : Nat) (hn : n < 4294967296) (hp : p < 39) (hq : q < 39) (h : p ≠ q) : mdE (coN n ^^^ 1 <<< p ^^^ 1 <<< q : Nat) = 18 := by
  obtain ⟨e1, e2, e3⟩ := md_nat (coN n ^^^ 1 <<< p ^^^ 1 <<< q) (xo_lt _ _ (xo_lt _ _ (coN_lt n) hp) hq)
  rw [e3]
  unfold riE
  rw [two_wrong n p q hp hq h]; rfl
theorem xor_shl1 (c p : Nat) (hc : c < 549755813888) (hp : p < 39) : bits .xor .i64 (c : Int) (wrap64 (2 ^ p)) = ((c ^^^ 1 <<< p : Nat) : Int) := by
  rw [shl_one p hp]
  refine i64_xor_nat c (1 <<< p) (by omega) ?_
  rw [Nat.shiftLeft_eq, Nat.one_mul]
  exact Nat.pow_lt_pow_right (by decide) (by omega)
theorem mtwo_walk (n a b : Int) (hn : -9223372036854775808 ≤ n ∧ n ≤ 9223372036854775807) (ha : -9223372036854775808 ≤ a ∧ a ≤ 9223372036854775807) (hb : -9223372036854775808 ≤ b ∧ b ≤ 9223372036854775807) (w : World) :
    Calls Try.prog 5 #[.int .i64 n, .int .i64 a, .int .i64 b] w fun e w' => e = .returned (.bool true) ∧ Below w.heap.size w w' := by
  have p1 := fun wz => mpicked_any n 4294967296 wz hn.1 hn.2 (by decide) (by decide)
  have p2 := fun wz => mpicked_any a 39 wz ha.1 ha.2 (by decide) (by decide)
  have p3 := fun wz => mpicked_any b 39 wz hb.1 hb.2 (by decide) (by decide)
  have t1 : True := trivial
  go_enter Try.func5, Try.ntmps5
  go_wp2_with (first
    | (go_at_call 17; have _t := t1; clear t1; refine (p1 _).mono ?_; rintro e w1 ⟨W, hW, rfl, hw⟩; have hw := hw.symm; subst hw; have hWn : W < 4294967296 := (by omega); obtain ⟨c1, c2⟩ := cd_nat W hWn; have cW := fun wz => code_any (W : Int) wz; rw [c1, c2] at cW; have hCl := coN_lt W; have t2 : True := trivial)
    | (go_at_call 8; have _t := t2; clear t2; refine (cW _).mono ?_; rintro e w1 ⟨rfl, hw⟩; have hw := hw.symm; subst hw; have t3 : True := trivial)
    | (go_at_call 17; have _t := t3; clear t3; refine (p2 _).mono ?_; rintro e w1 ⟨P, hP, rfl, hw⟩; have hw := hw.symm; subst hw; have t4 : True := trivial)
    | (go_at_call 17; have _t := t4; clear t4; refine (p3 _).mono ?_; rintro e w1 ⟨Q, hQ, rfl, hw⟩; have hw := hw.symm; subst hw; obtain ⟨d1, d2, d3⟩ := md_none W hWn; have m1 := fun wz => mend_any (coN W : Nat) wz; rw [d1, d2, d3] at m1; have hPn : P < 39 := (by omega); have hQn : Q < 39 := (by omega); obtain ⟨f1, f2, f3⟩ := md_one W P hWn hPn; have m2 := fun wz => mend_any (coN W ^^^ 1 <<< P : Nat) wz; rw [f1, f2, f3] at m2; have x1 := xor_shl1 (coN W) P hCl hPn; have x2 := xor_shl1 (coN W ^^^ 1 <<< P) Q (xo_lt _ _ hCl hPn) hQn; have t5 : True := trivial)
    | (go_at_call 10; have _t := t5; clear t5; refine (m1 _).mono ?_; rintro e w1 ⟨rfl, hw⟩; have hw := hw.symm; subst hw; have t6 : True := trivial)
    | (go_at_call 10; have _t := t6; clear t6; refine (m2 _).mono ?_; rintro e w1 ⟨rfl, hw⟩; have hw := hw.symm; subst hw))
  clear m1 m2 cW p1 p2 p3
  by_cases hpq : P = Q
  · subst hpq
    have e0 : coN W ^^^ 1 <<< P ^^^ 1 <<< P = coN W := by rw [Nat.xor_assoc, Nat.xor_self, Nat.xor_zero]
    rw [e0] at x2
    have m3 := fun m => Calls.quiet_of_same (n := m) (mend_any (coN W : Nat) (w.drewN m))
    rw [d3, d1, d2] at m3
    clear e0 d1 d2 d3 f1 f2 f3 c1 c2
    generalize coN W ^^^ 1 <<< P = Y at x1 x2
    generalize coN W = C at x1 x2 m3 hCl ⊢
    go_quiet (first | (go_at_call 10; with_reducible exact m3 _))
    go_wp2
    go_ret
    exact ⟨rfl, (Below.refl _ _).grown ((⟨rfl, rfl, rfl, Nat.le_refl _, fun _ _ _ => rfl⟩ : w.grownBy (w.drewN _) none)) (Nat.le_refl _) (fun k hk => by cases hk)⟩
  · have m3 := fun m => Calls.quiet_of_same (n := m) (mend_any (coN W ^^^ 1 <<< P ^^^ 1 <<< Q : Nat) (w.drewN m))
    rw [md_two W P Q hWn hPn hQn hpq] at m3
    generalize mdV ((coN W ^^^ 1 <<< P ^^^ 1 <<< Q : Nat) : Int) = r1 at m3
    generalize mdB ((coN W ^^^ 1 <<< P ^^^ 1 <<< Q : Nat) : Int) = r2 at m3
    clear d1 d2 d3 f1 f2 f3 c1 c2
    generalize coN W ^^^ 1 <<< P ^^^ 1 <<< Q = Z at x2 m3
    generalize coN W ^^^ 1 <<< P = Y at x1 x2
    generalize coN W = C at x1 x2 hCl ⊢
    go_quiet (first | (go_at_call 10; with_reducible exact m3 _))
    have hpq2 : ¬ ((P : Int) = (Q : Int)) := by omega
    clear hpq hPn hQn x1 x2 m3 hP hQ hW hWn hCl hn ha hb
    go_wp2
    go_ret
    have hne : ((P : Int) != (Q : Int)) = true := by simpa using hpq2
    exact ⟨congrArg (fun b => Ending.returned (Value.bool b)) hne, (Below.refl _ _).grown ((⟨rfl, rfl, rfl, Nat.le_refl _, fun _ _ _ => rfl⟩ : w.grownBy (w.drewN _) none)) (Nat.le_refl _) (fun k hk => by cases hk)⟩
end Go.Proofs.Ytchbppidepapiaa
