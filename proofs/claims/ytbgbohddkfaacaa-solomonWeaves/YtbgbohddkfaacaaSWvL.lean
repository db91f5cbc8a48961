import Derived.Test.YtbgbohddkfaacaaSRWv
namespace Go.Proofs.Ytbgbohddkfaacaa
open Go.RowKit
set_option maxRecDepth 100000
set_option linter.unusedVariables false
set_option linter.unusedSimpArgs false

/-! what Weave answers, whatever came in -/
abbrev wvOk (n : Nat) (d c : Int) : Prop := 1 ≤ d ∧ d ≤ 8 ∧ n % d.toNat = 0 ∧ 1 ≤ c ∧ c ≤ 64 ∧ 1 ≤ n / d.toNat ∧ ((n / d.toNat : Nat) : Int) + c ≤ 255
def wvE (n : Nat) (d c : Int) : Int := if wvOk n d c then 0 else 1
def wvR (L : List Nat) (d c : Int) : List Nat := if wvOk L.length d c then weaveL L d.toNat c.toNat else []
theorem weave_bad (a : Option Addr) (n cap : Nat) (d c : Int) (w : World) (hn : n ≤ 9223372036854775807) (h : ¬ wvOk n d c) :
    Calls Try.prog 15 #[.slice a n cap, .int .i64 d, .int .i64 c] w fun e w' => e = .returned (.tuple #[.slice none 0 0, .int .i64 1]) ∧ w' = w := by
  by_cases hs : 1 ≤ d ∧ d ≤ 8 ∧ n % d.toNat = 0
  · obtain ⟨h1, h2, h3⟩ := hs
    obtain ⟨k, rfl⟩ := Int.eq_ofNat_of_zero_le (a := d) (by omega)
    unfold wvOk at h
    rw [Int.toNat_natCast] at h h3
    have hle : n / k ≤ n := Nat.div_le_self _ _
    obtain ⟨q, hq⟩ : ∃ q, q = n / k := ⟨_, rfl⟩
    rw [← hq] at h hle
    have HS := splits_yes n k w (by omega) (by omega) hn h3
    have HF := rowFits_no (q : Int) c w (by omega) (by omega) (by omega)
    have hquo2 : (n : Int) / (k : Int) = (q : Int) := by rw [hq]; simp
    have hquo : (n : Int).tdiv (k : Int) = (q : Int) := by rw [Int.tdiv_eq_ediv_of_nonneg (by omega)]; exact hquo2
    have hdz : ((k : Int) == 0) = false := by simp; omega
    clear h h3 hq
    go_enter Try.func15, Try.ntmps15
    go_wp2_with (first
      | (go_at_call 33; refine HS.mono ?_; rintro e w' ⟨rfl, hw⟩; have hw := hw.symm; subst hw)
      | (go_at_call 29; refine HF.mono ?_; rintro e w' ⟨rfl, hw⟩; have hw := hw.symm; subst hw))
    go_ret2
    exact ⟨rfl, rfl⟩
  · have HS := splits_no n d w hn hs
    clear h hs
    go_enter Try.func15, Try.ntmps15
    go_wp2_with (go_at_call 33; refine HS.mono ?_; rintro e w' ⟨rfl, hw⟩; have hw := hw.symm; subst hw)
    go_ret2
    exact ⟨rfl, rfl⟩
set_option maxHeartbeats 2000000 in
theorem rweave_bad (a : Option Addr) (n cap : Nat) (d c : Int) (w : World) (hn : n ≤ 140737488351240) (hc1 : -9223372036854775808 ≤ c) (hc2 : c ≤ 9223372036854775807) (h : ¬ wvOk n d c) :
    Calls Try.prog 14 #[.slice a n cap, .int .i64 d, .int .i64 c] w fun e w' => e = .returned (.tuple #[.slice none 0 0, .int .i64 1]) ∧ w' = w := by
  by_cases h1 : 1 ≤ d
  · by_cases h2 : d ≤ 8
    · by_cases h0 : n = 0
      · subst h0
        clear h
        go_enter Try.func14, Try.ntmps14
        go_wp2
        go_ret2
        exact ⟨rfl, rfl⟩
      · obtain ⟨k, rfl⟩ := Int.eq_ofNat_of_zero_le (a := d) (by omega)
        have hnz : ((n : Int) == 0) = false := by simp; omega
        have hdz : ((k : Int) == 0) = false := by simp; omega
        by_cases h3 : n % k = 0
        · unfold wvOk at h
          rw [Int.toNat_natCast] at h
          have hr : (n : Int) % (k : Int) = 0 := by have := congrArg (fun x : Nat => (x : Int)) h3; simpa using this
          have hr2 : (n : Int).tmod (k : Int) = 0 := by rw [Int.tmod_eq_emod_of_nonneg (by omega)]; exact hr
          have hle : n / k ≤ n := Nat.div_le_self _ _
          obtain ⟨q, hq⟩ : ∃ q, q = n / k := ⟨_, rfl⟩
          rw [← hq] at h hle
          have hquo2 : (n : Int) / (k : Int) = (q : Int) := by rw [hq]; simp
          have hquo : (n : Int).tdiv (k : Int) = (q : Int) := by rw [Int.tdiv_eq_ediv_of_nonneg (by omega)]; exact hquo2
          by_cases hc : 1 ≤ c ∧ c ≤ 64
          · obtain ⟨h5, h6⟩ := hc
            have H := sized_no ((q : Int) + c) c w (by omega)
            clear h h3 h0 hq
            go_enter Try.func14, Try.ntmps14
            go_wp2_with (go_at_call 24; refine H.mono ?_; rintro e w' ⟨rfl, hw⟩; have hw := hw.symm; subst hw)
            go_ret2
            exact ⟨rfl, rfl⟩
          · have H := fun m => sized_no m c w (by omega)
            clear h h3 h0 hq
            go_enter Try.func14, Try.ntmps14
            go_wp2_with (go_at_call 24; refine (H _).mono ?_; rintro e w' ⟨rfl, hw⟩; have hw := hw.symm; subst hw)
            go_ret2
            exact ⟨rfl, rfl⟩
        · have hr : ((n : Int) % (k : Int) != 0) = true := by
            have : ((n % k : Nat) : Int) ≠ 0 := by omega
            simpa using this
          have hr2 : ((n : Int).tmod (k : Int) != 0) = true := by rw [Int.tmod_eq_emod_of_nonneg (by omega)]; exact hr
          clear h h3 h0
          go_enter Try.func14, Try.ntmps14
          go_wp2
          go_ret2
          exact ⟨rfl, rfl⟩
    · clear h
      go_enter Try.func14, Try.ntmps14
      go_wp2
      go_ret2
      exact ⟨rfl, rfl⟩
  · clear h
    go_enter Try.func14, Try.ntmps14
    go_wp2
    go_ret2
    exact ⟨rfl, rfl⟩
theorem wv_open {n : Nat} {d c : Int} (h : wvOk n d c) : ∃ d' c' k : Nat, d = d' ∧ c = c' ∧ 1 ≤ d' ∧ d' ≤ 8 ∧ n = k * d' ∧ 1 ≤ k ∧ 1 ≤ c' ∧ c' ≤ 64 ∧ k + c' ≤ 255 := by
  obtain ⟨h1, h2, h3, h4, h5, h6, h7⟩ := h
  obtain ⟨d', rfl⟩ := Int.eq_ofNat_of_zero_le (a := d) (by omega)
  obtain ⟨c', rfl⟩ := Int.eq_ofNat_of_zero_le (a := c) (by omega)
  rw [Int.toNat_natCast] at h3 h6 h7
  refine ⟨d', c', n / d', rfl, rfl, by omega, by omega, ?_, h6, by omega, by omega, by omega⟩
  have := dm_eq n d'
  omega
theorem wvR_le (L : List Nat) (d c : Int) : (wvR L d c).length ≤ 4000 := by
  unfold wvR; split
  · next h =>
    obtain ⟨d', c', k, rfl, rfl, h1, h2, h3, h4, h5, h6, h7⟩ := wv_open h
    rw [weaveL_len, Int.toNat_natCast, Int.toNat_natCast, h3, ← Nat.add_mul]
    exact Nat.le_trans (Nat.mul_le_mul h7 h2) (by decide)
  · simp
theorem weave_all (a : Option Addr) (n cap : Nat) (d c : Int) (L : List Nat) (w : World) (hp : Rd w a n cap L) :
    Calls Try.prog 15 #[.slice a n cap, .int .i64 d, .int .i64 c] w fun e w' => ∃ a' n' c', e = .returned (.tuple #[.slice a' n' c', .int .i64 (wvE n d c)]) ∧ Ans w' w.heap.size a' n' c' (wvR L d c) ∧ w.grownBy w' none := by
  have h1 := hp.le; have h2 := hp.max
  unfold maxLen at h2
  unfold wvE wvR
  rw [hp.len]
  by_cases h : wvOk n d c
  · rw [if_pos h, if_pos h]
    obtain ⟨d', c', k, rfl, rfl, h1, h2, h3, h4, h5, h6, h7⟩ := wv_open h
    rw [Int.toNat_natCast, Int.toNat_natCast]
    exact weave_ok a n cap d' c' k L w hp h1 h2 h3 h4 h5 h6 h7
  · rw [if_neg h, if_neg h]
    refine (weave_bad a n cap d c w (by omega) h).mono ?_
    rintro e w' ⟨rfl, rfl⟩
    exact ⟨none, 0, 0, rfl, ans_nil _ _, World.grownBy.refl _ _⟩
theorem rweave_all (a : Option Addr) (n cap : Nat) (d c : Int) (L : List Nat) (w : World) (hp : Rd w a n cap L) (hn : n ≤ 140737488351240) (hc1 : -9223372036854775808 ≤ c) (hc2 : c ≤ 9223372036854775807) :
    Calls Try.prog 14 #[.slice a n cap, .int .i64 d, .int .i64 c] w fun e w' => ∃ a' n' c', e = .returned (.tuple #[.slice a' n' c', .int .i64 (wvE n d c)]) ∧ Ans w' w.heap.size a' n' c' (wvR L d c) ∧ w.grownBy w' none := by
  unfold wvE wvR
  rw [hp.len]
  by_cases h : wvOk n d c
  · rw [if_pos h, if_pos h]
    obtain ⟨d', c', k, rfl, rfl, h1, h2, h3, h4, h5, h6, h7⟩ := wv_open h
    rw [Int.toNat_natCast, Int.toNat_natCast]
    exact rweave_ok a n cap d' c' k L w hp h1 h2 h3 h4 h5 h6 h7
  · rw [if_neg h, if_neg h]
    refine (rweave_bad a n cap d c w hn hc1 hc2 h).mono ?_
    rintro e w' ⟨rfl, rfl⟩
    exact ⟨none, 0, 0, rfl, ans_nil _ _, World.grownBy.refl _ _⟩

set_option maxHeartbeats 1000000 in
theorem weaves_walk (a : Option Addr) (n cap : Nat) (d c : Int) (P : List Nat) (w : World) (hp : Rd w a n cap P) (hn : n ≤ 140737488351232) (hc1 : -9223372036854775808 ≤ c) (hc2 : c ≤ 9223372036854775807) :
    Calls Try.prog 4 #[.slice a n cap, .int .i64 d, .int .i64 c] w fun e w' => e = .returned (.bool true) ∧ Below w.heap.size w w' := by
  have t1 : True := trivial
  have sle := wvR_le P d c
  go_enter Try.func4, Try.ntmps4
  go_wp2_with (first
    | (go_at_call 9; have _t := t1; clear t1; refine (roomy_any a n cap P w hp hn).mono ?_; rintro e w1 ⟨rfl, ⟨Dh, hh1⟩, g01⟩; have hp1 := hp.keep g01; have t2 : True := trivial)
    | (go_at_call 14; have _t := t2; clear t2; refine (rweave_all a n cap d c P w1 hp1 (by omega) hc1 hc2).mono ?_; rintro e w2 ⟨aw, nw, cw, rfl, hw2, g12⟩; have hH2 := (hh1.keep g12).rd hp.byte hp.len hn; have t3 : True := trivial)
    | (go_at_call 15; have _t := t3; clear t3; refine (weave_all _ n _ d c P w2 hH2).mono ?_; rintro e w3 ⟨aa, na, ca, rfl, ha3, g23⟩; have hH3 := hH2.keep g23; have t4 : True := trivial)
    | (go_at_call 15; have _t := t4; clear t4; refine (weave_all _ n _ d c P w3 hH3).mono ?_; rintro e w4 ⟨ab, nb, cb, rfl, hb4, g34⟩; have hna := ha3.len; have t5 : True := trivial)
    | (go_at_call 12; have _t := t5; clear t5; refine (twice_any aa ab aw na nb nw ca cb cw w2.heap.size _ w4 (ha3.keep g34) hb4.rd (hw2.keep (grown_trans g23 g34)).rd (by omega) (ha3.later hb4 (Nat.le_refl _)) (ha3.earlier hw2 (Nat.le_refl _))).mono ?_; rintro e w5 ⟨rfl, g45⟩; have g15 := grown_far (grown_trans g12 (grown_trans g23 g34)) g45 (ha3.far _ g12.size); have g05 := grown_trans g01 g15; have t6 : True := trivial)
    | (go_at_call 13; have _t := t6; clear t6; refine (left_any w.heap.size a n cap P Dh w5 (hh1.keep g15) (hp.keep g05) hn).mono ?_; rintro e w6 ⟨rfl, g56⟩))
  go_ret
  exact ⟨rfl, (Below.refl _ _).grown (grown_trans g05 g56) (Nat.le_refl _) (fun k hk => by cases hk)⟩
end Go.Proofs.Ytbgbohddkfaacaa
