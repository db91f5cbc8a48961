import Derived.Test.YtbgbohddkfaacaaSLay
namespace Go.Proofs.Ytbgbohddkfaacaa
open Go.RowKit
set_option maxRecDepth 100000
set_option linter.unusedVariables false
set_option linter.unusedSimpArgs false

theorem weave_step {D L : List Nat} (d c k N j : Nat) (hL : L.length = k * d) (hN : N = k * d + c * d) (hDl : D.length = N) (hj : j < d)
    (hD : ∀ p, p < N → nth D p = if p % d < j then nth (encL (pickL L (p % d) d) c) (p / d) else 0) (p : Nat) (hp : p < N) :
    nth (layN D (encL (pickL L j d) c) j d (k + c)) p = if p % d < j + 1 then nth (encL (pickL L (p % d) d) c) (p / d) else 0 := by
  have hd : 0 < d := by omega
  have hN' : N = (k + c) * d := by rw [hN, Nat.add_mul]
  have hpd : p / d < k + c := (Nat.div_lt_iff_lt_mul hd).2 (by rw [← hN']; exact hp)
  rw [nth_layN _ _ _ _ _ _ hj (fun i hi => by
    have h1 : (i + 1) * d ≤ (k + c) * d := Nat.mul_le_mul_right _ (by omega)
    rw [Nat.add_mul] at h1
    omega), hD p hp]
  by_cases e : p % d = j
  · rw [if_pos ⟨e, hpd⟩, if_pos (by omega), e]
  · rw [if_neg (fun h => e h.1)]
    by_cases e2 : p % d < j
    · rw [if_pos e2, if_pos (by omega)]
    · rw [if_neg e2, if_neg (by omega)]
set_option maxHeartbeats 1000000 in
theorem weave_ok (a : Option Addr) (n cap d c k : Nat) (L : List Nat) (w : World) (hp : Rd w a n cap L) (hd1 : 1 ≤ d) (hd : d ≤ 8) (hk : n = k * d) (hk1 : 1 ≤ k) (hc1 : 1 ≤ c) (hc : c ≤ 64) (hkc : k + c ≤ 255) :
    Calls Try.prog 15 #[.slice a n cap, .int .i64 d, .int .i64 c] w fun e w' => ∃ a' n' c', e = .returned (.tuple #[.slice a' n' c', .int .i64 0]) ∧ Ans w' w.heap.size a' n' c' (weaveL L d c) ∧ w.grownBy w' none := by
  have hd0 : 0 < d := by omega
  have hnn : n ≤ 2040 := by rw [hk]; exact Nat.le_trans (Nat.mul_le_mul (show k ≤ 255 by omega) hd) (by decide)
  have hmod : n % d = 0 := by rw [hk]; exact Nat.mul_mod_left _ _
  have HS := splits_yes n d w hd1 hd (by omega) hmod
  have hquo : (n : Int).tdiv (d : Int) = (k : Int) := by rw [hk, Int.natCast_mul, Int.mul_tdiv_cancel _ (by omega)]
  have hquo2 : (n : Int) / (d : Int) = (k : Int) := by rw [hk, Int.natCast_mul, Int.mul_ediv_cancel _ (by omega)]
  have hdz : ((d : Int) == 0) = false := by simp; omega
  have HF := rowFits_yes k c w (by omega) (by omega) (by omega) (by omega)
  obtain ⟨y, hy⟩ : ∃ y, y = c * d := ⟨_, rfl⟩
  have hy8 : y ≤ 512 := by rw [hy]; exact Nat.le_trans (Nat.mul_le_mul hc hd) (by decide)
  have hyz : (c : Int) * (d : Int) = (y : Int) := by rw [hy, Int.natCast_mul]
  have HY : Hid (y = c * d) := hy
  have HK : Hid (n = k * d) := hk
  have HL : Hid (L.length = n) := hp.len
  clear hy hk hmod
  go_enter Try.func15, Try.ntmps15
  go_wp2_with (first
    | (go_at_call 33; refine HS.mono ?_; rintro e w' ⟨rfl, hw⟩; have hw := hw.symm; subst hw)
    | (go_at_call 29; refine HF.mono ?_; rintro e w' ⟨rfl, hw⟩; have hw := hw.symm; subst hw)
    | (at_make; refine wpList_mkB _ rfl _ _ rfl _ _ (n + y) rfl rfl (by omega) (by omega) (by omega) ?_; intro w1 hb1 hg1))
  obtain ⟨N, hNN⟩ : ∃ N, N = n + y := ⟨_, rfl⟩
  rw [← hNN] at hb1 ⊢
  have hN2 : N ≤ 4000 := by omega
  have HN : Hid (N = k * d + c * d) := by show _ = _; rw [hNN, HK.out, HY.out]
  have HN' : Hid (N = n + y) := hNN
  clear hNN HS HF
  go_loopw [32] (fun i wr => ∃ j : Nat, j ≤ d ∧ i = .int .i64 j ∧ w.grownBy wr none ∧ ∃ D, Blk wr w.heap.size D ∧ D.length = N ∧ IsB D ∧ ∀ p, p < N → nth D p = if p % d < j then nth (encL (pickL L (p % d) d) c) (p / d) else 0) (fun i _ => d - (intOf i).toNat)
  case atStart => exact ⟨0, by omega, rfl, hg1, _, hb1, by simp, isB_zeros _, fun p _ => by rw [nth_zeros, if_neg (Nat.not_lt_zero _)]⟩
  case round =>
    obtain ⟨j, hj, rfl, hgr, D, hB, hDl, hDB, hD⟩ := hrel
    have HD : Hid (∀ p, p < N → nth D p = if p % d < j then nth (encL (pickL L (p % d) d) c) (p / d) else 0) := hD
    have HDl : Hid (D.length = N) := hDl
    clear hD hDl
    by_cases hlt : j < d
    · have HPK := pick_any a n cap j d k L wr (hp.keep hgr) hd hlt HK.out (by omega)
      have hm : k + c ≤ 255 := hkc
      have hBL := isB_pickL hp.byte j d
      go_wp2_with (first
        | (go_at_call 35; refine HPK.mono ?_; rintro e w2 ⟨ap, cp, rfl, hp2, g12⟩)
        | (go_at_call 30; refine (enc_any ap k cp c (pickL L j d) w2 hp2.rd (by omega) hc hkc).mono ?_; rintro e w3 ⟨rfl, he3, g23⟩; have hb3 := hB.grown (grown_trans g12 g23) (by simp); have hfit : (k + c) * d ≤ N := (by rw [HN.out, Nat.add_mul]; exact Nat.le_refl _); have hne : 0 < k + c → ∀ b' off, (some ⟨w2.heap.size, 0, none⟩ : Option Addr) = some ⟨b', off, none⟩ → some b' ≠ some w.heap.size := (fun _ b' off e => by cases e; have := hB.lt; have := g12.size; simp; omega))
        | (go_at_call 34; refine (lay_any w.heap.size N N (k + c) (k + c) j d _ D (encL (pickL L j d) c) w3 hb3 hDB he3.rd hne hlt hd hm HDl.out hfit).mono ?_; rintro e w4 ⟨rfl, hb4, g34⟩))
      have g04 := grown_far (grown_trans hgr (grown_trans g12 g23)) g34 (fun g e => by cases e; exact Nat.le_refl _)
      go_roundw
      case rel =>
        refine ⟨j + 1, by omega, by go_num, g04, _, hb4, by rw [layN_len]; exact HDl.out, isB_layN hDB he3.byte _ _ _, fun p hp' => ?_⟩
        exact weave_step d c k N j (by rw [HL.out]; exact HK.out) HN.out HDl.out hlt HD.out p hp'
      case measure => simp [intOf]; omega
    · obtain rfl : j = d := by omega
      have HE : Hid (D = weaveL L j c) := by
        show _ = _
        refine list_ext (by rw [HDl.out, weaveL_len, HL.out, HN'.out, HY.out]) fun p hp' => ?_
        rw [HDl.out] at hp'
        rw [nth_weaveL _ _ _ _ (by rw [HL.out, ← HY.out, ← HN'.out]; exact hp'), HD.out p hp', if_pos (Nat.mod_lt _ hd0)]
      have hans := hB.ans (n := N) (lo := w.heap.size) hDB (by rw [HDl.out]; exact Nat.le_refl _) (by rw [HDl.out]; unfold maxLen; omega) (Nat.le_refl _)
      rw [HDl.out, List.take_of_length_le (by rw [HDl.out]; exact Nat.le_refl _), HE.out] at hans
      go_wp2
      go_ret2
      exact ⟨_, _, _, rfl, hans, hgr⟩
end Go.Proofs.Ytbgbohddkfaacaa
