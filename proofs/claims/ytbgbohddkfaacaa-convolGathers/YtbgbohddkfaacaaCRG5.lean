import Derived.Test.YtbgbohddkfaacaaCRG4
import Derived.Test.YtbgbohddkfaacaaCGaL
namespace Go.Proofs.Ytbgbohddkfaacaa
open Go.RowKit
set_option maxRecDepth 100000
set_option linter.unusedVariables false
set_option linter.unusedSimpArgs false

set_option maxHeartbeats 4000000 in
theorem rGather_all (a : Option Addr) (m cap : Nat) (n z : Int) (S : List Int) (w : World) (hp : RdI w a m cap S) (hn1 : -9223372036854775808 ≤ n) (hn2 : n ≤ 9223372036854775807) :
    Calls Try.prog 18 #[.slice a m cap, .int .i64 n, .int .i64 z] w fun e w' => ∃ a' n' c', e = .returned (.tuple #[.slice a' n' c', .int .i64 (gatC S n z), .int .i64 (gatE S n z)]) ∧ Ans w' w.heap.size a' n' c' (gatL S n z) ∧ w.grownBy w' none := by
  have hm1 := hp.le; have hm2 := hp.max
  unfold maxLen at hm2
  by_cases hz : rateOk z
  · obtain ⟨r, rfl⟩ := Int.eq_ofNat_of_zero_le (a := z) (by have := hz.1; omega)
    have h1 : 1 ≤ r := by have := hz.1; omega
    have h2 : r ≤ 5 := by have := hz.2; omega
    have hbad : ¬ sizeOk m n (r : Int) → gatE S n r = 1 ∧ gatL S n r = [] ∧ gatC S n r = 0 := by
      intro h
      have e : gatE S n r = 1 := by unfold gatE; rw [if_pos hz, hp.len, if_neg h]
      exact ⟨e, by unfold gatL; rw [e, if_neg (by decide)], by unfold gatC; rw [e, if_neg (by decide)]⟩
    by_cases hn0 : n < 0
    · obtain ⟨HE, HL, HC⟩ := hbad (fun h => by have := h.1; omega)
      rw [HE, HL, HC]
      clear hbad HE HL HC hz
      go_enter Try.func18, Try.ntmps18
      go_wp2
      go_ret3
      exact ⟨none, 0, 0, rfl, ans_nil _ _, World.grownBy.refl _ _⟩
    · obtain ⟨n, rfl⟩ := Int.eq_ofNat_of_zero_le (a := n) (by omega)
      by_cases hn3 : n ≤ 16384
      · have HC := fun w' => rmany_any r n (by omega) h1 h2 w'
        have hcl := cntN_le r (n + 6)
        by_cases hsz : m = cntN r (n + 6)
        · have hSO : sizeOk m (n : Int) (r : Int) := ⟨by omega, by omega, by simpa using hsz⟩
          have hge : gatE S n r = if softOk S = true then 0 else 2 := by unfold gatE; rw [if_pos hz, hp.len, if_pos hSO]
          by_cases hso : softOk S = true
          · rw [if_pos hso] at hge
            have HL : gatL S n r = gotN (prV r S) n := by unfold gatL; rw [hge, if_pos rfl]; simp [gotN]
            have HC' : gatC S n r = vN (prV r S) n (n + 6) 0 := by unfold gatC; rw [hge, if_pos rfl]; simp
            rw [hge, HL, HC']
            refine (rGather_ok a m cap n r S w hp hn3 h1 h2 hsz hso).mono ?_
            rintro e w' ⟨a', c', rfl, hA, hg⟩
            exact ⟨a', n, c', rfl, hA, hg⟩
          · rw [if_neg hso] at hge
            have HL : gatL S n r = [] := by unfold gatL; rw [hge, if_neg (by decide)]
            have HC' : gatC S n r = 0 := by unfold gatC; rw [hge, if_neg (by decide)]
            rw [hge, HL, HC']
            have hpos := cnt_pos r n h1 h2
            have hne : ((m : Int) != ((cntN r (n + 6) : Nat) : Int)) = false := by rw [hsz]; simp
            have hmp : 0 < m := by omega
            obtain ⟨b, off, e, hbw, hcc⟩ := hp.at' hmp
            subst e
            have HSO : Hid (¬ softOk S = true) := hso
            have HLn : Hid (S.length = m) := hp.len
            have HCC : Hid (∀ i, i < m → w.cell? ⟨b, off + i, none⟩ = some (.int .i64 (nthI S i))) := hcc
            clear hbad hge HL HC' hz hSO hso hcc hsz hpos
            generalize cntN r (n + 6) = cc at *
            go_enter Try.func18, Try.ntmps18
            go_wp2_with (go_at_call 40; refine (HC _).mono ?_; rintro e w1 ⟨rfl, hw⟩; have hw := hw.symm; subst hw)
            go_loop [9] (fun i => ∃ k : Nat, k ≤ m ∧ i = .int .i64 k ∧ ∀ j, j < k → -7 ≤ nthI S j ∧ nthI S j ≤ 7) (fun i => m - (intOf i).toNat)
            case atStart => exact ⟨0, by omega, rfl, fun j hj => by omega⟩
            case round =>
              obtain ⟨k, hk, rfl, hbk⟩ := hrel
              have HBK : Hid (∀ j, j < k → -7 ≤ nthI S j ∧ nthI S j ≤ 7) := hbk
              clear hbk
              by_cases hlt : k < m
              · have hck := HCC.out k hlt
                by_cases hx : -7 ≤ nthI S k ∧ nthI S k ≤ 7
                · have HX : Hid (-7 ≤ nthI S k ∧ nthI S k ≤ 7) := hx
                  obtain ⟨hx1, hx2⟩ := hx
                  generalize nthI S k = x at hx1 hx2 hck
                  go_wp2
                  go_round
                  case rel => exact ⟨k + 1, by omega, by go_num, fun j hj => by
                    by_cases e : j = k
                    · rw [e]; exact HX.out
                    · exact HBK.out j (by omega)⟩
                  case measure => simp [intOf]; omega
                · by_cases hx1 : nthI S k < -7
                  · clear hx
                    generalize nthI S k = x at *
                    go_wp2
                    go_ret3
                    exact ⟨none, 0, 0, rfl, ans_nil _ _, World.grownBy.refl _ _⟩
                  · have hx2 : 7 < nthI S k := by omega
                    clear hx
                    generalize nthI S k = x at *
                    go_wp2
                    go_ret3
                    exact ⟨none, 0, 0, rfl, ans_nil _ _, World.grownBy.refl _ _⟩
              · exact absurd (of_soft S (fun i hi => HBK.out i (by rw [HLn.out] at hi; omega))) HSO.out
        · obtain ⟨HE, HL, HC'⟩ := hbad (fun h => hsz (by have := h.2.2; simpa using this))
          rw [HE, HL, HC']
          have hne : ((m : Int) != ((cntN r (n + 6) : Nat) : Int)) = true := by simp; omega
          clear hbad HE HL HC' hz hsz
          generalize cntN r (n + 6) = cc at *
          go_enter Try.func18, Try.ntmps18
          go_wp2_with (go_at_call 40; refine (HC _).mono ?_; rintro e w1 ⟨rfl, hw⟩; have hw := hw.symm; subst hw)
          go_ret3
          exact ⟨none, 0, 0, rfl, ans_nil _ _, World.grownBy.refl _ _⟩
      · obtain ⟨HE, HL, HC⟩ := hbad (fun h => by have := h.2.1; omega)
        rw [HE, HL, HC]
        clear hbad HE HL HC hz
        go_enter Try.func18, Try.ntmps18
        go_wp2
        go_ret3
        exact ⟨none, 0, 0, rfl, ans_nil _ _, World.grownBy.refl _ _⟩
  · have e : gatE S n z = 6 := by unfold gatE; rw [if_neg hz]
    have HL : gatL S n z = [] := by unfold gatL; rw [e, if_neg (by decide)]
    have HC : gatC S n z = 0 := by unfold gatC; rw [e, if_neg (by decide)]
    rw [e, HL, HC]
    by_cases hz1 : z < 1
    · clear hz e HL HC
      go_enter Try.func18, Try.ntmps18
      go_wp2
      go_ret3
      exact ⟨none, 0, 0, rfl, ans_nil _ _, World.grownBy.refl _ _⟩
    · have hz5 : 5 < z := by unfold rateOk at hz; omega
      clear hz e HL HC
      go_enter Try.func18, Try.ntmps18
      go_wp2
      go_ret3
      exact ⟨none, 0, 0, rfl, ans_nil _ _, World.grownBy.refl _ _⟩
theorem gatL_le (S : List Int) (n z : Int) : (gatL S n z).length ≤ 16384 := by
  unfold gatL
  split
  · next h =>
    have hs : sizeOk S.length n z := by
      unfold gatE at h
      split at h
      · split at h
        · assumption
        · cases h
      · cases h
    have h1 := hs.1; have h2 := hs.2.1
    simp [folL]; omega
  · simp
set_option maxHeartbeats 1000000 in
theorem gathers_walk (a : Option Addr) (n cap : Nat) (k z : Int) (S : List Int) (w : World) (hp : RdI w a n cap S) (hn : n ≤ 17592186044000) (h1 : -9223372036854775808 ≤ k) (h2 : k ≤ 9223372036854775807) :
    Calls Try.prog 6 #[.slice a n cap, .int .i64 k, .int .i64 z] w fun e w' => e = .returned (.bool true) ∧ Below w.heap.size w w' := by
  have t1 : True := trivial
  have sle := gatL_le S k z
  go_enter Try.func6, Try.ntmps6
  go_wp2_with (first
    | (go_at_call 18; have _t := t1; clear t1; refine (rGather_all a n cap k z S w hp h1 h2).mono ?_; rintro e w1 ⟨aw, nw, cw, rfl, hw1, g01⟩; have hp1 := hp.keep g01; have t2 : True := trivial)
    | (go_at_call 19; have _t := t2; clear t2; refine (copied_any a n cap S w1 hp1 hn).mono ?_; rintro e w2 ⟨ah, ch, rfl, hh2, g12⟩; have hH2 := hh2.rd; have t3 : True := trivial)
    | (go_at_call 20; have _t := t3; clear t3; refine (Gather_all _ n _ k z S w2 hH2 h1 h2).mono ?_; rintro e w3 ⟨aa, na, ca, rfl, ha3, g23⟩; have hH3 := hH2.keep g23; have t4 : True := trivial)
    | (go_at_call 20; have _t := t4; clear t4; refine (Gather_all _ n _ k z S w3 hH3 h1 h2).mono ?_; rintro e w4 ⟨ab, nb, cb, rfl, hb4, g34⟩; have hna := ha3.len; have t5 : True := trivial)
    | (go_at_call 12; have _t := t5; clear t5; refine (twice_any aa ab aw na nb nw ca cb cw w2.heap.size _ w4 (ha3.keep g34) hb4.rd (hw1.keep (grown_trans g12 (grown_trans g23 g34))).rd (by omega) (ha3.later hb4 (Nat.le_refl _)) (ha3.earlier hw1 g12.size)).mono ?_; rintro e w5 ⟨rfl, g45⟩; have g25 := grown_far (grown_trans g23 g34) g45 (ha3.far _ (Nat.le_refl _)); have g05 := grown_trans g01 (grown_trans g12 g25); have t6 : True := trivial)
    | (go_at_call 21; have _t := t6; clear t6; refine (sameInts_any _ _ _ _ _ _ S w5 (hH2.keep g25) (hp.keep g05)).mono ?_; rintro e w6 ⟨rfl, g56⟩))
  go_ret
  exact ⟨rfl, (Below.refl _ _).grown (grown_trans g05 g56) (Nat.le_refl _) (fun k hk => by cases hk)⟩
end Go.Proofs.Ytbgbohddkfaacaa
