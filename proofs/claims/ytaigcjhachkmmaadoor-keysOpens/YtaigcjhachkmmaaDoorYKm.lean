import Derived.Test.YtaigcjhachkmmaaDoorYEr
import Derived.Laws.BitsAllLaws
namespace Go.Proofs.YtaigcjhachkmmaaDoor
open Go.RowKit
set_option maxRecDepth 100000
set_option linter.unusedVariables false
set_option linter.unusedSimpArgs false
/-- a key as a value -/
abbrev kyV (id : Int) (a : Option Addr) (n cap : Nat) (top seen : Int) : Value := .agg #[.int .i64 id, .slice a n cap, .int .i64 top, .int .i64 seen]
/-- how many counters Seen may tell -/
def snT (top : Int) : Nat := min top.toNat 62
def snB (top seen : Int) : Bool := kwB seen 0 ((2 ^ snT top : Nat) - 1)
theorem snT_le (top : Int) : snT top ≤ 62 := by unfold snT; omega
theorem snT_pow (top : Int) : 1 ≤ 2 ^ snT top ∧ 2 ^ snT top ≤ 4611686018427387904 :=
  ⟨Nat.pow_pos (by decide), Nat.le_trans (Nat.pow_le_pow_right (by decide) (snT_le top)) (by decide)⟩
set_option maxHeartbeats 1000000 in
theorem seenMayBe_any (id : Int) (a : Option Addr) (n cap : Nat) (top seen : Int) (w : World) :
    Calls Tryd.prog 50 #[kyV id a n cap top seen] w fun e w' => e = .returned (.bool (snB top seen)) ∧ w.grownBy w' none := by
  obtain ⟨p1, p2⟩ := snT_pow top
  have gA := World.grownBy_alloc w (.cells #[.int .i64 id, .slice a n cap, .int .i64 top, .int .i64 seen] 36) none
  have hwi := fun v z => Calls.quiet_of_same (n := z) (ywithin_any seen 0 v ((w.alloc (.cells #[.int .i64 id, .slice a n cap, .int .i64 top, .int .i64 seen] 36)).drewN z))
  by_cases h1 : top ≤ 0
  · have HB : Hid (kwB seen 0 0 = snB top seen) := by show _ = _; unfold snB snT; rw [show min top.toNat 62 = 0 by omega]; rfl
    have hw0 := hwi 0
    clear hwi p1 p2
    by_cases h0 : top = 0
    · subst h0
      go_enter Tryd.func50, Tryd.ntmps50
      go_wp2
      go_quiet (first | (go_at_call 22; with_reducible exact hw0 _))
      go_wp2
      go_ret
      exact ⟨by rw [← HB.out]; rfl, grown_trans gA (grown_drewN _ _ _)⟩
    · have h3 : top < 0 := by omega
      have h4 : ¬ 0 < top := by omega
      have h5 : ¬ 0 ≤ top := by omega
      go_enter Tryd.func50, Tryd.ntmps50
      go_wp2
      go_quiet (first | (go_at_call 22; with_reducible exact hw0 _))
      go_wp2
      go_ret
      exact ⟨by rw [← HB.out]; rfl, grown_trans gA (grown_drewN _ _ _)⟩
  · by_cases h2 : top ≤ 62
    · obtain ⟨t, rfl⟩ : ∃ t : Nat, top = (t : Int) := ⟨top.toNat, by omega⟩
      obtain ⟨q, hq⟩ : ∃ q, q = 2 ^ snT (t : Int) := ⟨_, rfl⟩
      rw [← hq] at p1 p2
      have e : snT (t : Int) = t := by unfold snT; omega
      have hpe : (2 : Int) ^ t = (q : Int) := by rw [hq, e, Int.natCast_pow]; rfl
      have HB : Hid (kwB seen 0 ((q : Int) - 1) = snB t seen) := by show _ = _; unfold snB; rw [hq]
      have hw0 := hwi ((q : Int) - 1)
      have h1' : (0 : Int) < (t : Int) := by omega
      have ht : t ≤ 62 := by omega
      clear hwi hq e
      go_enter Tryd.func50, Tryd.ntmps50
      go_wp2
      go_quiet (first | (go_at_call 22; with_reducible exact hw0 _))
      go_wp2
      go_ret
      exact ⟨by rw [← HB.out]; rfl, grown_trans gA (grown_drewN _ _ _)⟩
    · have HB : Hid (kwB seen 0 4611686018427387903 = snB top seen) := by show _ = _; unfold snB snT; rw [show min top.toNat 62 = 62 by omega]; rfl
      have hw0 := hwi 4611686018427387903
      have h1' : (0 : Int) < top := by omega
      have h2' : (62 : Int) < top := by omega
      clear hwi p1 p2
      go_enter Tryd.func50, Tryd.ntmps50
      go_wp2
      go_quiet (first | (go_at_call 22; with_reducible exact hw0 _))
      go_wp2
      go_ret
      exact ⟨by rw [← HB.out]; rfl, grown_trans gA (grown_drewN _ _ _)⟩
def kmB (id : Int) (n : Nat) (S : List Int) (top seen : Int) : Bool := kwB id 0 255 && (wdE n S == 0) && kwB top (-1) 281474976710655 && snB top seen
set_option maxHeartbeats 2000000 in
theorem keyMayBe_any (id : Int) (a : Option Addr) (n cap : Nat) (top seen : Int) (S : List Int) (w : World) (hp : RdI w a n cap S) :
    Calls Tryd.prog 33 #[kyV id a n cap top seen] w fun e w' => e = .returned (.bool (kmB id n S top seen)) ∧ w.grownBy w' none := by
  have gA := World.grownBy_alloc w (.cells #[.int .i64 id, .slice a n cap, .int .i64 top, .int .i64 seen] 36) none
  have hp1 := hp.keep gA
  have hW := wrongWords_any a n cap S _ hp1
  have hI := ywithin_any id 0 255 (w.alloc (.cells #[.int .i64 id, .slice a n cap, .int .i64 top, .int .i64 seen] 36))
  have hT := ywithin_any top (-1) 281474976710655 (w.alloc (.cells #[.int .i64 id, .slice a n cap, .int .i64 top, .int .i64 seen] 36))
  have hS := seenMayBe_any id a n cap top seen (w.alloc (.cells #[.int .i64 id, .slice a n cap, .int .i64 top, .int .i64 seen] 36))
  unfold kmB
  have t1 : True := trivial
  have hwv := wdE_vals n S
  generalize kwB id 0 255 = b1 at *
  generalize wdE n S = v at *
  generalize kwB top (-1) 281474976710655 = b3 at *
  generalize snB top seen = b4 at *
  cases b1
  · go_enter Tryd.func33, Tryd.ntmps33
    go_wp2_with (go_at_call 22; refine hI.mono ?_; rintro e w' ⟨rfl, hw⟩; have hw := hw.symm; subst hw)
    go_ret
    exact ⟨rfl, gA⟩
  · by_cases hv : v = 0
    · subst hv
      cases b3
      · go_enter Tryd.func33, Tryd.ntmps33
        go_wp2_with (first
          | (go_at_call 22; have _t := t1; clear t1; refine hI.mono ?_; rintro e w' ⟨rfl, hw⟩; have hw := hw.symm; subst hw; have t2 : True := trivial)
          | (go_at_call 49; refine hW.mono ?_; rintro e w' ⟨rfl, hw⟩; have hw := hw.symm; subst hw)
          | (go_at_call 22; have _t := t2; clear t2; refine hT.mono ?_; rintro e w' ⟨rfl, hw⟩; have hw := hw.symm; subst hw))
        go_ret
        exact ⟨rfl, gA⟩
      · go_enter Tryd.func33, Tryd.ntmps33
        go_wp2_with (first
          | (go_at_call 22; have _t := t1; clear t1; refine hI.mono ?_; rintro e w' ⟨rfl, hw⟩; have hw := hw.symm; subst hw; have t2 : True := trivial)
          | (go_at_call 49; refine hW.mono ?_; rintro e w' ⟨rfl, hw⟩; have hw := hw.symm; subst hw)
          | (go_at_call 22; have _t := t2; clear t2; refine hT.mono ?_; rintro e w' ⟨rfl, hw⟩; have hw := hw.symm; subst hw)
          | (go_at_call 50; refine hS.mono ?_; rintro e w2 ⟨rfl, g2⟩))
        go_ret
        exact ⟨by simp, grown_trans gA g2⟩
    · have hvb : (v == 0) = false := by simpa using hv
      go_enter Tryd.func33, Tryd.ntmps33
      go_wp2_with (first
        | (go_at_call 22; have _t := t1; clear t1; refine hI.mono ?_; rintro e w' ⟨rfl, hw⟩; have hw := hw.symm; subst hw; have t2 : True := trivial)
        | (go_at_call 49; refine hW.mono ?_; rintro e w' ⟨rfl, hw⟩; have hw := hw.symm; subst hw))
      go_ret
      exact ⟨by simp [hvb], gA⟩
theorem blE_nil (n : Nat) (S : List Int) : blE n S 0 0 = wdE n S := by
  unfold blE
  by_cases h : wdE n S = 0
  · rw [if_pos h, if_pos ⟨kwB_t (by omega), kwB_t (by omega)⟩, h]
  · rw [if_neg h]
theorem seen_all {s T : Nat} (hs : s < 2 ^ 62) (hT : T ≤ 62) (h : ∀ i, i < 62 → s.testBit i = true → i < T) : s < 2 ^ T := by
  apply Nat.lt_pow_two_of_testBit
  intro i hi
  by_cases h2 : i < 62
  · cases e : s.testBit i
    · rfl
    · have := h i h2 e; omega
  · exact Nat.testBit_lt_two_pow (Nat.lt_of_lt_of_le hs (Nat.pow_le_pow_right (by decide) (by omega)))
theorem seen_not {s T i : Nat} (hi : T ≤ i) (h : s.testBit i = true) : ¬ s < 2 ^ T := fun hlt => by
  rw [Nat.testBit_lt_two_pow (Nat.lt_of_lt_of_le hlt (Nat.pow_le_pow_right (by decide) hi))] at h
  cases h
set_option maxHeartbeats 4000000 in
theorem rkeyMay_any (id : Int) (a : Option Addr) (n cap : Nat) (top seen : Int) (S : List Int) (w : World) (hp : RdI w a n cap S) (bt : -9223372036854775808 ≤ top ∧ top ≤ 9223372036854775807) (bs : -9223372036854775808 ≤ seen ∧ seen ≤ 9223372036854775807) :
    Calls Tryd.prog 36 #[kyV id a n cap top seen] w fun e w' => e = .returned (.bool (kmB id n S top seen)) ∧ w.grownBy w' none := by
  have gA := World.grownBy_alloc w (.cells #[.int .i64 id, .slice a n cap, .int .i64 top, .int .i64 seen] 36) none
  have hp1 := hp.keep gA
  have hW := padded_any a n cap 0 0 S _ hp1
  rw [blE_nil] at hW
  by_cases h1 : id < 0
  · have HB : Hid (kmB id n S top seen = false) := by show _ = _; unfold kmB; rw [kwB_f (by omega)]; rfl
    go_enter Tryd.func36, Tryd.ntmps36
    go_wp2
    go_ret
    exact ⟨by rw [HB.out]; rfl, gA⟩
  by_cases h2 : id > 255
  · have HB : Hid (kmB id n S top seen = false) := by show _ = _; unfold kmB; rw [kwB_f (by omega)]; rfl
    go_enter Tryd.func36, Tryd.ntmps36
    go_wp2
    go_ret
    exact ⟨by rw [HB.out]; rfl, gA⟩
  by_cases h3 : wdE n S = 0
  · have hk1 : kwB id 0 255 = true := kwB_t (by omega)
    rw [h3] at hW
    by_cases h4 : top < -1
    · have HB : Hid (kmB id n S top seen = false) := by show _ = _; unfold kmB; rw [kwB_f (n := top) (by omega)]; simp
      go_enter Tryd.func36, Tryd.ntmps36
      go_wp2_with (go_at_call 52; refine hW.mono ?_; rintro e w' ⟨rfl, hw⟩; have hw := hw.symm; subst hw)
      go_ret
      exact ⟨by rw [HB.out]; rfl, gA⟩
    by_cases h5 : top > 281474976710655
    · have HB : Hid (kmB id n S top seen = false) := by show _ = _; unfold kmB; rw [kwB_f (n := top) (by omega)]; simp
      go_enter Tryd.func36, Tryd.ntmps36
      go_wp2_with (go_at_call 52; refine hW.mono ?_; rintro e w' ⟨rfl, hw⟩; have hw := hw.symm; subst hw)
      go_ret
      exact ⟨by rw [HB.out]; rfl, gA⟩
    have hk3 : kwB top (-1) 281474976710655 = true := kwB_t (by omega)
    have hkm : kmB id n S top seen = snB top seen := by unfold kmB; rw [hk1, h3, hk3]; rfl
    have hpw := snT_pow top
    by_cases h6 : seen < 0
    · have HB : Hid (kmB id n S top seen = false) := by show _ = _; rw [hkm]; unfold snB; rw [kwB_f (by omega)]
      clear hkm
      go_enter Tryd.func36, Tryd.ntmps36
      go_wp2_with (go_at_call 52; refine hW.mono ?_; rintro e w' ⟨rfl, hw⟩; have hw := hw.symm; subst hw)
      go_ret
      exact ⟨by rw [HB.out]; rfl, gA⟩
    obtain ⟨s, rfl⟩ : ∃ s : Nat, seen = (s : Int) := ⟨seen.toNat, by omega⟩
    by_cases h7 : s < 4611686018427387904
    · have h7' : (s : Int) / 4611686018427387904 = 0 := by omega
      have HK : Hid (kmB id n S top s = snB top s) := hkm
      clear hkm hk1 hk3 h3
      go_enter Tryd.func36, Tryd.ntmps36
      go_wp2_with (go_at_call 52; refine hW.mono ?_; rintro e w' ⟨rfl, hw⟩; have hw := hw.symm; subst hw)
      have c2 : (w.alloc (.cells #[.int .i64 id, .slice a n cap, .int .i64 top, .int .i64 (s : Nat)] 36)).cell? ⟨w.heap.size, 2, none⟩ = some (.int .i64 top) := by rw [cell_of_row _ _ _ _ _ _ (heap_alloc_new w _)]; rfl
      have c3 : (w.alloc (.cells #[.int .i64 id, .slice a n cap, .int .i64 top, .int .i64 (s : Nat)] 36)).cell? ⟨w.heap.size, 3, none⟩ = some (.int .i64 (s : Nat)) := by rw [cell_of_row _ _ _ _ _ _ (heap_alloc_new w _)]; rfl
      generalize w.alloc (.cells #[.int .i64 id, .slice a n cap, .int .i64 top, .int .i64 (s : Nat)] 36) = wa at *
      clear hW hp1 hp
      go_loopw [3] (fun i wr => ∃ k : Nat, k ≤ 62 ∧ i = .int .i64 (k : Nat) ∧ wr = wa ∧ Hid (∀ i, i < k → s.testBit i = true → i < snT top)) (fun i _ => 62 - (intOf i).toNat)
      case atStart => exact ⟨0, by omega, rfl, rfl, show ∀ i, i < 0 → s.testBit i = true → i < snT top from fun i hi => absurd hi (by omega)⟩
      case round =>
        obtain ⟨k, hk, rfl, hwr, HA⟩ := hrel
        have hwr := hwr.symm
        subst hwr
        by_cases hlt : k < 62
        · have hki : (k : Int) < 62 := by omega
          obtain ⟨M, hM⟩ : ∃ M, M = s / 2 ^ k := ⟨_, rfl⟩
          have eM : (s : Int) / 2 ^ k = (M : Int) := by rw [hM, Int.natCast_ediv, Int.natCast_pow]; rfl
          have hMl : M < 2 ^ 63 := by rw [hM]; exact Nat.lt_of_le_of_lt (Nat.div_le_self _ _) (by omega)
          have hbit : bits .and .i64 (M : Int) 1 = ((M % 2 : Nat) : Int) := by
            have := i64_and_nat M 1 hMl (by decide)
            rw [show ((1 : Nat) : Int) = 1 from rfl] at this
            rw [this, Nat.and_one_is_mod]
          have htb : s.testBit k = decide (M % 2 = 1) := by rw [hM]; exact Nat.testBit_eq_decide_div_mod_eq
          clear hM
          by_cases hb1 : M % 2 = 1
          · rw [hb1] at hbit htb
            have hbit' : bits .and .i64 (M : Int) 1 = 1 := hbit
            by_cases hT : top - 1 - (k : Int) < 0
            · have HB : Hid (kmB id n S top s = false) := by
                show _ = _
                rw [HK.out]
                unfold snB
                rw [kwB_f]
                intro hh
                exact seen_not (s := s) (T := snT top) (i := k) (by unfold snT; omega) (by rw [htb]; rfl) (by omega)
              clear htb hbit
              go_wp2
              go_ret
              exact ⟨by rw [HB.out]; rfl, gA⟩
            · have HA2 : Hid (∀ i, i < k + 1 → s.testBit i = true → i < snT top) := show ∀ i, i < k + 1 → s.testBit i = true → i < snT top from fun i hi h => by
                by_cases e : i = k
                · subst e; unfold snT; omega
                · exact HA.out i (by omega) h
              clear htb hbit HA
              go_wp2
              go_roundw
              case rel => exact ⟨k + 1, by omega, by go_num, by first | rfl | trivial, HA2⟩
              case measure => simp [intOf] <;> omega
          · have hb0 : M % 2 = 0 := by omega
            rw [hb0] at hbit htb
            have hbit' : bits .and .i64 (M : Int) 1 = 0 := hbit
            have HA2 : Hid (∀ i, i < k + 1 → s.testBit i = true → i < snT top) := show ∀ i, i < k + 1 → s.testBit i = true → i < snT top from fun i hi h => by
              by_cases e : i = k
              · subst e; rw [htb] at h; cases h
              · exact HA.out i (by omega) h
            clear htb hbit HA
            go_wp2
            go_roundw
            case rel => exact ⟨k + 1, by omega, by go_num, by first | rfl | trivial, HA2⟩
            case measure => simp [intOf] <;> omega
        · obtain rfl : k = 62 := by omega
          have HB : Hid (kmB id n S top s = true) := by
            show _ = _
            rw [HK.out]
            unfold snB
            have := seen_all (s := s) h7 (snT_le top) HA.out
            exact kwB_t (by omega)
          clear HA
          go_wp2
          go_ret
          exact ⟨by rw [HB.out]; rfl, gA⟩
    · have h7' : (s : Int) / 4611686018427387904 = 1 := by omega
      have HB : Hid (kmB id n S top s = false) := by show _ = _; rw [hkm]; unfold snB; rw [kwB_f (by omega)]
      clear hkm
      go_enter Tryd.func36, Tryd.ntmps36
      go_wp2_with (go_at_call 52; refine hW.mono ?_; rintro e w' ⟨rfl, hw⟩; have hw := hw.symm; subst hw)
      go_ret
      exact ⟨by rw [HB.out]; rfl, gA⟩
  · have HB : Hid (kmB id n S top seen = false) := by
      show _ = _
      unfold kmB
      rw [show (wdE n S == 0) = false by simpa using h3]; simp
    generalize wdE n S = v at *
    go_enter Tryd.func36, Tryd.ntmps36
    go_wp2_with (go_at_call 52; refine hW.mono ?_; rintro e w' ⟨rfl, hw⟩; have hw := hw.symm; subst hw)
    go_ret
    exact ⟨by rw [HB.out]; rfl, gA⟩
end Go.Proofs.YtaigcjhachkmmaaDoor
