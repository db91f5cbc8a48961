import Derived.Test.YtaigcjhachkmmaaDoorYRd
import Derived.Test.YtaigcjhachkmmaaDoorYRm
import Derived.Test.YtaigcjhachkmmaaDoorYNC
namespace Go.Proofs.YtaigcjhachkmmaaDoor
open Go.RowKit
set_option maxRecDepth 100000
set_option linter.unusedVariables false
set_option linter.unusedSimpArgs false
theorem rd_part {w : World} {b off n cap : Nat} {L : List Nat} (h : Rd w (some ⟨b, off, none⟩) n cap L) (o m c : Nat) (hm : o + m ≤ n) (hc : m ≤ c) (hcm : c ≤ maxLen) (h0 : 0 < n) : Rd w (some ⟨b, off + o, none⟩) m c ((List.range m).map fun i => nth L (o + i)) := by
  obtain ⟨b', off', e, hb, hcc⟩ := h.at' h0
  cases e
  refine ⟨by simp, hc, hcm, (fun h => by cases h), ?_, fun _ => ⟨b, off + o, rfl, hb, fun i hi => ?_⟩⟩
  · intro y hy
    obtain ⟨i, _, rfl⟩ := List.mem_map.1 hy
    exact h.byte.nth _
  · rw [Nat.add_assoc, hcc (o + i) (by omega)]
    congr 2
    show (nth L (o + i) : Int) = (nth ((List.range m).map fun i => nth L (o + i)) i : Nat)
    unfold nth
    rw [List.getD_eq_getElem?_getD (l := (List.range m).map _), List.getElem?_map, List.getElem?_range hi]; rfl
theorem tagP_bad (a bo : Option Addr) (n cap m cb : Nat) (z : Int) (S : List Int) (w : World) (hp : RdI w a n cap S) (he : ¬ blE n S z 0 = 0) :
    Calls Tryd.prog 18 #[.slice a n cap, .int .i64 z, .slice bo m cb] w fun e w' => e = .returned (.tuple #[.slice none 0 0, .int .i64 (blE n S z 0)]) ∧ w' = w := by
  have hw := pad_bad a n cap z 0 S w hp he
  generalize blE n S z 0 = v at *
  go_enter Tryd.func18, Tryd.ntmps18
  go_wp2_with (go_at_call 37; refine hw.mono ?_; rintro e w' ⟨rfl, rfl⟩)
  go_ret2
  exact ⟨rfl, rfl⟩
theorem tagP_long (a bo : Option Addr) (cap c m cb : Nat) (S : List Int) (W : Nat → Nat) (B : List Nat) (w : World) (hp : RdI w a 8 cap S) (hW : ∀ i, i < 8 → nthI S i = (W i : Int) ∧ W i < 4294967296) (hc : c < 281474976710656) (hb : Rd w bo m cb B) (hm : 2000 < m) :
    Calls Tryd.prog 18 #[.slice a 8 cap, .int .i64 c, .slice bo m cb] w fun e w' => e = .returned (.tuple #[.slice none 0 0, .int .i64 1]) ∧ w.grownBy w' none := by
  have hw := pad_ok a cap c 0 S W w hp hW hc (by decide)
  have h1 := hb.le; have h2 := hb.max
  unfold maxLen at h2
  have hmi : (m : Int) > 2000 := by omega
  go_enter Tryd.func18, Tryd.ntmps18
  go_wp2_with (go_at_call 37; refine hw.mono ?_; rintro e w' ⟨a', c', rfl, hA, g⟩)
  go_ret2
  exact ⟨rfl, g⟩
theorem or_i64 (v b : Nat) (hv : v < 562949953421312) (hb : b < 256) : bits .or .i64 ((v : Int) * 256) (b : Int) = ((v * 256 + b : Nat) : Int) := by
  have := i64_or_nat (v * 256) b (by omega) (by omega)
  rw [show ((v * 256 : Nat) : Int) = (v : Int) * 256 by omega] at this
  rw [this]
  have h3 := Nat.two_pow_add_eq_or_of_lt (i := 8) (b := b) (by omega) v
  rw [show 2 ^ 8 * v = v * 256 by omega] at h3
  rw [← h3]
theorem ch_rd' {w : World} {b off n cap : Nat} {B : List Nat} (hp : Rd w (some ⟨b, off, none⟩) n cap B) (k : Nat) (hk : 7 * k < n) (h0 : 0 < n) : IsB (chB B 7 k) ∧ ∀ i, i < chL n 7 k → w.cell? ⟨b, off + (7 * k + i), none⟩ = some (.int .u8 (nth (chB B 7 k) i : Nat)) := by
  obtain ⟨b', off', e, hb, hc⟩ := hp.at' h0
  cases e
  refine ⟨isB_take (isB_drop hp.byte _) _, fun i hi => ?_⟩
  unfold chL at hi
  have e : nth (chB B 7 k) i = nth B (7 * k + i) := by
    unfold nth chB
    rw [List.getD_eq_getElem?_getD, List.getD_eq_getElem?_getD, List.getElem?_take, if_pos (by omega), List.getElem?_drop]
  rw [e]; exact hc _ (by omega)
set_option maxHeartbeats 4000000 in
theorem tagP_ok (a bo : Option Addr) (cap c n cb : Nat) (S : List Int) (W : Nat → Nat) (B : List Nat) (w : World) (hp : RdI w a 8 cap S) (hW : ∀ i, i < 8 → nthI S i = (W i : Int) ∧ W i < 4294967296) (hc : c < 281474976710656) (hb : Rd w bo n cb B) (hn : n ≤ 2000) :
    Calls Tryd.prog 18 #[.slice a 8 cap, .int .i64 c, .slice bo n cb] w fun e w' => ∃ a' c', e = .returned (.tuple #[.slice a' 8 c', .int .i64 0]) ∧ Ans w' w.heap.size a' 8 c' (tagL W c B) ∧ w.grownBy w' none := by
  have hw := pad_ok a cap c 0 S W w hp hW hc (by decide)
  have hni : ¬ (n : Int) > 2000 := by omega
  go_enter Tryd.func18, Tryd.ntmps18
  go_wp2_with (go_at_call 37; refine hw.mono ?_; rintro e w1 ⟨a', c', rfl, hA, g1⟩)
  rcases hA.cases with ⟨_, h, _⟩ | ⟨g, rfl, hlo, hlt⟩
  · omega
  have hm := hA.max
  have hP1 := rd_part hA.rd 0 8 c' (by decide) (by omega) (by omega) (by decide)
  have hP2 := rd_part hA.rd 8 8 (c' - 8) (by decide) (by omega) (by omega) (by decide)
  have hX : ((List.range 8).map fun i => nth (padL W c 0) (0 + i)) = (List.range 8).map fun i => padB W c 0 (0 + i) := List.map_congr_left (fun i hi => padL_at W c 0 (0 + i) (by have := List.mem_range.1 hi; omega))
  have hY : ((List.range 8).map fun i => nth (padL W c 0) (8 + i)) = (List.range 8).map fun i => padB W c 0 (8 + i) := List.map_congr_left (fun i hi => padL_at W c 0 (8 + i) (by have := List.mem_range.1 hi; omega))
  rw [hX] at hP1
  rw [hY] at hP2
  rw [Nat.zero_add] at hP1 hP2
  have hM1 := fun z => Calls.quiet_of_same (n := z) (modP_any _ _ _ (w1.drewN z) (hP1.keep (grown_drewN _ _ _)))
  have hM2 := fun z => Calls.quiet_of_same (n := z) (modP_any _ _ _ (w1.drewN z) (hP2.keep (grown_drewN _ _ _)))
  obtain ⟨R, hR⟩ : ∃ R, R = nuN ((List.range 8).map fun i => padB W c 0 (0 + i)) 8 % 2305843009213693951 := ⟨_, rfl⟩
  obtain ⟨T, hT⟩ : ∃ T, T = nuN ((List.range 8).map fun i => padB W c 0 (8 + i)) 8 % 2305843009213693951 := ⟨_, rfl⟩
  rw [← hR] at hM1
  rw [← hT] at hM2
  have HR : Hid (R = tgR W c) := hR
  have HT : Hid (T = tgS W c) := hT
  have bR : R < 2305843009213693951 := by rw [hR]; exact Nat.mod_lt _ (by decide)
  have bT : T < 2305843009213693951 := by rw [hT]; exact Nat.mod_lt _ (by decide)
  have hc8 : (8 : Int) ≤ (c' : Int) := by omega
  have hc16 : (16 : Int) ≤ (c' : Int) := by omega
  have hcne : ¬ c' = 8 := by omega
  clear hR hT hX hY hP1 hP2 hw hp hW
  go_quiet (first | (go_at_call 38; with_reducible exact hM1 _) | (go_at_call 38; with_reducible exact hM2 _))
  go_wp2
  have g1' := grown_trans g1 (grown_drewN w1 nq none)
  have hb1 := hb.keep g1'
  generalize w1.drewN nq = w2 at *
  clear hM1 hM2 hA hlt
  have HL : Hid (B.length = n) := hb.len
  obtain ⟨m, hm7⟩ : ∃ m, m = (n + 6) / 7 := ⟨_, rfl⟩
  go_loopw [12, 13] (fun x i wr => ∃ k : Nat, k ≤ m ∧ i = .int .i64 (7 * k : Nat) ∧ x = .int .i64 (tgN B R k : Nat) ∧ wr = w2) (fun _ i _ => 7 * m + 7 - (intOf i).toNat)
  case atStart => exact ⟨0, by omega, rfl, rfl, rfl⟩
  case round =>
    obtain ⟨k, hk, rfl, rfl, hwr⟩ := hrel
    have hwr := hwr.symm
    subst hwr
    have hsl := tgN_lt B R k
    by_cases hlt : k < m
    · obtain ⟨b, off, rfl, hbw, hcc⟩ := hb1.at' (by omega)
      have hch := ch_rd' hb1 k (show 7 * k < n by omega) (by omega)
      have hLen : (chB B 7 k).length = chL n 7 k := by rw [chB_len, HL.out]
      obtain ⟨l, hl⟩ : ∃ l, l = chL n 7 k := ⟨_, rfl⟩
      have hl1 : l ≤ 7 ∧ 7 * k + l ≤ n ∧ (l = 7 ∨ 7 * k + l = n) := by rw [hl]; unfold chL; omega
      have HG : Hid (grV B k = nuN (chB B 7 k) l + 256 ^ l) := by show _ = _; unfold grV; rw [hLen, ← hl]
      obtain ⟨C, hC⟩ : ∃ C, C = chB B 7 k := ⟨_, rfl⟩
      rw [← hC, ← hl] at hch
      rw [← hC] at HG
      have hCB : IsB C := hch.1
      have hCc := hch.2
      obtain ⟨q, hq⟩ : ∃ q, q = 7 * k := ⟨_, rfl⟩
      rw [← hq] at hCc hl1 ⊢
      have HQ : Hid (q = 7 * k) := hq
      have HTg : Hid (tgN B R (k + 1) = (tgN B R k + grV B k) * R % 2305843009213693951) := rfl
      have hqm : q + 7 ≤ 7 * m := by omega
      have hqn : q < n := by omega
      obtain ⟨s, hs⟩ : ∃ s, s = tgN B R k := ⟨_, rfl⟩
      rw [← hs] at hsl HTg ⊢
      clear hl hC hq hs hcc hLen hm7
      have hq0 : (q : Int) < (n : Int) := by omega
      go_wp2
      go_loopw [14, 15] (fun x i wr => ∃ t : Nat, t ≤ l ∧ i = .int .i64 (q + t : Nat) ∧ x = .int .i64 (nuN C t + 256 ^ t : Nat) ∧ wr = w2) (fun _ i _ => q + l + 1 - (intOf i).toNat)
      case atStart => exact ⟨0, by omega, rfl, rfl, rfl⟩
      case round =>
        obtain ⟨t, ht, rfl, rfl, hwr⟩ := hrel
        have hwr := hwr.symm
        subst hwr
        have hv := nuN_lt hCB t
        have hpw : 256 ^ t ≤ 72057594037927936 := pow_seven _ (by omega)
        by_cases htl : t < l
        · have hpw6 : 256 ^ t ≤ 281474976710656 := Nat.le_trans (Nat.pow_le_pow_right (by decide) (show t ≤ 6 by omega)) (by decide)
          have cc := hCc t htl
          have hbt := hCB.nth t
          have HN : Hid (nuN C (t + 1) + 256 ^ (t + 1) = (nuN C t + 256 ^ t) * 256 + nth C t) := by
            show nuN C t * 256 + nth C t + 256 ^ (t + 1) = _
            rw [Nat.pow_succ, Nat.add_mul]; omega
          obtain ⟨v, hv'⟩ : ∃ v, v = nuN C t + 256 ^ t := ⟨_, rfl⟩
          have hvl : v < 562949953421312 := by omega
          rw [← hv'] at HN ⊢
          have hor := or_i64 v (nth C t) hvl hbt
          generalize nth C t = bb at *
          have h1 : ((q + t : Nat) : Int) < (q : Int) + 7 := by omega
          have h2 : ((q + t : Nat) : Int) < (n : Int) := by omega
          have h3 : q + t < n := by omega
          clear hv' hv hpw hpw6
          obtain ⟨qt, hqt⟩ : ∃ qt, qt = q + t := ⟨_, rfl⟩
          rw [← hqt] at h1 h2 h3 cc ⊢
          have HQT : Hid (qt = q + t) := hqt
          clear hqt
          go_wp2
          go_roundw
          case rel => exact ⟨t + 1, by omega, by rw [show q + (t + 1) = qt + 1 by rw [HQT.out]; omega]; go_num, by rw [HN.out]; exact congrArg _ (by omega), by first | rfl | trivial⟩
          case measure => simp [intOf] <;> (have := HQT.out; omega)
        · obtain rfl : t = l := by omega
          obtain ⟨v, hv'⟩ : ∃ v, v = nuN C t + 256 ^ t := ⟨_, rfl⟩
          have hvl : v < 144115188075855872 := by omega
          rw [← hv'] at HG ⊢
          obtain ⟨z, hz⟩ : ∃ z, z = (s + v) % 2305843009213693951 := ⟨_, rfl⟩
          have ez : ((s : Int) + (v : Int)) % 2305843009213693951 = (z : Int) := by omega
          have ez2 : ((s : Int) + (v : Int)).tmod 2305843009213693951 = (z : Int) := by rw [Int.tmod_eq_emod_of_nonneg (by omega)]; exact ez
          have hzl : z < 2305843009213693951 := by omega
          have hTm := timesP_any z R hzl bR w2
          have HZ : Hid (z * R % 2305843009213693951 = tgN B R (k + 1)) := by
            show _ = _
            rw [HTg.out, HG.out, hz]
            simp [Nat.mul_mod]
          obtain ⟨y, hy⟩ : ∃ y, y = z * R % 2305843009213693951 := ⟨_, rfl⟩
          rw [← hy] at hTm HZ
          have h7 : ((q + t : Nat) : Int) < (q : Int) + 7 ∨ ¬ ((q + t : Nat) : Int) < (q : Int) + 7 := Classical.em _
          have hnn : ((q + t : Nat) : Int) < (q : Int) + 7 → ¬ ((q + t : Nat) : Int) < (n : Int) := fun h => by omega
          clear hv' hv hpw hz hy hCc hch HG HTg
          obtain ⟨qt, hqt⟩ : ∃ qt, qt = q + t := ⟨_, rfl⟩
          rw [← hqt] at h7 hnn ⊢
          clear hqt
          rcases h7 with h7 | h7
          · have hn2 := hnn h7
            clear hnn
            go_wp2_with (go_at_call 39; refine hTm.mono ?_; rintro e w' ⟨rfl, hw⟩; have hw := hw.symm; subst hw)
            go_roundw
            case rel => exact ⟨k + 1, by omega, by rw [show 7 * (k + 1) = q + 7 by rw [HQ.out]; omega]; go_num, by rw [← HZ.out], by first | rfl | trivial⟩
            case measure => simp [intOf] <;> (have := HQ.out; omega)
          · clear hnn
            go_wp2_with (go_at_call 39; refine hTm.mono ?_; rintro e w' ⟨rfl, hw⟩; have hw := hw.symm; subst hw)
            go_roundw
            case rel => exact ⟨k + 1, by omega, by rw [show 7 * (k + 1) = q + 7 by rw [HQ.out]; omega]; go_num, by rw [← HZ.out], by first | rfl | trivial⟩
            case measure => simp [intOf] <;> (have := HQ.out; omega)
    · obtain rfl : k = m := by omega
      have hge : ¬ ((7 * k : Nat) : Int) < (n : Int) := by omega
      obtain ⟨V, hV⟩ : ∃ V, V = (tgN B R k + T) % 2305843009213693951 := ⟨_, rfl⟩
      have HV : Hid (tagL W c B = beT 8 V 8) := by
        show _ = _
        unfold tagL tagV
        rw [hV, HL.out, ← hm7, ← HR.out, ← HT.out]
      obtain ⟨s, hs⟩ : ∃ s, s = tgN B R k := ⟨_, rfl⟩
      rw [← hs] at hsl hV ⊢
      have eV : ((s : Int) + (T : Int)) % 2305843009213693951 = (V : Int) := by omega
      have eV2 : ((s : Int) + (T : Int)).tmod 2305843009213693951 = (V : Int) := by rw [Int.tmod_eq_emod_of_nonneg (by omega)]; exact eV
      have hVl : V < 2305843009213693951 := by omega
      generalize 7 * k = q at *
      clear hV hs HL hm7 HR HT hb hb1
      have hw2 := g1'.size
      go_wp2
      go_loopw [16, 17] (fun x i wr => ∃ (j p : Nat) (ao : Option Addr) (co : Nat), j + p = 8 ∧ i = .int .i64 ((j : Int) - 1) ∧ x = .slice ao p co ∧ Ans wr w.heap.size ao p co (beT 8 V p) ∧ w.grownBy wr none) (fun _ i _ => (intOf i + 1).toNat)
      case atStart => exact ⟨8, 0, none, 0, rfl, rfl, rfl, ans_nil _ _, g1'⟩
      case round =>
        obtain ⟨j, p, ao, co, hjp, rfl, rfl, hAp, hGp⟩ := hrel
        cases j with
        | zero =>
          obtain rfl : p = 8 := by omega
          go_wp2
          go_ret2
          exact ⟨ao, co, rfl, by rw [HV.out]; exact hAp, hGp⟩
        | succ j =>
          have e1 : ((j + 1 : Nat) : Int) - 1 = (j : Int) := by omega
          rw [e1]
          clear e1
          obtain ⟨y, hy⟩ : ∃ y, y = V / 2 ^ (8 * j) % 256 := ⟨_, rfl⟩
          have ey : (V : Int) / 2 ^ (8 * j) % 256 = (y : Int) := by rw [hy, Int.natCast_emod, Int.natCast_ediv, Int.natCast_pow]; rfl
          have hyl : y < 256 := by rw [hy]; exact Nat.mod_lt _ (by decide)
          have HY : Hid (beT 8 V (p + 1) = beT 8 V p ++ [y]) := by
            show _ = _
            rw [beT_succ]
            unfold beB
            rw [hy, show (8 - 1 - p) * 8 = 8 * j by omega]
          have hj0 : (0 : Int) ≤ (j : Int) := by omega
          have hj8 : 8 * (j : Int) < 64 := by omega
          have hAl := hAp.keep (World.grownBy_alloc wr (.cells #[.int .u8 (y : Nat)] 5) none)
          have hGl := grown_trans hGp (World.grownBy_alloc wr (.cells #[.int .u8 (y : Nat)] 5) none)
          have hsz := hGl.size
          have hyB : IsB [y] := fun z hz => by simp at hz; subst hz; exact hyl
          clear hy
          go_wp2_with (at_builtin; refine wpList_joinB w _ w.heap.size rfl _ _ rfl ao p co _ rfl hAl (Nat.le_refl _) hsz hGl ⟨wr.heap.size, 0, none⟩ 1 1 [y] rfl rfl hyB (cell_one wr (.int .u8 (y : Nat))) (by decide) (by omega) ?_; intro gx cx w5 hA5 hG5 hgx hgr5)
          rw [← HY.out] at hA5
          go_roundw
          case rel => exact ⟨j, p + 1, some ⟨gx, 0, none⟩, cx, by omega, by go_num, rfl, hA5, hG5⟩
          case measure => simp [intOf] <;> omega
end Go.Proofs.YtaigcjhachkmmaaDoor
