import Derived.Test.YtbgbohddkfaacaaCBst
namespace Go.Proofs.Ytbgbohddkfaacaa
open Go.RowKit
set_option maxRecDepth 100000
set_option linter.unusedVariables false
set_option linter.unusedSimpArgs false

theorem isBit_zeros (n : Nat) : IsBit (List.replicate n 0) := fun i => by rw [nth_zeros]; decide
theorem shl_top : ∀ k, k < 9 → wrap64 ((2 : Int) ^ k) = ((2 ^ k : Nat) : Int) ∧ IntKind.i64.wrap ((2 : Int) ^ k) = ((2 ^ k : Nat) : Int) ∧ 2 ^ k ≤ 256 := by decide +kernel
theorem i64_bit (m s : Nat) (hm : m < 1000000) : bits .and .i64 ((m : Int) / 2 ^ s) 1 = ((m / 2 ^ s % 2 : Nat) : Int) := by
  have e : ((m : Int) / 2 ^ s) = ((m / 2 ^ s : Nat) : Int) := by simp
  have hl : m / 2 ^ s < 2 ^ 63 := Nat.lt_of_le_of_lt (Nat.div_le_self _ _) (Nat.lt_trans hm (by decide))
  have := i64_and_nat (m / 2 ^ s) 1 hl (by decide)
  rw [e]
  simp only [Nat.and_one_is_mod] at this
  exact this
theorem not_false : (!true) = false := rfl
set_option maxHeartbeats 8000000 in
theorem best_walk (a : Option Addr) (n0 cap0 : Nat) (zn zr : Int) (S0 : List Int) (w : World) (hp : RdI w a n0 cap0 S0) (hr : ∀ i, -9223372036854775808 ≤ nthI S0 i ∧ nthI S0 i ≤ 9223372036854775807)
    (hn1 : -9223372036854775808 ≤ zn) (hn2 : zn ≤ 9223372036854775807) (hr1 : -9223372036854775808 ≤ zr) (hr2 : zr ≤ 9223372036854775807) :
    Calls Try.prog 7 #[.slice a n0 cap0, .int .i64 zn, .int .i64 zr] w fun e w' => e = .returned (.bool true) ∧ Below w.heap.size w w' := by
  have hm1 := hp.le; have hm2 := hp.max
  unfold maxLen at hm2
  have t1 : True := trivial
  go_enter Try.func7, Try.ntmps7
  go_wp2_with (first
    | (go_at_call 22; have _t := t1; clear t1; refine (picked_any zn 9 w hn1 hn2 (by decide) (by decide)).mono ?_; rintro e w1 ⟨k, hk, rfl, hw⟩; have hw := hw.symm; subst hw; have t2 : True := trivial)
    | (go_at_call 22; have _t := t2; clear t2; refine (picked_any zr 5 w hr1 hr2 (by decide) (by decide)).mono ?_; rintro e w1 ⟨r, hr5, rfl, hw⟩; have hw := hw.symm; subst hw; have t3 : True := trivial; obtain ⟨q, hq1, hq5, hqe⟩ : ∃ q : Nat, 1 ≤ q ∧ q ≤ 5 ∧ 1 + (r : Int) = (q : Int) := ⟨r + 1, by omega, by omega, by omega⟩)
    | (at_make; have _t := t3; clear t3; refine wpList_mkB _ rfl _ _ rfl _ _ k rfl rfl (by omega) (by omega) (by omega) ?_; intro w1 hb1 g1; have t4 : True := trivial; have hrd1 := hb1.rd (n := k) (isB_zeros k) (by simp) (by unfold maxLen; omega); have hSp := Spread_ok _ k k q _ w1 hrd1 (by omega) (isBit_zeros k) hq1 hq5)
    | (go_at_call 17; refine hSp.mono ?_; rintro e w2 ⟨a2, c2, rfl, hA2, g2⟩; have hcl := cntN_le q (k + 6); have hc6 := cnt_six q k hq1 hq5; obtain ⟨m, hm⟩ : ∃ m, m = cntN q (k + 6) := ⟨_, rfl⟩; rw [← hm] at hcl hc6 hA2 ⊢; have HM : Hid (m = cntN q (k + 6)) := hm; clear hm hSp)
    | (at_make; have _t := t4; clear t4; refine wpList_mkI _ rfl _ _ rfl m rfl rfl (by omega) ?_; intro w3 hI3 g3))
  have hG3 := grown_trans g1 (grown_trans g2 g3)
  have hgl : w.heap.size ≤ w2.heap.size := Nat.le_trans g1.size g2.size
  generalize w2.heap.size = gl at *
  have hk8 : k ≤ 8 := by omega
  clear hb1 g1 g2 g3 hA2 hrd1 hk hr5 hqe
  go_loopw [12] (fun i wr => ∃ (j : Nat) (f : Nat → Int), j ≤ m ∧ j ≤ n0 ∧ i = .int .i64 j ∧ w.grownBy wr none ∧ IRow wr gl 3 m f ∧ ∀ i, i < m → -7 ≤ f i ∧ f i ≤ 7) (fun i _ => m - (intOf i).toNat)
  case atStart => exact ⟨0, fun _ => 0, by omega, by omega, rfl, hG3, hI3, fun i _ => ⟨(by decide : (-7 : Int) ≤ 0), (by decide : (0 : Int) ≤ 7)⟩⟩
  case round =>
    obtain ⟨j, f, hj, hj0, rfl, hgr, hI, hf⟩ := hrel
    have HF : Hid (∀ i, i < m → -7 ≤ f i ∧ f i ≤ 7) := hf
    clear hf
    by_cases hlt : j < m ∧ j < n0
    · obtain ⟨hlm, hln⟩ := hlt
      obtain ⟨b, off, e, hbw, hcc⟩ := (hp.keep hgr).at' (by omega)
      subst e
      have c0 := hcc j hln
      have c1 := hI.cell j hlm
      have f1 := hI.free j
      have hrj := hr j
      have HS := fun x => hI.set j x
      clear hcc
      go_wp2_with (go_at_call 22; refine (picked_any _ 15 _ hrj.1 hrj.2 (by decide) (by decide)).mono ?_; rintro e w1 ⟨v, hv, rfl, hw⟩; have hw := hw.symm; subst hw)
      go_roundw
      case rel =>
        refine ⟨j + 1, _, by omega, by omega, by go_num, grown_far hgr (grown_set _ _ _ _) (fun g e => by cases e; exact hgl), HS _, fun i hi => ?_⟩
        by_cases e : i = j
        · rw [if_pos e]; omega
        · rw [if_neg e]; exact HF.out i hi
      case measure => simp [intOf]; omega
    · have hRd := hI.rdI (by omega)
      have hSb := lisI_bd m f HF.out
      generalize hSe : lisI m f = S at *
      have hGa := Gather_ok (some ⟨gl, 0, none⟩) m m k q S wr hRd (by omega) hq1 hq5 HM.out hSb
      have hpos : 0 < m := by omega
      have HP : Hid (prV q S = prV q S) := rfl
      have hown : symC S (outN q (gotN (prV q S) k) (k + 6)) m = vN (prV q S) k (k + 6) 0 := by
        have e1 := sym_rest q S (gotN (prV q S) k) k
        rw [← HM.out] at e1
        rw [e1, got_cost (prV q S) k (k + 6) 0 (by omega)]
        rfl
      have hbest : Hid (∀ v, v < 2 ^ k → vN (prV q S) k (k + 6) 0 ≤ symC S (outN q (bitL v k) (k + 6)) m ∧ (symC S (outN q (bitL v k) (k + 6)) m = vN (prV q S) k (k + 6) 0 → valN (gotN (prV q S) k) k ≤ v)) := by
        intro v hv
        have e1 := sym_rest q S (bitL v k) k
        rw [← HM.out] at e1
        rw [e1]
        exact best_fact (prV q S) k v hv
      have hgb := gotN_bit (prV q S) k
      have hcost := fun w' a' c' (h : Rd w' a' k c' (gotN (prV q S) k)) (h' : RdI w' (some ⟨gl, 0, none⟩) m m S) => cost_any a' (some ⟨gl, 0, none⟩) k c' m m q _ S w' h h' (by omega) hgb hq1 hq5 HM.out hSb
      have hcostB := fun w' a' c' v (h : Rd w' a' k c' (bitL v k)) (h' : RdI w' (some ⟨gl, 0, none⟩) m m S) => cost_any a' (some ⟨gl, 0, none⟩) k c' m m q _ S w' h h' (by omega) (bitL_bit v k) hq1 hq5 HM.out hSb
      rw [hown] at hcost
      clear hown hI hSe HP
      generalize hc : vN (prV q S) k (k + 6) 0 = c at *
      generalize hg : gotN (prV q S) k = got at *
      clear hc hg
      by_cases hlm : j < m
      · have hln : ¬ j < n0 := fun h => hlt ⟨hlm, h⟩
        clear hlt
        go_wp2_with (first
          | (go_at_call 20; refine hGa.mono ?_; rintro e w4 ⟨a4, c4, rfl, hA4, g4⟩; have hRd4 := hRd.keep g4; have hC4 := hcost w4 a4 c4 hA4.rd hRd4)
          | (go_at_call 23; refine hC4.mono ?_; rintro e w5 ⟨rfl, g5⟩))
        have hG5 := grown_trans hgr (grown_trans g4 g5)
        have hR5 := hRd4.keep g5
        have hgot5 := hA4.rd.keep g5
        clear hC4 hRd4 hRd hA4 g4 g5 hGa hcost
        go_loop [17, 18] (fun v i => ∃ i' : Nat, i' ≤ k ∧ i = .int .i64 i' ∧ v = .int .i64 (valN got i' : Nat)) (fun _ i => k - (intOf i).toNat)
        case atStart => exact ⟨0, by omega, rfl, rfl⟩
        case round =>
          obtain ⟨i', hi', rfl, rfl⟩ := hrel
          by_cases hli : i' < k
          · obtain ⟨b, off, e, hbw, hcc⟩ := hgot5.at' (by omega)
            subst e
            have c0 := hcc i' hli
            have hb1 := hgb i'
            have hv := valN_lt got hgb i'
            have hv2 : valN got i' < 256 := Nat.lt_of_lt_of_le hv (shl_top i' (by omega)).2.2
            have HV : Hid (valN got (i' + 1) = 2 * valN got i' + nth got i') := rfl
            clear hcc hv
            generalize valN got i' = u at *
            go_wp2
            go_round
            case rel => exact ⟨i' + 1, by omega, by go_num, congrArg (Value.int .i64) (by rw [HV.out]; omega)⟩
            case measure => simp [intOf]; omega
          · obtain rfl : i' = k := by omega
            have hv := valN_lt got hgb i'
            obtain ⟨htw, htw2, htop256⟩ := shl_top i' (by omega)
            have HTop : Hid (2 ^ i' = 2 ^ i') := rfl
            generalize hmi : valN got i' = mine at *
            generalize htop : 2 ^ i' = top at *
            have HTP : Hid (2 ^ i' = top) := htop
            have HTW : Hid (wrap64 ((2 : Int) ^ i') = (top : Int) ∧ IntKind.i64.wrap ((2 : Int) ^ i') = (top : Int)) := ⟨htw, htw2⟩
            clear htop hmi HTop htw htw2
            go_wp2
            go_loopw [19] (fun v wx => ∃ v' : Nat, v' ≤ top ∧ v = .int .i64 v' ∧ w5.grownBy wx none) (fun v _ => top - (intOf v).toNat)
            case atStart => exact ⟨0, by omega, rfl, World.grownBy.refl _ _⟩
            case round =>
              obtain ⟨v', hv', rfl, hgx⟩ := hrel
              by_cases hlv : v' < top
              · have hlv' : (v' : Int) < (top : Int) := by omega
                have q1 : (i' : Int) = (i' : Nat) := rfl
                have q2 : i' ≤ 281474976710656 := by omega
                obtain ⟨htw, htw2⟩ := HTW.out
                go_wp2_with (at_make; refine wpList_mkB _ rfl _ _ rfl _ _ i' rfl rfl rfl rfl q2 ?_; intro w6 hb6 g6)
                clear htw htw2 q1 q2
                have hgbk := Nat.le_refl wr.heap.size
                generalize hgbe : wr.heap.size = gb at *
                go_loopw [21] (fun i wy => ∃ (x : Nat) (D : List Nat), x ≤ i' ∧ i = .int .i64 x ∧ wr.grownBy wy none ∧ Blk wy gb D ∧ D.length = i' ∧ IsB D ∧ ∀ j, j < x → nth D j = v' / 2 ^ (i' - 1 - j) % 2) (fun i _ => i' - (intOf i).toNat)
                case atStart => exact ⟨0, _, by omega, rfl, g6, hb6, by simp, isB_zeros _, fun j hj => by omega⟩
                case round =>
                  obtain ⟨x, D, hx, rfl, hgy, hB, hDl, hDb, hD⟩ := hrel
                  have HD : Hid (∀ j, j < x → nth D j = v' / 2 ^ (i' - 1 - j) % 2) := hD
                  have HDl : Hid (D.length = i') := hDl
                  clear hD
                  by_cases hlx : x < i'
                  · have hf := hB.free x
                    have hcx := hB.cell x (by omega)
                    obtain ⟨d, hd⟩ : ∃ d, d = i' - 1 - x := ⟨_, rfl⟩
                    have hdi : (i' : Int) - 1 - (x : Int) = (d : Int) := by omega
                    have hv106 : v' < 1000000 := by omega
                    have HBT : Hid (bits .and .i64 ((v' : Int) / 2 ^ d) 1 = ((v' / 2 ^ d % 2 : Nat) : Int)) := i64_bit v' d hv106
                    have hbl : v' / 2 ^ d % 2 < 2 := Nat.mod_lt _ (by decide)
                    have HVX : Hid (v' / 2 ^ (i' - 1 - x) % 2 = v' / 2 ^ d % 2) := by rw [hd]; exact rfl
                    have hBs := hB.set x (v' / 2 ^ d % 2)
                    generalize v' / 2 ^ d % 2 = bt at hbl HVX hBs HBT
                    have v1 := wrap_u8_small bt (by omega)
                    have hd0 : (0 : Int) ≤ (d : Int) := by omega
                    have hbt := HBT.out
                    clear hd hDl
                    go_wp2
                    clear hbt HBT
                    go_roundw
                    case rel =>
                      refine ⟨x + 1, _, by omega, by go_num, ?_, hBs, by rw [List.length_set]; exact HDl.out, isB_set hDb _ _ (by omega), ?_⟩
                      · exact grown_far hgy (grown_set _ _ _ _) (fun g e => by cases e; omega)
                      · intro j hj
                        rw [nth_set _ _ _ _ (by rw [HDl.out]; exact hlx)]
                        by_cases e : x = j
                        · subst e; rw [if_pos rfl]; exact HVX.out.symm
                        · rw [if_neg e]; exact HD.out j (by omega)
                    case measure => simp [intOf]; omega
                  · obtain rfl : x = i' := by omega
                    have hE : D = bitL v' x := by
                      refine list_ext (by rw [bitL_len, hDl]) fun i hi => ?_
                      rw [hDl] at hi
                      unfold bitL
                      rw [nth_map_range _ _ _ hi]; exact HD.out i hi
                    subst hE
                    have hbr := hB.rd (n := x) hDb hDl (by unfold maxLen; omega)
                    have hCB := hcostB _ _ _ v' hbr (hR5.keep (grown_trans hgx hgy))
                    obtain ⟨hle, heq⟩ := hbest.out v' hlv
                    generalize symC S (outN q (bitL v' x) (x + 6)) m = other at *
                    have HEQ : Hid (other = c → mine ≤ v') := heq
                    have hnl : ¬ other < c := by omega
                    by_cases hoc : other = c
                    · have hmv : ¬ v' < mine := by have := heq hoc; omega
                      clear heq
                      go_wp2_with (go_at_call 23; refine hCB.mono ?_; rintro e w7 ⟨rfl, g7⟩)
                      go_roundw
                      case rel => exact ⟨v' + 1, by omega, by go_num, grown_trans hgx (grown_trans hgy g7)⟩
                      case measure => simp [intOf]; omega
                    · have hob : (other == c) = false := by simp; exact hoc
                      clear heq
                      go_wp2_with (go_at_call 23; refine hCB.mono ?_; rintro e w7 ⟨rfl, g7⟩)
                      go_roundw
                      case rel => exact ⟨v' + 1, by omega, by go_num, grown_trans hgx (grown_trans hgy g7)⟩
                      case measure => simp [intOf]; omega
              · obtain rfl : v' = top := by omega
                obtain ⟨htw, htw2⟩ := HTW.out
                go_wp2
                clear htw htw2
                go_ret
                exact ⟨one_bool (decide_eq_true (by omega)), (Below.refl _ _).grown (grown_trans hG5 hgx) (Nat.le_refl _) (fun k hk => by cases hk)⟩
      · clear hlt
        go_wp2_with (first
          | (go_at_call 20; refine hGa.mono ?_; rintro e w4 ⟨a4, c4, rfl, hA4, g4⟩; have hRd4 := hRd.keep g4; have hC4 := hcost w4 a4 c4 hA4.rd hRd4)
          | (go_at_call 23; refine hC4.mono ?_; rintro e w5 ⟨rfl, g5⟩))
        have hG5 := grown_trans hgr (grown_trans g4 g5)
        have hR5 := hRd4.keep g5
        have hgot5 := hA4.rd.keep g5
        clear hC4 hRd4 hRd hA4 g4 g5 hGa hcost
        go_loop [17, 18] (fun v i => ∃ i' : Nat, i' ≤ k ∧ i = .int .i64 i' ∧ v = .int .i64 (valN got i' : Nat)) (fun _ i => k - (intOf i).toNat)
        case atStart => exact ⟨0, by omega, rfl, rfl⟩
        case round =>
          obtain ⟨i', hi', rfl, rfl⟩ := hrel
          by_cases hli : i' < k
          · obtain ⟨b, off, e, hbw, hcc⟩ := hgot5.at' (by omega)
            subst e
            have c0 := hcc i' hli
            have hb1 := hgb i'
            have hv := valN_lt got hgb i'
            have hv2 : valN got i' < 256 := Nat.lt_of_lt_of_le hv (shl_top i' (by omega)).2.2
            have HV : Hid (valN got (i' + 1) = 2 * valN got i' + nth got i') := rfl
            clear hcc hv
            generalize valN got i' = u at *
            go_wp2
            go_round
            case rel => exact ⟨i' + 1, by omega, by go_num, congrArg (Value.int .i64) (by rw [HV.out]; omega)⟩
            case measure => simp [intOf]; omega
          · obtain rfl : i' = k := by omega
            have hv := valN_lt got hgb i'
            obtain ⟨htw, htw2, htop256⟩ := shl_top i' (by omega)
            have HTop : Hid (2 ^ i' = 2 ^ i') := rfl
            generalize hmi : valN got i' = mine at *
            generalize htop : 2 ^ i' = top at *
            have HTP : Hid (2 ^ i' = top) := htop
            have HTW : Hid (wrap64 ((2 : Int) ^ i') = (top : Int) ∧ IntKind.i64.wrap ((2 : Int) ^ i') = (top : Int)) := ⟨htw, htw2⟩
            clear htop hmi HTop htw htw2
            go_wp2
            go_loopw [19] (fun v wx => ∃ v' : Nat, v' ≤ top ∧ v = .int .i64 v' ∧ w5.grownBy wx none) (fun v _ => top - (intOf v).toNat)
            case atStart => exact ⟨0, by omega, rfl, World.grownBy.refl _ _⟩
            case round =>
              obtain ⟨v', hv', rfl, hgx⟩ := hrel
              by_cases hlv : v' < top
              · have hlv' : (v' : Int) < (top : Int) := by omega
                have q1 : (i' : Int) = (i' : Nat) := rfl
                have q2 : i' ≤ 281474976710656 := by omega
                obtain ⟨htw, htw2⟩ := HTW.out
                go_wp2_with (at_make; refine wpList_mkB _ rfl _ _ rfl _ _ i' rfl rfl rfl rfl q2 ?_; intro w6 hb6 g6)
                clear htw htw2 q1 q2
                have hgbk := Nat.le_refl wr.heap.size
                generalize hgbe : wr.heap.size = gb at *
                go_loopw [21] (fun i wy => ∃ (x : Nat) (D : List Nat), x ≤ i' ∧ i = .int .i64 x ∧ wr.grownBy wy none ∧ Blk wy gb D ∧ D.length = i' ∧ IsB D ∧ ∀ j, j < x → nth D j = v' / 2 ^ (i' - 1 - j) % 2) (fun i _ => i' - (intOf i).toNat)
                case atStart => exact ⟨0, _, by omega, rfl, g6, hb6, by simp, isB_zeros _, fun j hj => by omega⟩
                case round =>
                  obtain ⟨x, D, hx, rfl, hgy, hB, hDl, hDb, hD⟩ := hrel
                  have HD : Hid (∀ j, j < x → nth D j = v' / 2 ^ (i' - 1 - j) % 2) := hD
                  have HDl : Hid (D.length = i') := hDl
                  clear hD
                  by_cases hlx : x < i'
                  · have hf := hB.free x
                    have hcx := hB.cell x (by omega)
                    obtain ⟨d, hd⟩ : ∃ d, d = i' - 1 - x := ⟨_, rfl⟩
                    have hdi : (i' : Int) - 1 - (x : Int) = (d : Int) := by omega
                    have hv106 : v' < 1000000 := by omega
                    have HBT : Hid (bits .and .i64 ((v' : Int) / 2 ^ d) 1 = ((v' / 2 ^ d % 2 : Nat) : Int)) := i64_bit v' d hv106
                    have hbl : v' / 2 ^ d % 2 < 2 := Nat.mod_lt _ (by decide)
                    have HVX : Hid (v' / 2 ^ (i' - 1 - x) % 2 = v' / 2 ^ d % 2) := by rw [hd]; exact rfl
                    have hBs := hB.set x (v' / 2 ^ d % 2)
                    generalize v' / 2 ^ d % 2 = bt at hbl HVX hBs HBT
                    have v1 := wrap_u8_small bt (by omega)
                    have hd0 : (0 : Int) ≤ (d : Int) := by omega
                    have hbt := HBT.out
                    clear hd hDl
                    go_wp2
                    clear hbt HBT
                    go_roundw
                    case rel =>
                      refine ⟨x + 1, _, by omega, by go_num, ?_, hBs, by rw [List.length_set]; exact HDl.out, isB_set hDb _ _ (by omega), ?_⟩
                      · exact grown_far hgy (grown_set _ _ _ _) (fun g e => by cases e; omega)
                      · intro j hj
                        rw [nth_set _ _ _ _ (by rw [HDl.out]; exact hlx)]
                        by_cases e : x = j
                        · subst e; rw [if_pos rfl]; exact HVX.out.symm
                        · rw [if_neg e]; exact HD.out j (by omega)
                    case measure => simp [intOf]; omega
                  · obtain rfl : x = i' := by omega
                    have hE : D = bitL v' x := by
                      refine list_ext (by rw [bitL_len, hDl]) fun i hi => ?_
                      rw [hDl] at hi
                      unfold bitL
                      rw [nth_map_range _ _ _ hi]; exact HD.out i hi
                    subst hE
                    have hbr := hB.rd (n := x) hDb hDl (by unfold maxLen; omega)
                    have hCB := hcostB _ _ _ v' hbr (hR5.keep (grown_trans hgx hgy))
                    obtain ⟨hle, heq⟩ := hbest.out v' hlv
                    generalize symC S (outN q (bitL v' x) (x + 6)) m = other at *
                    have HEQ : Hid (other = c → mine ≤ v') := heq
                    have hnl : ¬ other < c := by omega
                    by_cases hoc : other = c
                    · have hmv : ¬ v' < mine := by have := heq hoc; omega
                      clear heq
                      go_wp2_with (go_at_call 23; refine hCB.mono ?_; rintro e w7 ⟨rfl, g7⟩)
                      go_roundw
                      case rel => exact ⟨v' + 1, by omega, by go_num, grown_trans hgx (grown_trans hgy g7)⟩
                      case measure => simp [intOf]; omega
                    · have hob : (other == c) = false := by simp; exact hoc
                      clear heq
                      go_wp2_with (go_at_call 23; refine hCB.mono ?_; rintro e w7 ⟨rfl, g7⟩)
                      go_roundw
                      case rel => exact ⟨v' + 1, by omega, by go_num, grown_trans hgx (grown_trans hgy g7)⟩
                      case measure => simp [intOf]; omega
              · obtain rfl : v' = top := by omega
                obtain ⟨htw, htw2⟩ := HTW.out
                go_wp2
                clear htw htw2
                go_ret
                exact ⟨one_bool (decide_eq_true (by omega)), (Below.refl _ _).grown (grown_trans hG5 hgx) (Nat.le_refl _) (fun k hk => by cases hk)⟩
end Go.Proofs.Ytbgbohddkfaacaa
