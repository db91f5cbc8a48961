import Derived.Test.YtemlkgllbioigaaFRThrM
namespace Go.Proofs.Ytemlkgllbioigaa
open Go.RowKit
set_option maxRecDepth 100000
set_option linter.unusedVariables false
set_option linter.unusedSimpArgs false

theorem blk_lit (w : World) (h : Obj) (e : h = .cells #[.int .u8 1] 5) : Blk (w.alloc h) w.heap.size [1] := by
  subst e; exact heap_alloc_new w _
set_option maxHeartbeats 4000000 in
theorem rthr_ok (a b : Option Addr) (n cap cap' : Nat) (X Y : List Nat) (w : World) (hX : Rd w a n cap X) (hY : Rd w b n cap' Y) (hn : n ≤ 255) (hd : dupB X n = false) :
    Calls Try.prog 32 #[.slice a n cap, .slice b n cap'] w fun e w' => ∃ a' n' c', e = .returned (.tuple #[.slice a' n' c', .int .i64 0]) ∧ Ans w' w.heap.size a' n' c' (thL X Y) ∧ w.grownBy w' none := by
  have HDn : Hid (dupB X n = false) := hd
  have HX : Hid (X.length = n) := hX.len
  clear hd
  go_enter Try.func32, Try.ntmps32
  go_wp2
  go_loopw [6] (fun i wr => ∃ k : Nat, k ≤ n ∧ i = .int .i64 k ∧ w.grownBy wr none) (fun i _ => n - (intOf i).toNat)
  case atStart => exact ⟨0, by omega, rfl, World.grownBy.refl _ _⟩
  case round =>
    obtain ⟨k, hk, rfl, hgr⟩ := hrel
    by_cases hlt : k < n
    · obtain ⟨b1, off1, rfl, hbw1, _⟩ := hX.at' (by omega)
      obtain ⟨wo, rfl⟩ : ∃ wo : World, wo = wr := ⟨_, rfl⟩
      go_wp2
      go_loopw [7] (fun i wr => ∃ j : Nat, j ≤ k ∧ i = .int .i64 j ∧ w.grownBy wr none) (fun i _ => k - (intOf i).toNat)
      case atStart => exact ⟨0, by omega, rfl, hgr⟩
      case round =>
        obtain ⟨j, hj, rfl, hgj⟩ := hrel
        by_cases hjk : j < k
        · obtain ⟨_, _, e1, _, hcc⟩ := (hX.keep hgj).at' (by omega)
          cases e1
          have hck := hcc k hlt
          have hcj := hcc j (by omega)
          clear hcc
          have he : ¬ nth X k = nth X j := by
            intro he
            have h1 : seenB X (j + 1) (nth X k) = true := by simp [seenB, he]
            have h2 := seen_mono X (j + 1) k _ (by omega) h1
            have h3 : dupB X (k + 1) = true := by simp [dupB, h2]
            have h4 := dupB_mono X (k + 1) n (by omega) h3
            rw [HDn.out] at h4; cases h4
          have hb : ((nth X k : Int) == (nth X j : Int)) = false := by simp; omega
          clear he
          go_wp2
          go_quiet (fail)
          go_wp2
          go_roundw
          case rel => exact ⟨j + 1, by omega, by go_num, grown_trans hgj (grown_drewN _ _ _)⟩
          case measure => simp [intOf]; omega
        · obtain rfl : j = k := by omega
          go_wp2
          go_roundw
          case rel => exact ⟨j + 1, by omega, by go_num, hgj⟩
          case measure => simp [intOf]; omega
    · obtain ⟨wo, rfl⟩ : ∃ wo : World, wo = wr := ⟨_, rfl⟩
      go_wp2
      have hwoS := hgr.size
      have hb0 : Blk (wo.alloc (.cells #[.int .u8 1] 5)) wo.heap.size [1] := blk_lit wo _ rfl
      have g00 := grown_trans hgr (World.grownBy_alloc wo (.cells #[.int .u8 1] 5) none)
      go_loopw [8, 9, 10] (fun pv bv i wr => ∃ (k np cp gb : Nat) (ap : Option Addr) (P B : List Nat), k ≤ n ∧ i = .int .i64 k ∧ pv = .slice ap np cp ∧ bv = .slice (some ⟨gb, 0, none⟩) (k + 1 : Nat) (k + 1 : Nat) ∧ w.grownBy wr none ∧ Ans wr w.heap.size ap np cp P ∧ np ≤ k ∧ (∀ j, nth P j = ctF X Y n k j) ∧ trimL P = P ∧ w.heap.size ≤ gb ∧ Blk wr gb B ∧ IsB B ∧ B.length = k + 1 ∧ (∀ j, nth B j = cbF X k j)) (fun _ _ i _ => n - (intOf i).toNat)
      case atStart =>
        refine ⟨0, 0, 0, wo.heap.size, none, [], [1], by omega, rfl, rfl, rfl, g00, ans_nil _ _, by omega, fun j => ?_, rfl, hwoS, hb0, (fun x hx => by simp at hx; omega), rfl, fun j => ?_⟩
        · exact nth_out [] j (Nat.zero_le _)
        · show _ = if j = 0 then 1 else 0
          by_cases e : j = 0
          · subst e; rfl
          · rw [if_neg e, nth_out _ _ (by simp; omega)]
      case round =>
        obtain ⟨k, np, cp, gb, ap, P, B, hk, rfl, rfl, rfl, hgr, hP, hnp, hPv, hPt, hgb, hB, hBb, hBl, hBv⟩ := hrel
        have HPv : Hid (∀ j, nth P j = ctF X Y n k j) := hPv
        have HPt : Hid (trimL P = P) := hPt
        have HBl : Hid (B.length = k + 1) := hBl
        have HBv : Hid (∀ j, nth B j = cbF X k j) := hBv
        clear hPv hPt hBl hBv
        by_cases hlt : k < n
        · obtain ⟨b1, off1, rfl, hbw1, _⟩ := hX.at' (by omega)
          obtain ⟨b2, off2, rfl, hbw2, _⟩ := hY.at' (by omega)
          obtain ⟨_, _, e1, _, hcc1⟩ := (hX.keep hgr).at' (by omega)
          obtain ⟨_, _, e2, _, hcc2⟩ := (hY.keep hgr).at' (by omega)
          cases e1; cases e2
          have hck1 := hcc1 k hlt
          have hck2 := hcc2 k hlt
          have hxk := hX.byte.nth k
          have hyk := hY.byte.nth k
          have hPr := hP.rd
          have hBr := hB.rd hBb HBl.out (by unfold maxLen; omega)
          have hPl := atL_lt hP.byte (nth X k)
          have hBlt := atL_lt hBb (nth X k)
          have hyt := u8_xor_nat (nth Y k) (atL P (nth X k)) hyk hPl
          have hdl := Fld.xor_lt hyk hPl
          clear hcc1 hcc2
          have t1 : True := trivial
          go_wp2
          have hA1 := fun m => Calls.quiet_of (n := m) (rat_anyQ ap np cp (nth X k) P (wr.drewN m) (hPr.keep (grown_drewN _ _ _)) hxk (by omega))
          have hA2 := fun m => Calls.quiet_of (n := m) (rat_anyQ (some ⟨gb, 0, none⟩) (k + 1) (k + 1) (nth X k) B (wr.drewN m) (hBr.keep (grown_drewN _ _ _)) hxk (by omega))
          have hA3 := fun m => Calls.quiet_of_same (n := m) (rdiv_any (nth Y k ^^^ atL P (nth X k)) (atL B (nth X k)) hdl hBlt (wr.drewN m))
          go_quiet (first | (go_at_call 31; with_reducible exact hA1 _) | (go_at_call 31; with_reducible exact hA2 _) | (go_at_call 14; with_reducible exact hA3 _))
          have gz := grown_drewN wr nq none
          obtain ⟨wz, hwz⟩ : ∃ wz : World, wz = wr.drewN nq := ⟨_, rfl⟩
          rw [← hwz] at gz ⊢
          clear hwz hA1 hA2 hA3 hck1 hck2 hyt
          obtain ⟨K, hK⟩ : ∃ K, K = divV (nth Y k ^^^ atL P (nth X k)) (atL B (nth X k)) := ⟨_, rfl⟩
          rw [← hK]
          have hKl : K < 256 := by rw [hK]; exact divV_lt _ _ hdl
          have HK : Hid (K = kOf (nth Y k) (ev (ctF X Y n k) (n + 1) (nth X k)) (ev (cbF X k) (n + 1) (nth X k))) := by
            show _ = _
            rw [hK, divV_eq, at_ct hP.byte (by have := hP.len; omega) hxk HPv.out, at_cb (n := n) hBb (by rw [HBl.out]; omega) hxk HBv.out]; rfl
          clear hK
          have hgz := grown_trans hgr gz
          have hPz := hP.keep gz
          have hBz := hB.grown gz (by simp)
          go_wp2_with (first | (at_make; refine wpList_mkB _ rfl (.tmp 75) (.tmp 75) rfl _ _ (k + 1) rfl rfl (by omega) (by omega) (by omega) ?_; intro w4 hb4 hg4) | (at_make; refine wpList_mkB _ rfl (.tmp 79) (.tmp 79) rfl _ _ (k + 2) rfl rfl (by omega) (by omega) (by omega) ?_; intro w5 hb5 hg5))
          have hgm4 : wz.heap.size < w4.heap.size := hb4.lt
          have hM5 := hb4.grown hg5 (by simp)
          have hgbz : gb < wz.heap.size := hBz.lt
          have hw0z := hgz.size
          go_loopw [15] (fun i wx => ∃ (j : Nat) (M N : List Nat), j ≤ k + 1 ∧ i = .int .i64 j ∧ wz.grownBy wx none ∧ Blk wx wz.heap.size M ∧ IsB M ∧ M.length = k + 1 ∧ (∀ i, nth M i = moreV K B j i) ∧ Blk wx w4.heap.size N ∧ IsB N ∧ N.length = k + 2 ∧ (∀ i, nth N i = nextV (nth X k) B j i)) (fun i _ => k + 1 - (intOf i).toNat)
          case atStart => exact ⟨0, _, _, by omega, rfl, grown_trans hg4 hg5, hM5, isB_zeros _, by simp, fun i => by rw [nth_zeros, moreV_zero], hb5, isB_zeros _, by simp, fun i => by rw [nth_zeros, nextV_zero]⟩
          case round =>
            obtain ⟨j, M, N, hj, rfl, hgj, hM, hMb, hMl, hMv, hN, hNb, hNl, hNv⟩ := hrel
            have HMl : Hid (M.length = k + 1) := hMl
            have HNl : Hid (N.length = k + 2) := hNl
            have HMv : Hid (∀ i, nth M i = moreV K B j i) := hMv
            have HNv : Hid (∀ i, nth N i = nextV (nth X k) B j i) := hNv
            clear hMl hNl hMv hNv
            have Gx := grown_trans hgz hgj
            have hBx := hBz.grown hgj (by simp)
            by_cases hjk : j < k + 1
            · obtain ⟨_, _, e1, _, hcc1⟩ := (hX.keep Gx).at' (by omega)
              cases e1
              have hck1 := hcc1 k hlt
              clear hcc1
              have hbj := hBx.cell j (by rw [HBl.out]; exact hjk)
              have hBj := hBb.nth j
              have hmj := hM.cell j (by rw [HMl.out]; exact hjk)
              have hmf := hM.free j
              have hjk' : (j : Int) < (k : Int) + 1 := by omega
              go_wp2_with (go_at_call 18; refine (rmul_any _ _ hKl hBj _).mono ?_; rintro e w' ⟨rfl, hw⟩; have hw := hw.symm; subst hw)
              have gs1 := grown_set wr wz.heap.size j (.int .u8 (Fld.mul K (nth B j) : Nat))
              have M1 := hM.set j (Fld.mul K (nth B j))
              have N1 := hN.grown gs1 (by simp; omega)
              have B1 := hBx.grown gs1 (by simp; omega)
              have G1 := grown_far hgj gs1 (fun g h => by cases h; omega)
              obtain ⟨v1, hv1⟩ : ∃ v1 : World, v1 = wr.setCell ⟨wz.heap.size, j, none⟩ (.int .u8 (Fld.mul K (nth B j) : Nat)) := ⟨_, rfl⟩
              rw [← hv1] at gs1 M1 N1 B1 G1 ⊢
              clear hv1 hck1 hbj hmj hmf
              obtain ⟨_, _, e1, _, hcc1⟩ := (hX.keep (grown_trans hgz G1)).at' (by omega)
              cases e1
              have hck1 := hcc1 k hlt
              clear hcc1
              have hbj := B1.cell j (by rw [HBl.out]; exact hjk)
              have hnj := N1.cell j (by rw [HNl.out]; omega)
              have hnf := N1.free j
              have hNj := hNb.nth j
              have hx1 := u8_xor_nat (nth N j) (Fld.mul (nth B j) (nth X k)) hNj (Fld.mul_lt _ hBj)
              have hjk2 : (j : Int) < (k : Int) + 2 := by omega
              have hjk3 : j < k + 2 := by omega
              have hkn : (k : Int) < (n : Int) := by omega
              have gs2 := grown_set v1 w4.heap.size j (.int .u8 (nth N j ^^^ Fld.mul (nth B j) (nth X k) : Nat))
              have M2 := M1.grown gs2 (by simp; omega)
              have N2 := N1.set j (nth N j ^^^ Fld.mul (nth B j) (nth X k))
              have B2 := B1.grown gs2 (by simp; omega)
              have G2 := grown_far G1 gs2 (fun g h => by cases h; omega)
              have HNv2 : Hid (∀ i, nth ((N.set j (nth N j ^^^ Fld.mul (nth B j) (nth X k))).set (j + 1) (nth N (j + 1) ^^^ nth B j)) i = nextV (nth X k) B (j + 1) i) := next_step (by rw [HNl.out]; omega) HNv.out
              have HMv2 : Hid (∀ i, nth (M.set j (Fld.mul K (nth B j))) i = moreV K B (j + 1) i) := more_step (by rw [HMl.out]; exact hjk) HMv.out
              have hc2 : (v1.setCell ⟨w4.heap.size, j, none⟩ (.int .u8 (nth N j ^^^ Fld.mul (nth B j) (nth X k) : Nat))).cell? ⟨w4.heap.size, j + 1, none⟩ = some (.int .u8 (nth N (j + 1) : Nat)) := by
                rw [N2.cell (j + 1) (by rw [List.length_set, HNl.out]; omega), nth_set _ _ _ _ (by rw [HNl.out]; omega), if_neg (by omega)]
              have hf2 := N2.free (j + 1)
              have hb2 := B2.cell j (by rw [HBl.out]; exact hjk)
              have hx2 := u8_xor_nat (nth N (j + 1)) (nth B j) (hNb.nth _) hBj
              have N3 := N2.set (j + 1) (nth N (j + 1) ^^^ nth B j)
              have M3 := M2.grown (grown_set _ w4.heap.size (j + 1) (.int .u8 (nth N (j + 1) ^^^ nth B j : Nat))) (by simp; omega)
              have G3 := grown_far G2 (grown_set _ w4.heap.size (j + 1) (.int .u8 (nth N (j + 1) ^^^ nth B j : Nat))) (fun g h => by cases h; omega)
              have IN3 : IsB ((N.set j (nth N j ^^^ Fld.mul (nth B j) (nth X k))).set (j + 1) (nth N (j + 1) ^^^ nth B j)) := isB_set (isB_set hNb _ _ (Fld.xor_lt hNj (Fld.mul_lt _ hBj))) _ _ (Fld.xor_lt (hNb.nth _) hBj)
              have IM3 : IsB (M.set j (Fld.mul K (nth B j))) := isB_set hMb _ _ (Fld.mul_lt _ hKl)
              have LN3 : Hid (((N.set j (nth N j ^^^ Fld.mul (nth B j) (nth X k))).set (j + 1) (nth N (j + 1) ^^^ nth B j)).length = k + 2) := by show _ = _; rw [List.length_set, List.length_set]; exact HNl.out
              have LM3 : Hid ((M.set j (Fld.mul K (nth B j))).length = k + 1) := by show _ = _; rw [List.length_set]; exact HMl.out
              have hto : ((j : Int) + 1).toNat = j + 1 := by omega
              have hwr : IntKind.i64.wrap ((j : Int) + 1) = ((j + 1 : Nat) : Int) := by rw [wrap_i64_in _ (by omega) (by omega)]; omega
              have hjk4 : (j : Int) + 1 < (k : Int) + 2 := by omega
              go_region_with (go_at_call 18; refine (rmul_any _ _ hBj hxk _).mono ?_; rintro e w' ⟨rfl, rfl⟩)
              all_goals
                go_wp2
                go_region
                go_wp2
                go_roundw
                case rel => exact ⟨j + 1, _, _, by omega, by go_num, ⟨G3.os, G3.tape, G3.output, G3.size, G3.block⟩, M3, IM3, LM3.out, HMv2.out, N3, IN3, LN3.out, HNv2.out⟩
                case measure => simp [intOf]; omega
            · obtain rfl : j = k + 1 := by omega
              have hPx := hPz.keep hgj
              have hMr := hM.rd hMb HMl.out (by unfold maxLen; omega)
              have hnle := sumL_le P M
              rw [HMl.out, hP.len] at hnle
              go_wp2_with (go_at_call 26; refine (rsum_any _ _ np (k + 1) _ _ P M _ hPx.rd hMr (by omega) (by omega)).mono ?_; rintro e w6 ⟨a6, n6, c6, rfl, hs6, g6⟩)
              have hn6 := hs6.len
              have hN6 := hN.grown g6 (by simp)
              have Gx6 := grown_trans Gx g6
              go_roundw
              case rel =>
                exact ⟨k + 1, n6, c6, w4.heap.size, a6, _, _, by omega, by go_num, rfl, rfl, Gx6, ⟨hs6.own, hs6.byte, fun g hg => Nat.le_trans Gx.size (hs6.new g hg)⟩, by omega, more_end hX.byte hKl HK.out HPv.out HBv.out HMv.out, trimL_trimL _, by omega, hN6, hNb, HNl.out, next_end hX.byte HBv.out HNv.out⟩
              case measure => simp [intOf]; omega
        · obtain rfl : k = n := by omega
          have HT : Hid (P = thL X Y) := by
            show _ = _
            rw [← HPt.out]
            exact thL_of hX.byte hY.byte (by rw [HX.out]; exact HPv.out)
          go_wp2
          go_ret2
          exact ⟨_, _, _, rfl, by rw [← HT.out]; exact hP, hgr⟩
end Go.Proofs.Ytemlkgllbioigaa
