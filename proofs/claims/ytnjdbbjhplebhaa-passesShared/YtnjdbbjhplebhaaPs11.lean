import Derived.Deep.CutBlock
import Derived.Test.YtnjdbbjhplebhaaPs10
namespace Go.Proofs.Ytnjdbbjhplebhaa
open Go.RowKit
set_option maxRecDepth 100000
set_option linter.unusedVariables false
set_option linter.unusedSimpArgs false

section
set_option maxHeartbeats 16000000 in
theorem sym_one (g cap a m b n : Nat) (H : List Ld) (w : World) (hm1 : m = a + 1) (hmb : m < b) (hb : b ≤ n) (hN : n = H.length) (hn : n ≤ 1000000) (h : RwD w g cap H) (hs : SrtD H m b) :
    Calls Try.prog 39 #[.slice (some ⟨g, 0, none⟩) n cap, .int .i64 (a : Nat), .int .i64 (m : Nat), .int .i64 (b : Nat), .func (.func 31) #[] #[]] w fun e w' => e = .returned (.tuple #[]) ∧ ∃ K, RwD w' g cap K ∧ SameD H K a b ∧ SrtD K a b ∧ w.grownBy w' (some g) := by
  have HW : Hid _ := h
  have HNN : Hid _ := hN
  have HS : Hid _ := hs
  have HB : Hid (m = a + 1 ∧ m < b ∧ b ≤ n ∧ n ≤ 1000000) := ⟨hm1, hmb, hb, hn⟩
  have d1 : (m : Int) - (a : Int) = 1 := by omega
  have ha6 : (a : Int) ≤ 1000000 := by omega
  have hm6 : (m : Int) ≤ 1000000 := by omega
  have hb6 : (b : Int) ≤ 1000000 := by omega
  have han : (a : Int) < (n : Int) := by omega
  have hbn : (b : Int) ≤ (n : Int) := by omega
  clear h hN hs hm1 hmb hb hn
  go_enter Try.func39, Try.ntmps39
  go_wp2
  go_loopw [10, 11] (fun v10 v11 wr => ∃ i j : Nat, m ≤ i ∧ i ≤ j ∧ j ≤ b ∧ v10 = .int .i64 (i : Nat) ∧ v11 = .int .i64 (j : Nat) ∧ Hid (RwD wr g cap H) ∧ Hid (∀ h, m ≤ h → h < i → (H.getD h ld0).fr < (H.getD a ld0).fr) ∧ Hid (∀ h, j ≤ h → h < b → (H.getD a ld0).fr ≤ (H.getD h ld0).fr) ∧ Hid (w.grownBy wr (some g))) (fun v10 v11 _ => (intOf v11).toNat - (intOf v10).toNat)
  case atStart => exact ⟨m, b, Nat.le_refl _, Nat.le_of_lt HB.out.2.1, Nat.le_refl _, rfl, rfl, HW.out, (fun h h1 h2 => absurd h1 (by omega)), (fun h h1 h2 => absurd h1 (by omega)), World.grownBy.refl _ _⟩
  case round =>
    obtain ⟨i, j, hmi, hij, hjb, rfl, rfl, hR, hlo, hhi, hg⟩ := hrel
    by_cases hlt : i < j
    · have lk : (i : Int) < (j : Int) := by omega
      have hi6 : (i : Int) ≤ 1000000 := by omega
      have hj6 : (j : Int) ≤ 1000000 := by omega
      obtain ⟨c, hc⟩ : ∃ c, c = (i + j) / 2 := ⟨_, rfl⟩
      have hci : ((i : Int) + (j : Int)) / 2 = (c : Int) := by omega
      obtain ⟨q1, q2, q3, q4⟩ := HB.out
      have hcn : (c : Int) < (n : Int) := by omega
      have hc6 : (c : Int) ≤ 1000000 := by omega
      have HXL : Hid (c < H.length) := by show c < H.length; rw [← HNN.out]; omega
      have HYL : Hid (a < H.length) := by show a < H.length; rw [← HNN.out]; omega
      have HQ : Hid (m ≤ i ∧ i ≤ c ∧ c < j ∧ j ≤ b) := ⟨hmi, by omega, by omega, hjb⟩
      clear hc q1 q2 q3 q4 hmi hij hjb hlt
      go_upto_region 5 with fail
      have hx := hR.out.range (i := c) HXL.out
      have hy := hR.out.range (i := a) HYL.out
      obtain ⟨x, hX⟩ : ∃ x, x = H.getD c ld0 := ⟨_, rfl⟩
      obtain ⟨y, hY⟩ : ∃ y, y = H.getD a ld0 := ⟨_, rfl⟩
      rw [← hX] at hx
      rw [← hY] at hy
      have HX : Hid _ := hX
      have HY : Hid _ := hY
      clear hX hY
      obtain ⟨bb, hbb⟩ : ∃ bb, bb = decide ((x.fr : Int) < (y.fr : Int)) := ⟨_, rfl⟩
      have hcmp : decide (cN (x.fr : Int) (y.fr : Int) < 0) = bb := by rw [cN_lt, hbb]
      have HBB : Hid _ := hbb
      clear hbb
      have Gd := grown_drew wr none
      have SS : wr.drew.rangeAt g (c * 4) x.cells ∧ wr.drew.rangeAt g (a * 4) y.cells := ⟨range_grown hx Gd, range_grown hy Gd⟩
      refine wp_regionM (fun wz => wz.rangeAt g (c * 4) x.cells ∧ wz.rangeAt g (a * 4) y.cells) [] #[false, false, false, false, false, false, false, false, false, false, false] rfl (by kernel_rfl) ?_
      have HGd : Hid _ := Gd
      clear Gd
      generalize wr.drew = wd at *
      refine wpAnyY_takeF 0 (.func (.func 31) #[] #[]) rfl (by kernel_rfl) (fun _ _ _ h => h) rfl (by intro wz; go_simp; try rfl) ?_
      try simp only [List.getElem_toArray, List.getElem_cons_succ, List.getElem_cons_zero, Act.put, List.setIfInBounds_toArray, List.set_cons_zero, List.set_cons_succ]
      refine wpAnyY_takeF 1 (.slice (some ⟨g, 0, none⟩) n cap) rfl (by kernel_rfl) (fun _ _ _ h => h) rfl (by intro wz; go_simp; try rfl) ?_
      try simp only [List.getElem_toArray, List.getElem_cons_succ, List.getElem_cons_zero, Act.put, List.setIfInBounds_toArray, List.set_cons_zero, List.set_cons_succ]
      refine wpAnyY_takeF 2 (.int .i64 (c : Nat)) rfl (by kernel_rfl) (fun _ _ _ h => h) rfl (by intro wz; go_simp; try rfl) ?_
      try simp only [List.getElem_toArray, List.getElem_cons_succ, List.getElem_cons_zero, Act.put, List.setIfInBounds_toArray, List.set_cons_zero, List.set_cons_succ]
      refine wpAnyY_takeF 3 (.pointer (some ⟨g, c * 4, none⟩)) rfl (by kernel_rfl) (fun _ _ _ h => h) rfl (by intro wz; go_simp; try rfl) ?_
      try simp only [List.getElem_toArray, List.getElem_cons_succ, List.getElem_cons_zero, Act.put, List.setIfInBounds_toArray, List.set_cons_zero, List.set_cons_succ]
      refine wpAnyY_take [] 4 (.agg #[.int .i64 (x.pl : Int), .int .i64 (x.fr : Int), .int .i64 (x.by' : Int), .int .i64 (x.lf : Int)]) rfl (by kernel_rfl) (fun _ _ _ h => h) SS rfl (fun wz hz => ldMR rfl rfl hz.1 Try.underlying55 rfl (by rw [Try.info_ld]; rfl)) ?_
      try simp only [List.getElem_toArray, List.getElem_cons_succ, List.getElem_cons_zero, Act.put, List.setIfInBounds_toArray, List.set_cons_zero, List.set_cons_succ]
      refine wpAnyY_takeF 5 (.slice (some ⟨g, 0, none⟩) n cap) rfl (by kernel_rfl) (fun _ _ _ h => h) rfl (by intro wz; go_simp; try rfl) ?_
      try simp only [List.getElem_toArray, List.getElem_cons_succ, List.getElem_cons_zero, Act.put, List.setIfInBounds_toArray, List.set_cons_zero, List.set_cons_succ]
      refine wpAnyY_takeF 6 (.int .i64 (a : Nat)) rfl (by kernel_rfl) (fun _ _ _ h => h) rfl (by intro wz; go_simp; try rfl) ?_
      try simp only [List.getElem_toArray, List.getElem_cons_succ, List.getElem_cons_zero, Act.put, List.setIfInBounds_toArray, List.set_cons_zero, List.set_cons_succ]
      refine wpAnyY_takeF 7 (.pointer (some ⟨g, a * 4, none⟩)) rfl (by kernel_rfl) (fun _ _ _ h => h) rfl (by intro wz; go_simp; try rfl) ?_
      try simp only [List.getElem_toArray, List.getElem_cons_succ, List.getElem_cons_zero, Act.put, List.setIfInBounds_toArray, List.set_cons_zero, List.set_cons_succ]
      refine wpAnyY_take [] 8 (.agg #[.int .i64 (y.pl : Int), .int .i64 (y.fr : Int), .int .i64 (y.by' : Int), .int .i64 (y.lf : Int)]) rfl (by kernel_rfl) (fun _ _ _ h => h) SS rfl (fun wz hz => ldMR rfl rfl hz.2 Try.underlying55 rfl (by rw [Try.info_ld]; rfl)) ?_
      try simp only [List.getElem_toArray, List.getElem_cons_succ, List.getElem_cons_zero, Act.put, List.setIfInBounds_toArray, List.set_cons_zero, List.set_cons_succ]
      refine wpAnyY_oneB 9 rfl (by kernel_rfl) (fun KK hKK => ?_)
      go_simp
      go_at_call 31
      refine (lcmp_any x y _).mono ?_
      rintro e w3 ⟨rfl, g3⟩
      dsimp only
      refine hKK _ _ (fun h _ => ⟨range_grown h.1 g3, range_grown h.2 g3⟩) ?_
      try simp only [List.getElem_toArray, List.getElem_cons_succ, List.getElem_cons_zero, Act.put, List.setIfInBounds_toArray, List.set_cons_zero, List.set_cons_succ]
      refine wpAnyY_takeF 10 (.bool bb) rfl (by kernel_rfl) (fun _ _ _ h => h) rfl (by intro wz; go_simp; try rfl) ?_
      try simp only [List.getElem_toArray, List.getElem_cons_succ, List.getElem_cons_zero, Act.put, List.setIfInBounds_toArray, List.set_cons_zero, List.set_cons_succ]
      refine wpAnyY_doneB (by kernel_rfl) ?_ _
      (try simp only [Exit.then, Exit.inBlock])
      have HR3 : Hid (RwD w3 g cap H) := (hR.out.keep HGd.out (by simp)).keep g3 (by simp)
      have HG3 : Hid (w.grownBy w3 (some g)) := hg.out.trans ((grown_weak HGd.out _).trans (grown_weak g3 _))
      clear SS hx hy g3 hcmp
      apply_assumption
      cases bb with
      | true =>
        have hlt := of_decide_eq_true HBB.out.symm
        have HLT : Hid ((H.getD c ld0).fr < (H.getD a ld0).fr) := by show _ < _; rw [← HX.out, ← HY.out]; omega
        clear hlt
        go_wp2
        obtain ⟨q1, q2, q3, q4⟩ := HQ.out
        exact ⟨⟨c + 1, j, by omega, by omega, q4, by go_num, rfl, HR3.out, fun h h1 h2 => Nat.lt_of_le_of_lt (SrtF.le (f := fun k => (H.getD k ld0).fr) HS.out h1 (show h ≤ c by omega) (by omega)) HLT.out, hhi.out, HG3.out⟩, by simp [intOf] <;> omega⟩
      | false =>
        have hlt := of_decide_eq_false HBB.out.symm
        have HLT : Hid ((H.getD a ld0).fr ≤ (H.getD c ld0).fr) := by show _ ≤ _; rw [← HX.out, ← HY.out]; omega
        clear hlt
        go_wp2
        obtain ⟨q1, q2, q3, q4⟩ := HQ.out
        exact ⟨⟨i, c, q1, q2, by omega, rfl, rfl, HR3.out, hlo.out, fun h h1 h2 => Nat.le_trans HLT.out (SrtF.le (f := fun k => (H.getD k ld0).fr) HS.out (by omega) h1 h2), HG3.out⟩, by simp [intOf] <;> omega⟩
    · obtain rfl : i = j := by omega
      have lk : ¬ (i : Int) < (i : Int) := by omega
      have hi6 : (i : Int) ≤ 1000000 := by omega
      obtain ⟨i1, hi1⟩ : ∃ i1, i1 = i - 1 := ⟨_, rfl⟩
      have hii : (i : Int) - 1 = (i1 : Int) := by have := HB.out; omega
      have HI : Hid (m ≤ i ∧ i ≤ b ∧ i1 = i - 1) := ⟨hmi, hjb, hi1⟩
      have HR0 : Hid (RwD wr g cap H) := hR.out
      have HG0 : Hid (w.grownBy wr (some g)) := hg.out
      clear hmi hij hjb hi1 hR hg
      go_wp2
      go_loopw [13] (fun v13 wy => ∃ (k : Nat) (K : List Ld), a ≤ k ∧ k ≤ i1 ∧ v13 = .int .i64 (k : Nat) ∧ Hid (RwD wy g cap K) ∧ Hid (K.Perm H) ∧ Hid (∀ q, K.getD q ld0 = rotF (fun q => H.getD q ld0) a (a + 1) (k + 1) q) ∧ Hid (w.grownBy wy (some g))) (fun v13 _ => i1 - (intOf v13).toNat)
      case atStart =>
        have h1 := HI.out
        have h2 := HB.out
        exact ⟨a, H, Nat.le_refl _, by omega, rfl, HR0.out, List.Perm.refl _, fun q => (rot_none2 (fun q => H.getD q ld0) a q).symm, HG0.out⟩
      case round =>
        obtain ⟨k, K, hak, hki, rfl, HKK, hp, hF, hg⟩ := hrel
        by_cases hlt2 : k < i1
        · have lk2 : (k : Int) < (i1 : Int) := by omega
          obtain ⟨Y, hY⟩ : ∃ Y, Y = k + 1 := ⟨_, rfl⟩
          have hYi : (k : Int) + 1 = (Y : Int) := by omega
          have hwY : IntKind.i64.wrap (Y : Int) = (Y : Int) := wrap_inP _ (by omega) (by omega)
          have h1 := HI.out
          have h2 := HB.out
          have hkn : (k : Int) < (n : Int) := by omega
          have hYn : (Y : Int) < (n : Int) := by omega
          have hk6 : (k : Int) ≤ 1000000 := by omega
          have hKl : K.length = n := by rw [hp.out.length_eq, HNN.out]
          have HXL : Hid (k < K.length) := by show k < K.length; omega
          have HYL : Hid (Y < K.length) := by show Y < K.length; omega
          have HQ : Hid (a ≤ k ∧ k < i1 ∧ Y = k + 1) := ⟨hak, hlt2, hY⟩
          clear hak hki hlt2 hY h1 h2 hKl
          go_upto_region 11 with fail
          have Gd := grown_drew wr none
          have hd : RwD wr.drew g cap K := HKK.out.keep Gd (by simp)
          have hx := hd.range (i := k) HXL.out
          have hy := hd.range (i := Y) HYL.out
          obtain ⟨x, hX⟩ : ∃ x, x = K.getD k ld0 := ⟨_, rfl⟩
          obtain ⟨y, hY⟩ : ∃ y, y = K.getD Y ld0 := ⟨_, rfl⟩
          rw [← hX] at hx
          rw [← hY] at hy
          have HX : Hid _ := hX
          have HY : Hid _ := hY
          have HD : Hid _ := hd
          have HGd : Hid _ := Gd
          clear hX hY hd Gd
          refine wp_regionM (fun wz => wz = wr.drew) [15, 17] #[false, false, false, false, false, false, false, false, false, false, false, false, false, false, false, false, false, false] rfl (by kernel_rfl) ?_
          generalize wr.drew = wd at *
          refine wpAnyY_takeF 0 (.slice (some ⟨g, 0, none⟩) n cap) rfl (by kernel_rfl) (fun _ _ _ h => h) rfl (by intro wz; go_simp; try rfl) ?_
          try simp only [List.getElem_toArray, List.getElem_cons_succ, List.getElem_cons_zero, Act.put, List.setIfInBounds_toArray, List.set_cons_zero, List.set_cons_succ]
          refine wpAnyY_takeF 1 (.int .i64 (k : Nat)) rfl (by kernel_rfl) (fun _ _ _ h => h) rfl (by intro wz; go_simp; try rfl) ?_
          try simp only [List.getElem_toArray, List.getElem_cons_succ, List.getElem_cons_zero, Act.put, List.setIfInBounds_toArray, List.set_cons_zero, List.set_cons_succ]
          refine wpAnyY_takeF 2 (.slice (some ⟨g, 0, none⟩) n cap) rfl (by kernel_rfl) (fun _ _ _ h => h) rfl (by intro wz; go_simp; try rfl) ?_
          try simp only [List.getElem_toArray, List.getElem_cons_succ, List.getElem_cons_zero, Act.put, List.setIfInBounds_toArray, List.set_cons_zero, List.set_cons_succ]
          refine wpAnyY_takeF 3 (.int .i64 (k : Nat)) rfl (by kernel_rfl) (fun _ _ _ h => h) rfl (by intro wz; go_simp; try rfl) ?_
          try simp only [List.getElem_toArray, List.getElem_cons_succ, List.getElem_cons_zero, Act.put, List.setIfInBounds_toArray, List.set_cons_zero, List.set_cons_succ]
          refine wpAnyY_takeF 4 (.int .i64 (Y : Nat)) rfl (by kernel_rfl) (fun _ _ _ h => h) rfl (by intro wz; go_simp; try rfl) ?_
          try simp only [List.getElem_toArray, List.getElem_cons_succ, List.getElem_cons_zero, Act.put, List.setIfInBounds_toArray, List.set_cons_zero, List.set_cons_succ]
          refine wpAnyY_takeF 5 (.slice (some ⟨g, 0, none⟩) n cap) rfl (by kernel_rfl) (fun _ _ _ h => h) rfl (by intro wz; go_simp; try rfl) ?_
          try simp only [List.getElem_toArray, List.getElem_cons_succ, List.getElem_cons_zero, Act.put, List.setIfInBounds_toArray, List.set_cons_zero, List.set_cons_succ]
          refine wpAnyY_takeF 6 (.int .i64 (k : Nat)) rfl (by kernel_rfl) (fun _ _ _ h => h) rfl (by intro wz; go_simp; try rfl) ?_
          try simp only [List.getElem_toArray, List.getElem_cons_succ, List.getElem_cons_zero, Act.put, List.setIfInBounds_toArray, List.set_cons_zero, List.set_cons_succ]
          refine wpAnyY_takeF 7 (.int .i64 (Y : Nat)) rfl (by kernel_rfl) (fun _ _ _ h => h) rfl (by intro wz; go_simp; try rfl) ?_
          try simp only [List.getElem_toArray, List.getElem_cons_succ, List.getElem_cons_zero, Act.put, List.setIfInBounds_toArray, List.set_cons_zero, List.set_cons_succ]
          refine wpAnyY_takeF 8 (.pointer (some ⟨g, Y * 4, none⟩)) rfl (by kernel_rfl) (fun _ _ _ h => h) rfl (by intro wz; go_simp; try rfl) ?_
          try simp only [List.getElem_toArray, List.getElem_cons_succ, List.getElem_cons_zero, Act.put, List.setIfInBounds_toArray, List.set_cons_zero, List.set_cons_succ]
          refine wpAnyY_take [15, 17] 9 (.agg #[.int .i64 (y.pl : Int), .int .i64 (y.fr : Int), .int .i64 (y.by' : Int), .int .i64 (y.lf : Int)]) rfl (by kernel_rfl) (fun _ _ _ h => h) rfl rfl (fun wz hz => by subst hz; exact ldMR rfl rfl hy Try.underlying55 rfl (by rw [Try.info_ld]; rfl)) ?_
          try simp only [List.getElem_toArray, List.getElem_cons_succ, List.getElem_cons_zero, Act.put, List.setIfInBounds_toArray, List.set_cons_zero, List.set_cons_succ]
          refine wpAnyY_takeF 10 (.slice (some ⟨g, 0, none⟩) n cap) rfl (by kernel_rfl) (fun _ _ _ h => h) rfl (by intro wz; go_simp; try rfl) ?_
          try simp only [List.getElem_toArray, List.getElem_cons_succ, List.getElem_cons_zero, Act.put, List.setIfInBounds_toArray, List.set_cons_zero, List.set_cons_succ]
          refine wpAnyY_takeF 11 (.int .i64 (k : Nat)) rfl (by kernel_rfl) (fun _ _ _ h => h) rfl (by intro wz; go_simp; try rfl) ?_
          try simp only [List.getElem_toArray, List.getElem_cons_succ, List.getElem_cons_zero, Act.put, List.setIfInBounds_toArray, List.set_cons_zero, List.set_cons_succ]
          refine wpAnyY_takeF 12 (.pointer (some ⟨g, k * 4, none⟩)) rfl (by kernel_rfl) (fun _ _ _ h => h) rfl (by intro wz; go_simp; try rfl) ?_
          try simp only [List.getElem_toArray, List.getElem_cons_succ, List.getElem_cons_zero, Act.put, List.setIfInBounds_toArray, List.set_cons_zero, List.set_cons_succ]
          refine wpAnyY_take [15, 17] 13 (.agg #[.int .i64 (x.pl : Int), .int .i64 (x.fr : Int), .int .i64 (x.by' : Int), .int .i64 (x.lf : Int)]) rfl (by kernel_rfl) (fun _ _ _ h => h) rfl rfl (fun wz hz => by subst hz; exact ldMR rfl rfl hx Try.underlying55 rfl (by rw [Try.info_ld]; rfl)) ?_
          try simp only [List.getElem_toArray, List.getElem_cons_succ, List.getElem_cons_zero, Act.put, List.setIfInBounds_toArray, List.set_cons_zero, List.set_cons_succ]
          refine wpAnyY_takeF 14 (.pointer (some ⟨g, k * 4, none⟩)) rfl (by kernel_rfl) (fun _ _ _ h => h) rfl (by intro wz; go_simp; try rfl) ?_
          try simp only [List.getElem_toArray, List.getElem_cons_succ, List.getElem_cons_zero, Act.put, List.setIfInBounds_toArray, List.set_cons_zero, List.set_cons_succ]
          refine wpAnyY_oneB 15 rfl (by kernel_rfl) (fun KK hKK => ?_)
          refine step_of_listR rfl (wpList_stD rfl (.tmp 75) (.tmp 70) rfl g cap (k) K y rfl rfl HD.out HXL.out ?_)
          intro w1 hd1 g1
          have HD1 : Hid _ := hd1
          clear hd1
          refine wpList_nil ?_
          show KK _ _
          refine hKK _ _ (fun _ h => absurd (by decide) h) ?_
          try simp only [List.getElem_toArray, List.getElem_cons_succ, List.getElem_cons_zero, Act.put, List.setIfInBounds_toArray, List.set_cons_zero, List.set_cons_succ]
          refine wpAnyY_takeF 16 (.pointer (some ⟨g, Y * 4, none⟩)) rfl (by kernel_rfl) (fun _ _ _ h => h) rfl (by intro wz; go_simp; try rfl) ?_
          try simp only [List.getElem_toArray, List.getElem_cons_succ, List.getElem_cons_zero, Act.put, List.setIfInBounds_toArray, List.set_cons_zero, List.set_cons_succ]
          refine wpAnyY_oneB 17 rfl (by kernel_rfl) (fun KK hKK => ?_)
          refine step_of_listR rfl (wpList_stD rfl (.tmp 76) (.tmp 74) rfl g cap (Y) (K.set k y) x rfl rfl HD1.out (by rw [List.length_set]; exact HYL.out) ?_)
          intro w2 hd2 g2
          have HD2 : Hid _ := hd2
          clear hd2
          refine wpList_nil ?_
          show KK _ _
          refine hKK _ _ (fun _ h => absurd (by decide) h) ?_
          try simp only [List.getElem_toArray, List.getElem_cons_succ, List.getElem_cons_zero, Act.put, List.setIfInBounds_toArray, List.set_cons_zero, List.set_cons_succ]
          refine wpAnyY_doneB (by kernel_rfl) ?_ _
          (try simp only [Exit.then, Exit.inBlock])
          have e2 : swL ld0 K (k) (Y) = (K.set (k) y).set (Y) x := by unfold swL; rw [HX.out, HY.out]
          have HF : Hid (RwD w2 g cap (swL ld0 K (k) (Y))) := by show _; rw [e2]; exact HD2.out
          have HG2 : Hid (wr.grownBy w2 (some g)) := (grown_weak HGd.out _).trans (g1.trans g2)
          clear e2 hx hy g1 g2
          go_wp2
          refine ⟨⟨k + 1, swL ld0 K k Y, by have := HQ.out; omega, HQ.out.2.1, by go_num, HF.out, (swL_perm ld0 K k Y HXL.out HYL.out).trans hp.out, fun q => ?_, hg.out.trans HG2.out⟩, by have := HQ.out; simp [intOf] <;> omega⟩
          obtain ⟨e1, e2, e3⟩ := HQ.out
          rw [swL_get ld0 K k Y q HXL.out HYL.out, hF.out k, hF.out Y, hF.out q, ← rot_up _ _ _ _ e1, e3]
        · obtain rfl : k = i1 := by omega
          have lk2 : ¬ (k : Int) < (k : Int) := by omega
          clear hki
          go_wp2
          (try simp only [Exit.inBlock, Exit.then])
          first | go_end0 | (refine bodyPost_ret (results_none rfl _ _ _) rfl ?_)
          obtain ⟨i2, i3, i4⟩ := HI.out
          obtain ⟨q1, q2, q3, q4⟩ := HB.out
          have e : k + 1 = i := by omega
          have hRS := rot_srt (f := fun q => (H.getD q ld0).fr) (a := a) (s := a) (m := a + 1) (e := i) (b := b) (fun p q z1 z2 z3 => by omega) (by rw [← q1]; exact HS.out) (Nat.le_refl _) (by omega) (by omega) i3 (fun h => absurd h (by omega)) (fun h1 h2 => Nat.le_of_lt (hlo.out (i - 1) (by omega) (by omega)))
          have hKe : ∀ q, (K.getD q ld0).fr = rotF (fun q => (H.getD q ld0).fr) a (a + 1) i q := fun q => by rw [hF.out q, e]; exact rotF_map Ld.fr _ a (a + 1) i q
          have hd : a + (i - (a + 1)) = k := by omega
          rw [hd] at hRS
          have hfun : (fun q => (K.getD q ld0).fr) = rotF (fun q => (H.getD q ld0).fr) a (a + 1) i := funext hKe
          rw [← hfun] at hRS
          refine ⟨rfl, K, HKK.out, ⟨hp.out, fun q hq => ?_⟩, ?_, hg.out⟩
          · rw [hF.out q, e]
            unfold rotF
            rcases hq with hq | hq
            · rw [if_pos hq]
            · rw [if_neg (by omega), if_neg (by omega), if_neg (by omega)]
          · show SrtF (fun q => (K.getD q ld0).fr) a b
            refine SrtF.join hRS.r2 (SrtF.join hRS.r3 hRS.r4 (fun p q z1 z2 z3 z4 => ?_)) hRS.cr
            have z5 := hKe p
            have z6 := hKe q
            show (K.getD p ld0).fr ≤ (K.getD q ld0).fr
            rw [z5, z6]
            unfold rotF
            rw [if_neg (by omega), if_neg (by omega), if_pos (by omega), if_neg (by omega), if_neg (by omega), if_neg (by omega), show p - (i - (a + 1)) = a by omega]
            exact hhi.out q z3 z4
set_option maxHeartbeats 16000000 in
theorem sym_two (g cap a m b n : Nat) (H : List Ld) (w : World) (hm1 : b = m + 1) (ham : a + 1 < m) (hb : b ≤ n) (hN : n = H.length) (hn : n ≤ 1000000) (h : RwD w g cap H) (hs : SrtD H a m) :
    Calls Try.prog 39 #[.slice (some ⟨g, 0, none⟩) n cap, .int .i64 (a : Nat), .int .i64 (m : Nat), .int .i64 (b : Nat), .func (.func 31) #[] #[]] w fun e w' => e = .returned (.tuple #[]) ∧ ∃ K, RwD w' g cap K ∧ SameD H K a b ∧ SrtD K a b ∧ w.grownBy w' (some g) := by
  have HW : Hid _ := h
  have HNN : Hid _ := hN
  have HS : Hid _ := hs
  have HB : Hid (b = m + 1 ∧ a + 1 < m ∧ b ≤ n ∧ n ≤ 1000000) := ⟨hm1, ham, hb, hn⟩
  obtain ⟨z, hz⟩ : ∃ z, z = m - a := ⟨_, rfl⟩
  have d0 : (m : Int) - (a : Int) = (z : Int) := by omega
  have d2 : ((z : Int) == 1) = false := by
    have : ¬ (z : Int) = 1 := by omega
    exact beq_eq_false_iff_ne.2 this
  have d1 : (b : Int) - (m : Int) = 1 := by omega
  have ha6 : (a : Int) ≤ 1000000 := by omega
  have hm6 : (m : Int) ≤ 1000000 := by omega
  have hb6 : (b : Int) ≤ 1000000 := by omega
  have hz6 : (z : Int) ≤ 1000000 := by omega
  have hmn : (m : Int) < (n : Int) := by omega
  clear h hN hs hm1 ham hb hn hz
  go_enter Try.func39, Try.ntmps39
  go_wp2
  go_loopw [14, 15] (fun v14 v15 wr => ∃ i j : Nat, a ≤ i ∧ i ≤ j ∧ j ≤ m ∧ v14 = .int .i64 (i : Nat) ∧ v15 = .int .i64 (j : Nat) ∧ Hid (RwD wr g cap H) ∧ Hid (∀ h, a ≤ h → h < i → (H.getD h ld0).fr ≤ (H.getD m ld0).fr) ∧ Hid (∀ h, j ≤ h → h < m → (H.getD m ld0).fr < (H.getD h ld0).fr) ∧ Hid (w.grownBy wr (some g))) (fun v14 v15 _ => (intOf v15).toNat - (intOf v14).toNat)
  case atStart => exact ⟨a, m, Nat.le_refl _, by have := HB.out; omega, Nat.le_refl _, rfl, rfl, HW.out, (fun h h1 h2 => absurd h1 (by omega)), (fun h h1 h2 => absurd h1 (by omega)), World.grownBy.refl _ _⟩
  case round =>
    obtain ⟨i, j, hai, hij, hjm, rfl, rfl, hR, hlo, hhi, hg⟩ := hrel
    by_cases hlt : i < j
    · have lk : (i : Int) < (j : Int) := by omega
      have hi6 : (i : Int) ≤ 1000000 := by omega
      have hj6 : (j : Int) ≤ 1000000 := by omega
      obtain ⟨c, hc⟩ : ∃ c, c = (i + j) / 2 := ⟨_, rfl⟩
      have hci : ((i : Int) + (j : Int)) / 2 = (c : Int) := by omega
      obtain ⟨q1, q2, q3, q4⟩ := HB.out
      have hcn : (c : Int) < (n : Int) := by omega
      have hc6 : (c : Int) ≤ 1000000 := by omega
      have HXL : Hid (m < H.length) := by show m < H.length; rw [← HNN.out]; omega
      have HYL : Hid (c < H.length) := by show c < H.length; rw [← HNN.out]; omega
      have HQ : Hid (a ≤ i ∧ i ≤ c ∧ c < j ∧ j ≤ m) := ⟨hai, by omega, by omega, hjm⟩
      clear hc q1 q2 q3 q4 hai hij hjm hlt
      go_upto_region 17 with fail
      have hx := hR.out.range (i := m) HXL.out
      have hy := hR.out.range (i := c) HYL.out
      obtain ⟨x, hX⟩ : ∃ x, x = H.getD m ld0 := ⟨_, rfl⟩
      obtain ⟨y, hY⟩ : ∃ y, y = H.getD c ld0 := ⟨_, rfl⟩
      rw [← hX] at hx
      rw [← hY] at hy
      have HX : Hid _ := hX
      have HY : Hid _ := hY
      clear hX hY
      obtain ⟨bb, hbb⟩ : ∃ bb, bb = decide ((x.fr : Int) < (y.fr : Int)) := ⟨_, rfl⟩
      have hcmp : decide (cN (x.fr : Int) (y.fr : Int) < 0) = bb := by rw [cN_lt, hbb]
      have HBB : Hid _ := hbb
      clear hbb
      have Gd := grown_drew wr none
      have SS : wr.drew.rangeAt g (m * 4) x.cells ∧ wr.drew.rangeAt g (c * 4) y.cells := ⟨range_grown hx Gd, range_grown hy Gd⟩
      refine wp_regionM (fun wz => wz.rangeAt g (m * 4) x.cells ∧ wz.rangeAt g (c * 4) y.cells) [] #[false, false, false, false, false, false, false, false, false, false, false, false] rfl (by kernel_rfl) ?_
      have HGd : Hid _ := Gd
      clear Gd
      generalize wr.drew = wd at *
      refine wpAnyY_takeF 0 (.func (.func 31) #[] #[]) rfl (by kernel_rfl) (fun _ _ _ h => h) rfl (by intro wz; go_simp; try rfl) ?_
      try simp only [List.getElem_toArray, List.getElem_cons_succ, List.getElem_cons_zero, Act.put, List.setIfInBounds_toArray, List.set_cons_zero, List.set_cons_succ]
      refine wpAnyY_takeF 1 (.slice (some ⟨g, 0, none⟩) n cap) rfl (by kernel_rfl) (fun _ _ _ h => h) rfl (by intro wz; go_simp; try rfl) ?_
      try simp only [List.getElem_toArray, List.getElem_cons_succ, List.getElem_cons_zero, Act.put, List.setIfInBounds_toArray, List.set_cons_zero, List.set_cons_succ]
      refine wpAnyY_takeF 2 (.int .i64 (m : Nat)) rfl (by kernel_rfl) (fun _ _ _ h => h) rfl (by intro wz; go_simp; try rfl) ?_
      try simp only [List.getElem_toArray, List.getElem_cons_succ, List.getElem_cons_zero, Act.put, List.setIfInBounds_toArray, List.set_cons_zero, List.set_cons_succ]
      refine wpAnyY_takeF 3 (.pointer (some ⟨g, m * 4, none⟩)) rfl (by kernel_rfl) (fun _ _ _ h => h) rfl (by intro wz; go_simp; try rfl) ?_
      try simp only [List.getElem_toArray, List.getElem_cons_succ, List.getElem_cons_zero, Act.put, List.setIfInBounds_toArray, List.set_cons_zero, List.set_cons_succ]
      refine wpAnyY_take [] 4 (.agg #[.int .i64 (x.pl : Int), .int .i64 (x.fr : Int), .int .i64 (x.by' : Int), .int .i64 (x.lf : Int)]) rfl (by kernel_rfl) (fun _ _ _ h => h) SS rfl (fun wz hz => ldMR rfl rfl hz.1 Try.underlying55 rfl (by rw [Try.info_ld]; rfl)) ?_
      try simp only [List.getElem_toArray, List.getElem_cons_succ, List.getElem_cons_zero, Act.put, List.setIfInBounds_toArray, List.set_cons_zero, List.set_cons_succ]
      refine wpAnyY_takeF 5 (.slice (some ⟨g, 0, none⟩) n cap) rfl (by kernel_rfl) (fun _ _ _ h => h) rfl (by intro wz; go_simp; try rfl) ?_
      try simp only [List.getElem_toArray, List.getElem_cons_succ, List.getElem_cons_zero, Act.put, List.setIfInBounds_toArray, List.set_cons_zero, List.set_cons_succ]
      refine wpAnyY_takeF 6 (.int .i64 (c : Nat)) rfl (by kernel_rfl) (fun _ _ _ h => h) rfl (by intro wz; go_simp; try rfl) ?_
      try simp only [List.getElem_toArray, List.getElem_cons_succ, List.getElem_cons_zero, Act.put, List.setIfInBounds_toArray, List.set_cons_zero, List.set_cons_succ]
      refine wpAnyY_takeF 7 (.pointer (some ⟨g, c * 4, none⟩)) rfl (by kernel_rfl) (fun _ _ _ h => h) rfl (by intro wz; go_simp; try rfl) ?_
      try simp only [List.getElem_toArray, List.getElem_cons_succ, List.getElem_cons_zero, Act.put, List.setIfInBounds_toArray, List.set_cons_zero, List.set_cons_succ]
      refine wpAnyY_take [] 8 (.agg #[.int .i64 (y.pl : Int), .int .i64 (y.fr : Int), .int .i64 (y.by' : Int), .int .i64 (y.lf : Int)]) rfl (by kernel_rfl) (fun _ _ _ h => h) SS rfl (fun wz hz => ldMR rfl rfl hz.2 Try.underlying55 rfl (by rw [Try.info_ld]; rfl)) ?_
      try simp only [List.getElem_toArray, List.getElem_cons_succ, List.getElem_cons_zero, Act.put, List.setIfInBounds_toArray, List.set_cons_zero, List.set_cons_succ]
      refine wpAnyY_oneB 9 rfl (by kernel_rfl) (fun KK hKK => ?_)
      go_simp
      go_at_call 31
      refine (lcmp_any x y _).mono ?_
      rintro e w3 ⟨rfl, g3⟩
      dsimp only
      refine hKK _ _ (fun h _ => ⟨range_grown h.1 g3, range_grown h.2 g3⟩) ?_
      try simp only [List.getElem_toArray, List.getElem_cons_succ, List.getElem_cons_zero, Act.put, List.setIfInBounds_toArray, List.set_cons_zero, List.set_cons_succ]
      refine wpAnyY_takeF 10 (.bool bb) rfl (by kernel_rfl) (fun _ _ _ h => h) rfl (by intro wz; go_simp; try rfl) ?_
      try simp only [List.getElem_toArray, List.getElem_cons_succ, List.getElem_cons_zero, Act.put, List.setIfInBounds_toArray, List.set_cons_zero, List.set_cons_succ]
      refine wpAnyY_takeF 11 (.bool (!bb)) rfl (by kernel_rfl) (fun _ _ _ h => h) rfl (by intro wz; go_simp; try rfl) ?_
      try simp only [List.getElem_toArray, List.getElem_cons_succ, List.getElem_cons_zero, Act.put, List.setIfInBounds_toArray, List.set_cons_zero, List.set_cons_succ]
      refine wpAnyY_doneB (by kernel_rfl) ?_ _
      (try simp only [Exit.then, Exit.inBlock])
      have HR3 : Hid (RwD w3 g cap H) := (hR.out.keep HGd.out (by simp)).keep g3 (by simp)
      have HG3 : Hid (w.grownBy w3 (some g)) := hg.out.trans ((grown_weak HGd.out _).trans (grown_weak g3 _))
      clear SS hx hy g3 hcmp
      apply_assumption
      cases bb with
      | false =>
        have hlt := of_decide_eq_false HBB.out.symm
        have HLT : Hid ((H.getD c ld0).fr ≤ (H.getD m ld0).fr) := by show _ ≤ _; rw [← HX.out, ← HY.out]; omega
        clear hlt
        go_wp2
        obtain ⟨q1, q2, q3, q4⟩ := HQ.out
        exact ⟨⟨c + 1, j, by omega, by omega, q4, by go_num, rfl, HR3.out, fun h h1 h2 => Nat.le_trans (SrtF.le (f := fun k => (H.getD k ld0).fr) HS.out h1 (show h ≤ c by omega) (by omega)) HLT.out, hhi.out, HG3.out⟩, by simp [intOf] <;> omega⟩
      | true =>
        have hlt := of_decide_eq_true HBB.out.symm
        have HLT : Hid ((H.getD m ld0).fr < (H.getD c ld0).fr) := by show _ < _; rw [← HX.out, ← HY.out]; omega
        clear hlt
        go_wp2
        obtain ⟨q1, q2, q3, q4⟩ := HQ.out
        exact ⟨⟨i, c, q1, q2, by omega, rfl, rfl, HR3.out, hlo.out, fun h h1 h2 => Nat.lt_of_lt_of_le HLT.out (SrtF.le (f := fun k => (H.getD k ld0).fr) HS.out (by omega) h1 h2), HG3.out⟩, by simp [intOf] <;> omega⟩
    · obtain rfl : i = j := by omega
      have lk : ¬ (i : Int) < (i : Int) := by omega
      have hi6 : (i : Int) ≤ 1000000 := by omega
      have HI : Hid (a ≤ i ∧ i ≤ m) := ⟨hai, hjm⟩
      have HR0 : Hid (RwD wr g cap H) := hR.out
      have HG0 : Hid (w.grownBy wr (some g)) := hg.out
      clear hai hij hjm hR hg
      go_wp2
      go_loopw [17] (fun v17 wy => ∃ (k : Nat) (K : List Ld), i ≤ k ∧ k ≤ m ∧ v17 = .int .i64 (k : Nat) ∧ Hid (RwD wy g cap K) ∧ Hid (K.Perm H) ∧ Hid (∀ q, K.getD q ld0 = rotF (fun q => H.getD q ld0) k m (m + 1) q) ∧ Hid (w.grownBy wy (some g))) (fun v17 _ => (intOf v17).toNat)
      case atStart =>
        have h1 := HI.out
        exact ⟨m, H, h1.2, Nat.le_refl _, rfl, HR0.out, List.Perm.refl _, fun q => (rot_none (fun q => H.getD q ld0) m q).symm, HG0.out⟩
      case round =>
        obtain ⟨k, K, hik, hkm, rfl, HKK, hp, hF, hg⟩ := hrel
        by_cases hlt2 : i < k
        · have lk2 : (i : Int) < (k : Int) := by omega
          obtain ⟨Y, hY⟩ : ∃ Y, Y = k - 1 := ⟨_, rfl⟩
          have hYi : (k : Int) - 1 = (Y : Int) := by omega
          have hwY : IntKind.i64.wrap (Y : Int) = (Y : Int) := wrap_inP _ (by omega) (by omega)
          have h2 := HB.out
          have hkn : (k : Int) < (n : Int) := by omega
          have hYn : (Y : Int) < (n : Int) := by omega
          have hk6 : (k : Int) ≤ 1000000 := by omega
          have hKl : K.length = n := by rw [hp.out.length_eq, HNN.out]
          have HXL : Hid (k < K.length) := by show k < K.length; omega
          have HYL : Hid (Y < K.length) := by show Y < K.length; omega
          have HQ : Hid (i < k ∧ k ≤ m ∧ Y + 1 = k) := ⟨hlt2, hkm, by omega⟩
          clear hik hkm hlt2 hY h2 hKl
          go_upto_region 23 with fail
          have Gd := grown_drew wr none
          have hd : RwD wr.drew g cap K := HKK.out.keep Gd (by simp)
          have hx := hd.range (i := k) HXL.out
          have hy := hd.range (i := Y) HYL.out
          obtain ⟨x, hX⟩ : ∃ x, x = K.getD k ld0 := ⟨_, rfl⟩
          obtain ⟨y, hY⟩ : ∃ y, y = K.getD Y ld0 := ⟨_, rfl⟩
          rw [← hX] at hx
          rw [← hY] at hy
          have HX : Hid _ := hX
          have HY : Hid _ := hY
          have HD : Hid _ := hd
          have HGd : Hid _ := Gd
          clear hX hY hd Gd
          refine wp_regionM (fun wz => wz = wr.drew) [15, 17] #[false, false, false, false, false, false, false, false, false, false, false, false, false, false, false, false, false, false] rfl (by kernel_rfl) ?_
          generalize wr.drew = wd at *
          refine wpAnyY_takeF 0 (.slice (some ⟨g, 0, none⟩) n cap) rfl (by kernel_rfl) (fun _ _ _ h => h) rfl (by intro wz; go_simp; try rfl) ?_
          try simp only [List.getElem_toArray, List.getElem_cons_succ, List.getElem_cons_zero, Act.put, List.setIfInBounds_toArray, List.set_cons_zero, List.set_cons_succ]
          refine wpAnyY_takeF 1 (.int .i64 (k : Nat)) rfl (by kernel_rfl) (fun _ _ _ h => h) rfl (by intro wz; go_simp; try rfl) ?_
          try simp only [List.getElem_toArray, List.getElem_cons_succ, List.getElem_cons_zero, Act.put, List.setIfInBounds_toArray, List.set_cons_zero, List.set_cons_succ]
          refine wpAnyY_takeF 2 (.slice (some ⟨g, 0, none⟩) n cap) rfl (by kernel_rfl) (fun _ _ _ h => h) rfl (by intro wz; go_simp; try rfl) ?_
          try simp only [List.getElem_toArray, List.getElem_cons_succ, List.getElem_cons_zero, Act.put, List.setIfInBounds_toArray, List.set_cons_zero, List.set_cons_succ]
          refine wpAnyY_takeF 3 (.int .i64 (k : Nat)) rfl (by kernel_rfl) (fun _ _ _ h => h) rfl (by intro wz; go_simp; try rfl) ?_
          try simp only [List.getElem_toArray, List.getElem_cons_succ, List.getElem_cons_zero, Act.put, List.setIfInBounds_toArray, List.set_cons_zero, List.set_cons_succ]
          refine wpAnyY_takeF 4 (.int .i64 (Y : Nat)) rfl (by kernel_rfl) (fun _ _ _ h => h) rfl (by intro wz; go_simp; try rfl) ?_
          try simp only [List.getElem_toArray, List.getElem_cons_succ, List.getElem_cons_zero, Act.put, List.setIfInBounds_toArray, List.set_cons_zero, List.set_cons_succ]
          refine wpAnyY_takeF 5 (.slice (some ⟨g, 0, none⟩) n cap) rfl (by kernel_rfl) (fun _ _ _ h => h) rfl (by intro wz; go_simp; try rfl) ?_
          try simp only [List.getElem_toArray, List.getElem_cons_succ, List.getElem_cons_zero, Act.put, List.setIfInBounds_toArray, List.set_cons_zero, List.set_cons_succ]
          refine wpAnyY_takeF 6 (.int .i64 (k : Nat)) rfl (by kernel_rfl) (fun _ _ _ h => h) rfl (by intro wz; go_simp; try rfl) ?_
          try simp only [List.getElem_toArray, List.getElem_cons_succ, List.getElem_cons_zero, Act.put, List.setIfInBounds_toArray, List.set_cons_zero, List.set_cons_succ]
          refine wpAnyY_takeF 7 (.int .i64 (Y : Nat)) rfl (by kernel_rfl) (fun _ _ _ h => h) rfl (by intro wz; go_simp; try rfl) ?_
          try simp only [List.getElem_toArray, List.getElem_cons_succ, List.getElem_cons_zero, Act.put, List.setIfInBounds_toArray, List.set_cons_zero, List.set_cons_succ]
          refine wpAnyY_takeF 8 (.pointer (some ⟨g, Y * 4, none⟩)) rfl (by kernel_rfl) (fun _ _ _ h => h) rfl (by intro wz; go_simp; try rfl) ?_
          try simp only [List.getElem_toArray, List.getElem_cons_succ, List.getElem_cons_zero, Act.put, List.setIfInBounds_toArray, List.set_cons_zero, List.set_cons_succ]
          refine wpAnyY_take [15, 17] 9 (.agg #[.int .i64 (y.pl : Int), .int .i64 (y.fr : Int), .int .i64 (y.by' : Int), .int .i64 (y.lf : Int)]) rfl (by kernel_rfl) (fun _ _ _ h => h) rfl rfl (fun wz hz => by subst hz; exact ldMR rfl rfl hy Try.underlying55 rfl (by rw [Try.info_ld]; rfl)) ?_
          try simp only [List.getElem_toArray, List.getElem_cons_succ, List.getElem_cons_zero, Act.put, List.setIfInBounds_toArray, List.set_cons_zero, List.set_cons_succ]
          refine wpAnyY_takeF 10 (.slice (some ⟨g, 0, none⟩) n cap) rfl (by kernel_rfl) (fun _ _ _ h => h) rfl (by intro wz; go_simp; try rfl) ?_
          try simp only [List.getElem_toArray, List.getElem_cons_succ, List.getElem_cons_zero, Act.put, List.setIfInBounds_toArray, List.set_cons_zero, List.set_cons_succ]
          refine wpAnyY_takeF 11 (.int .i64 (k : Nat)) rfl (by kernel_rfl) (fun _ _ _ h => h) rfl (by intro wz; go_simp; try rfl) ?_
          try simp only [List.getElem_toArray, List.getElem_cons_succ, List.getElem_cons_zero, Act.put, List.setIfInBounds_toArray, List.set_cons_zero, List.set_cons_succ]
          refine wpAnyY_takeF 12 (.pointer (some ⟨g, k * 4, none⟩)) rfl (by kernel_rfl) (fun _ _ _ h => h) rfl (by intro wz; go_simp; try rfl) ?_
          try simp only [List.getElem_toArray, List.getElem_cons_succ, List.getElem_cons_zero, Act.put, List.setIfInBounds_toArray, List.set_cons_zero, List.set_cons_succ]
          refine wpAnyY_take [15, 17] 13 (.agg #[.int .i64 (x.pl : Int), .int .i64 (x.fr : Int), .int .i64 (x.by' : Int), .int .i64 (x.lf : Int)]) rfl (by kernel_rfl) (fun _ _ _ h => h) rfl rfl (fun wz hz => by subst hz; exact ldMR rfl rfl hx Try.underlying55 rfl (by rw [Try.info_ld]; rfl)) ?_
          try simp only [List.getElem_toArray, List.getElem_cons_succ, List.getElem_cons_zero, Act.put, List.setIfInBounds_toArray, List.set_cons_zero, List.set_cons_succ]
          refine wpAnyY_takeF 14 (.pointer (some ⟨g, k * 4, none⟩)) rfl (by kernel_rfl) (fun _ _ _ h => h) rfl (by intro wz; go_simp; try rfl) ?_
          try simp only [List.getElem_toArray, List.getElem_cons_succ, List.getElem_cons_zero, Act.put, List.setIfInBounds_toArray, List.set_cons_zero, List.set_cons_succ]
          refine wpAnyY_oneB 15 rfl (by kernel_rfl) (fun KK hKK => ?_)
          refine step_of_listR rfl (wpList_stD rfl (.tmp 127) (.tmp 122) rfl g cap (k) K y rfl rfl HD.out HXL.out ?_)
          intro w1 hd1 g1
          have HD1 : Hid _ := hd1
          clear hd1
          refine wpList_nil ?_
          show KK _ _
          refine hKK _ _ (fun _ h => absurd (by decide) h) ?_
          try simp only [List.getElem_toArray, List.getElem_cons_succ, List.getElem_cons_zero, Act.put, List.setIfInBounds_toArray, List.set_cons_zero, List.set_cons_succ]
          refine wpAnyY_takeF 16 (.pointer (some ⟨g, Y * 4, none⟩)) rfl (by kernel_rfl) (fun _ _ _ h => h) rfl (by intro wz; go_simp; try rfl) ?_
          try simp only [List.getElem_toArray, List.getElem_cons_succ, List.getElem_cons_zero, Act.put, List.setIfInBounds_toArray, List.set_cons_zero, List.set_cons_succ]
          refine wpAnyY_oneB 17 rfl (by kernel_rfl) (fun KK hKK => ?_)
          refine step_of_listR rfl (wpList_stD rfl (.tmp 128) (.tmp 126) rfl g cap (Y) (K.set k y) x rfl rfl HD1.out (by rw [List.length_set]; exact HYL.out) ?_)
          intro w2 hd2 g2
          have HD2 : Hid _ := hd2
          clear hd2
          refine wpList_nil ?_
          show KK _ _
          refine hKK _ _ (fun _ h => absurd (by decide) h) ?_
          try simp only [List.getElem_toArray, List.getElem_cons_succ, List.getElem_cons_zero, Act.put, List.setIfInBounds_toArray, List.set_cons_zero, List.set_cons_succ]
          refine wpAnyY_doneB (by kernel_rfl) ?_ _
          (try simp only [Exit.then, Exit.inBlock])
          have e2 : swL ld0 K (k) (Y) = (K.set (k) y).set (Y) x := by unfold swL; rw [HX.out, HY.out]
          have HF : Hid (RwD w2 g cap (swL ld0 K (k) (Y))) := by show _; rw [e2]; exact HD2.out
          have HG2 : Hid (wr.grownBy w2 (some g)) := (grown_weak HGd.out _).trans (g1.trans g2)
          clear e2 hx hy g1 g2
          go_wp2
          refine ⟨⟨Y, swL ld0 K k Y, by have := HQ.out; omega, by have := HQ.out; omega, rfl, HF.out, (swL_perm ld0 K k Y HXL.out HYL.out).trans hp.out, fun q => ?_, hg.out.trans HG2.out⟩, by have := HQ.out; simp [intOf] <;> omega⟩
          obtain ⟨e1, e2, e3⟩ := HQ.out
          rw [swL_get ld0 K k Y q HXL.out HYL.out, hF.out k, hF.out Y, hF.out q, ← rot_dn _ m Y q (by omega), e3]
        · obtain rfl : k = i := by omega
          have lk2 : ¬ (k : Int) < (k : Int) := by omega
          clear hkm hik
          go_wp2
          (try simp only [Exit.inBlock, Exit.then])
          first | go_end0 | (refine bodyPost_ret (results_none rfl _ _ _) rfl ?_)
          obtain ⟨i2, i3⟩ := HI.out
          obtain ⟨q1, q2, q3, q4⟩ := HB.out
          have hRS := rot_srt (f := fun q => (H.getD q ld0).fr) (a := a) (s := k) (m := m) (e := m + 1) (b := b) HS.out (fun p q z1 z2 z3 => by omega) i2 i3 (by omega) (by omega) (fun _ h => absurd h (by omega)) (fun h1 h2 => Nat.le_of_lt (hhi.out k (Nat.le_refl _) h2))
          have hKe : ∀ q, (K.getD q ld0).fr = rotF (fun q => (H.getD q ld0).fr) k m (m + 1) q := fun q => by rw [hF.out q]; exact rotF_map Ld.fr _ k m (m + 1) q
          have hd : k + (m + 1 - m) = k + 1 := by omega
          rw [hd] at hRS
          have hfun : (fun q => (K.getD q ld0).fr) = rotF (fun q => (H.getD q ld0).fr) k m (m + 1) := funext hKe
          rw [← hfun] at hRS
          refine ⟨rfl, K, HKK.out, ⟨hp.out, fun q hq => ?_⟩, ?_, hg.out⟩
          · rw [hF.out q]
            unfold rotF
            rcases hq with hq | hq
            · rw [if_pos (by omega)]
            · rw [if_neg (by omega), if_neg (by omega), if_neg (by omega)]
          · show SrtF (fun q => (K.getD q ld0).fr) a b
            refine SrtF.join (SrtF.join hRS.r1 hRS.r2 (fun p q z1 z2 z3 z4 => ?_)) (SrtF.join hRS.r3 hRS.r4 (fun p q z1 z2 z3 z4 => by omega)) hRS.cr
            have z5 := hKe p
            have z6 := hKe q
            show (K.getD p ld0).fr ≤ (K.getD q ld0).fr
            rw [z5, z6]
            unfold rotF
            rw [if_pos z2, if_neg (by omega), if_pos (by omega), show q + (m - k) = m by omega]
            exact hlo.out p z1 z2
end
end Go.Proofs.Ytnjdbbjhplebhaa
