import Derived.Test.YtemlkgllbioigaaFPoly
import Derived.Test.YtemlkgllbioigaaFDup
namespace Go.Proofs.Ytemlkgllbioigaa
open Go.RowKit
set_option maxRecDepth 100000
set_option linter.unusedVariables false
set_option linter.unusedSimpArgs false

/-- p times (x + root), one number more room -/
def rootV (D : List Nat) (x j : Nat) : Nat := Fld.mul (nth D j) x ^^^ (if j = 0 then 0 else nth D (j - 1))
theorem timesRoot_any (g n x : Nat) (D : List Nat) (w : World) (hB : Blk w g D) (hD : IsB D) (hl : D.length = n) (hn : n ≤ 256) (hx : x < 256) :
    Calls Try.prog 48 #[.slice (some ⟨g, 0, none⟩) n n, .int .u8 x] w fun e w' => e = .returned (.tuple #[]) ∧ (∃ D', Blk w' g D' ∧ IsB D' ∧ D'.length = n ∧ ∀ j, j < n → nth D' j = rootV D x j) ∧ w.grownBy w' (some g) := by
  go_enter Try.func48, Try.ntmps48
  go_wp2
  go_loopw [4, 9] (fun v i wr => ∃ k : Nat, k ≤ n ∧ i = .int .i64 k ∧ v = .int .u8 (if k = 0 then 0 else nth D (k - 1) : Nat) ∧ w.grownBy wr (some g) ∧ ∃ D', Blk wr g D' ∧ IsB D' ∧ D'.length = n ∧ ∀ j, nth D' j = if j < k then rootV D x j else nth D j) (fun _ i _ => n - (intOf i).toNat)
  case atStart => exact ⟨0, by omega, rfl, rfl, World.grownBy.refl _ _, D, hB, hD, hl, fun j => by rw [if_neg (by omega)]⟩
  case round =>
    obtain ⟨k, hk, rfl, rfl, hgr, D', hB', hD', hl', hv⟩ := hrel
    have HL : Hid (D'.length = n) := hl'
    have HV : Hid (∀ j, nth D' j = if j < k then rootV D x j else nth D j) := hv
    obtain ⟨u, hu⟩ : ∃ u, u = (if k = 0 then 0 else nth D (k - 1)) := ⟨_, rfl⟩
    have hul : u < 256 := by rw [hu]; split; decide; exact hD.nth _
    rw [← hu]
    have HU : Hid (u = (if k = 0 then 0 else nth D (k - 1))) := hu
    clear hu
    by_cases hlt : k < n
    · have hc := hB'.cell k (by omega)
      have hf := hB'.free k
      have hDk : nth D' k = nth D k := by rw [hv k, if_neg (by omega)]
      rw [hDk] at hc
      have hk1 := hD.nth k
      have hxr := u8_xor_nat (Fld.mul (nth D k) x) u (Fld.mul_lt _ hk1) hul
      have R := hB'.set k (Fld.mul (nth D k) x ^^^ u)
      clear hv hl' hDk
      go_wp2_with (go_at_call 17; refine (mul_any _ _ hk1 hx _).mono ?_; rintro e w' ⟨rfl, hw⟩; have hw := hw.symm; subst hw)
      go_roundw
      case rel =>
        refine ⟨k + 1, by omega, by go_num, by rw [if_neg (by omega)]; rfl, grown_trans hgr (grown_set _ _ _ _), _, R, isB_set hD' _ _ (Fld.xor_lt (Fld.mul_lt _ hk1) hul), by rw [List.length_set]; exact HL.out, fun j => ?_⟩
        rw [nth_set _ _ _ _ (by rw [HL.out]; exact hlt)]
        by_cases e : k = j
        · subst e; rw [if_pos rfl, if_pos (by omega)]; unfold rootV; rw [HU.out]
        · rw [if_neg e, HV.out j]
          by_cases e2 : j < k
          · rw [if_pos e2, if_pos (by omega)]
          · rw [if_neg e2, if_neg (by omega)]
      case measure => simp [intOf]; omega
    · obtain rfl : k = n := by omega
      clear hv hl'
      go_wp2
      go_end0
      exact ⟨rfl, ⟨D', hB', hD', HL.out, fun j hj => by rw [HV.out j, if_pos hj]⟩, hgr⟩

theorem thr_len (a b : Option Addr) (n m cap cap' : Nat) (w : World) (hn : n ≤ 9223372036854775807) (hm : m ≤ 9223372036854775807) (h : n ≠ m ∨ 255 < n) :
    Calls Try.prog 33 #[.slice a n cap, .slice b m cap'] w fun e w' => e = .returned (.tuple #[.slice none 0 0, .int .i64 1]) ∧ w' = w := by
  by_cases h1 : n = m
  · subst h1
    have h2 : 255 < n := by omega
    go_enter Try.func33, Try.ntmps33
    go_wp2
    go_ret2
    exact ⟨rfl, rfl⟩
  · have hb : ((n : Int) != (m : Int)) = true := by simp; omega
    go_enter Try.func33, Try.ntmps33
    go_wp2
    go_ret2
    exact ⟨rfl, rfl⟩
theorem thr_dup (a b : Option Addr) (n cap cap' : Nat) (X : List Nat) (w : World) (hx : Rd w a n cap X) (hn : n ≤ 255) (hd : dupB X n = true) :
    Calls Try.prog 33 #[.slice a n cap, .slice b n cap'] w fun e w' => e = .returned (.tuple #[.slice none 0 0, .int .i64 4]) ∧ w.grownBy w' none := by
  have H := dup_any a n cap X w hx hn
  rw [hd] at H
  clear hd
  go_enter Try.func33, Try.ntmps33
  go_wp2_with (go_at_call 47; refine H.mono ?_; rintro e w1 ⟨rfl, hg⟩)
  go_ret2
  exact ⟨rfl, hg⟩

theorem at_ct {X Y T : List Nat} {n k x : Nat} (hT : IsB T) (hl : T.length ≤ n + 1) (hx : x < 256) (hv : ∀ j, nth T j = ctF X Y n k j) : atL T x = ev (ctF X Y n k) (n + 1) x := by
  rw [atL_ev hT x (n + 1) hx hl]; exact ev_congr _ _ (fun i _ => hv i)
theorem at_cb {X B : List Nat} {n k x : Nat} (hB : IsB B) (hl : B.length ≤ n + 1) (hx : x < 256) (hv : ∀ j, nth B j = cbF X k j) : atL B x = ev (cbF X k) (n + 1) x := by
  rw [atL_ev hB x (n + 1) hx hl]; exact ev_congr _ _ (fun i _ => hv i)
theorem thr_stepT {X Y T B : List Nat} {n k : Nat} (hX : IsB X) (hY : IsB Y) (hk : k < n) (hT : IsB T) (hTl : T.length = n) (hTv : ∀ j, nth T j = ctF X Y n k j) (hB : IsB B) (hBl : B.length = n + 1) (hBv : ∀ j, nth B j = cbF X k j) :
    ∀ j, nth (addN T 0 (B.take (k + 1)) (Fld.mul (nth Y k ^^^ atL T (nth X k)) (Fld.inv (atL B (nth X k)))) (k + 1)) j = ctF X Y n (k + 1) j := by
  intro j
  rw [nth_addN _ _ _ _ _ _ (by omega)]
  rw [at_ct hT (by omega) (hX.nth k) hTv, at_cb (n := n) hB (by omega) (hX.nth k) hBv]
  rw [show ctF X Y n (k + 1) j = ctF X Y n k j ^^^ Fld.mul (cbF X k j) (kOf (nth Y k) (ev (ctF X Y n k) (n + 1) (nth X k)) (ev (cbF X k) (n + 1) (nth X k))) from rfl]
  by_cases h : 0 ≤ j ∧ j < 0 + (k + 1)
  · rw [if_pos h, hTv j, Nat.sub_zero, nth_take _ _ _ (by omega), hBv j]; rfl
  · rw [if_neg h, hTv j, cbF_out X hX k j (by omega), Fld.zero_mul (kOf_lt (hY.nth k) (ev_lt _ _ (fun i => ctF_lt hX n k i))), Nat.xor_zero]
theorem thr_stepB {X B D : List Nat} {n k : Nat} (hX : IsB X) (hk : k < n) (hB : IsB B) (hBv : ∀ j, nth B j = cbF X k j) (hDl : D.length = n + 1) (hDv : ∀ j, j < n + 1 → nth D j = rootV B (nth X k) j) : ∀ j, nth D j = cbF X (k + 1) j := by
  intro j
  by_cases h : j < n + 1
  · rw [hDv j h]; unfold rootV; rw [hBv j]
    show _ = Fld.mul (cbF X k j) (nth X k) ^^^ (if j = 0 then 0 else cbF X k (j - 1))
    congr 1
    split
    · rfl
    · exact hBv _
  · rw [nth_out D j (by omega), cbF_out X hX (k + 1) j (by omega)]
set_option maxHeartbeats 2000000 in
theorem thr_ok (a b : Option Addr) (n cap cap' : Nat) (X Y : List Nat) (w : World) (hX : Rd w a n cap X) (hY : Rd w b n cap' Y) (hn : n ≤ 255) (hd : dupB X n = false) :
    Calls Try.prog 33 #[.slice a n cap, .slice b n cap'] w fun e w' => ∃ a' n' c', e = .returned (.tuple #[.slice a' n' c', .int .i64 0]) ∧ Ans w' w.heap.size a' n' c' (thL X Y) ∧ w.grownBy w' none := by
  have H := dup_any a n cap X w hX hn
  rw [hd] at H
  clear hd
  have HX : Hid (X.length = n) := hX.len
  go_enter Try.func33, Try.ntmps33
  go_wp2_with (first
    | (go_at_call 47; refine H.mono ?_; rintro e w1 ⟨rfl, hg1⟩)
    | (at_make; refine wpList_mkB _ rfl (.tmp 24) (.tmp 24) rfl _ _ n rfl rfl rfl rfl (by omega) ?_; intro w2 hb2 hg2)
    | (at_make; refine wpList_mkB _ rfl (.tmp 28) (.tmp 28) rfl _ _ (n + 1) rfl rfl (by omega) (by omega) (by omega) ?_; intro w3 hb3 hg3; have hc3 := hb3.cell 0 (by simp); have hf3 := hb3.free 0))
  have hb3' := hb3.set 0 1
  have hlt12 : w1.heap.size < w2.heap.size := hb2.lt
  have g03 := grown_trans hg1 (grown_trans hg2 hg3)
  have g0s := grown_far g03 (grown_set w3 w2.heap.size 0 (.int .u8 ((1 : Nat) : Int))) (fun g h => by cases h; exact Nat.le_trans hg1.size hg2.size)
  have hT3 := (hb2.grown hg3 (by simp)).grown (grown_set w3 w2.heap.size 0 (.int .u8 ((1 : Nat) : Int))) (by simp; omega)
  have h1s := hg1.size
  go_loopw [34] (fun i wr => ∃ k : Nat, k ≤ n ∧ i = .int .i64 k ∧ w.grownBy wr none ∧ ∃ T B, Blk wr w1.heap.size T ∧ IsB T ∧ T.length = n ∧ (∀ j, nth T j = ctF X Y n k j) ∧ Blk wr w2.heap.size B ∧ IsB B ∧ B.length = n + 1 ∧ (∀ j, nth B j = cbF X k j)) (fun i _ => n - (intOf i).toNat)
  case atStart =>
    refine ⟨0, by omega, rfl, g0s, _, _, hT3, isB_zeros _, by simp, fun j => nth_zeros _ _, hb3', isB_set (isB_zeros _) _ _ (by decide), by simp, fun j => ?_⟩
    rw [nth_set _ _ _ _ (by simp), nth_zeros]
    unfold cbF
    by_cases e : j = 0
    · subst e; rfl
    · rw [if_neg (by omega), if_neg e]
  case round =>
    obtain ⟨k, hk, rfl, hgr, T, B, hT, hTb, hTl, hTv, hBl, hBb, hBn, hBv⟩ := hrel
    have HTl : Hid (T.length = n) := hTl
    have HBl : Hid (B.length = n + 1) := hBn
    have HTv : Hid (∀ j, nth T j = ctF X Y n k j) := hTv
    have HBv : Hid (∀ j, nth B j = cbF X k j) := hBv
    clear hTv hBv hTl hBn
    by_cases hlt : k < n
    · obtain ⟨b1, off1, rfl, hbw1, hcc1⟩ := (hX.keep hgr).at' (by omega)
      obtain ⟨b2, off2, rfl, hbw2, hcc2⟩ := (hY.keep hgr).at' (by omega)
      have hck1 := hcc1 k hlt
      have hck2 := hcc2 k hlt
      have hxk := hX.byte.nth k
      have hyk := hY.byte.nth k
      have hTr := hT.rd hTb HTl.out (by unfold maxLen; omega)
      have hBr := hBl.rd hBb HBl.out (by unfold maxLen; omega)
      have hyt := u8_xor_nat (nth Y k) (atL T (nth X k)) hyk (atL_lt hTb _)
      clear hcc1 hcc2
      go_wp2
      go_quiet ((go_at_call 30; exact Calls.quiet_of (at_anyQ _ n _ _ T _ (hTr.keep (grown_drewN _ _ _)) hxk (by omega))))
      go_wp2
      have hbt := hBr.cut (m := k + 1) (by omega)
      have hbtl := atL_lt hBb (nth X k)
      have hinv := Fld.inv_lt hbtl
      have hlk : nth Y k ^^^ atL T (nth X k) < 256 := Fld.xor_lt hyk (atL_lt hTb _)
      have hkl := Fld.mul_lt (Fld.inv (atL B (nth X k))) hlk
      have hto : ((k : Int) + 1).toNat = k + 1 := by omega
      have hwr : IntKind.i64.wrap ((k : Int) + 1) = ((k + 1 : Nat) : Int) := by rw [wrap_i64_in _ (by omega) (by omega)]; omega
      have hb1 : (k : Int) + 1 ≤ (n : Int) + 1 := by omega
      have hb0 : (0 : Int) ≤ (k : Int) + 1 := by omega
      go_region_with (first | (go_at_call 30; refine (at_anyQ _ (n + 1) _ _ B _ (hBr.keep (by repeat (first | exact World.grownBy.refl _ _ | refine grown_trans ?_ (grown_drew _ _) | refine grown_trans ?_ (grown_drewN _ _ _)))) hxk (by omega)).mono ?_; rintro e w' ⟨rfl, q, rfl⟩) | (go_at_call 38; refine (inverse_any _ hbtl _).mono ?_; rintro e w' ⟨rfl, rfl⟩) | (go_at_call 17; refine (mul_any _ _ hlk hinv _).mono ?_; rintro e w' ⟨rfl, rfl⟩) | (go_at_call 43; refine (addScaled_any w1.heap.size 0 _ _ _ (k + 1) (n + 1) _ T (B.take (k + 1)) _ (hT.grown (r := none) (by repeat (first | exact World.grownBy.refl _ _ | refine grown_trans ?_ (grown_drew _ _) | refine grown_trans ?_ (grown_drewN _ _ _))) (by simp)) hTb (hbt.keep (by repeat (first | exact World.grownBy.refl _ _ | refine grown_trans ?_ (grown_drew _ _) | refine grown_trans ?_ (grown_drewN _ _ _)))) (fun _ b off h => by cases h; simp; omega) (by rw [HTl.out]; omega) (by omega) (by omega) hkl).mono ?_; rintro e w' ⟨rfl, hB', hgr'⟩))
      have Gq := grown_trans (grown_drewN wr (nq + 1 + q) (some w1.heap.size)) hgr'
      have hBl' := hBl.grown Gq (by simp; omega)
      have Gw := grown_far hgr Gq (fun g h => by cases h; exact h1s)
      go_wp2_with (go_at_call 48; refine (timesRoot_any w2.heap.size (n + 1) (nth X k) B _ hBl' hBb HBl.out (by omega) hxk).mono ?_; rintro e w'' ⟨rfl, ⟨D, hBD, hDb, hDl, hDv⟩, hgr''⟩; have HDl : Hid (D.length = n + 1) := hDl; have HDv : Hid (∀ j, j < n + 1 → nth D j = rootV B (nth X k) j) := hDv; clear hDl hDv)
      have hT' := hB'.grown hgr'' (by simp; omega)
      have Gw' := grown_far Gw hgr'' (fun g h => by cases h; omega)
      go_roundw
      case rel => exact ⟨k + 1, by omega, by go_num, Gw', _, _, hT', addN_isB hTb (isB_take hBb _) _ _ _, by rw [addN_length]; exact HTl.out, thr_stepT hX.byte hY.byte hlt hTb HTl.out HTv.out hBb HBl.out HBv.out, hBD, hDb, HDl.out, thr_stepB hX.byte hlt hBb HBv.out HDl.out HDv.out⟩
      case measure => simp [intOf]; omega
    · obtain rfl : k = n := by omega
      have hTr := hT.rd hTb HTl.out (by unfold maxLen; omega)
      have aT := hT.ans (n := trimN T k) (lo := w.heap.size) hTb (by rw [HTl.out]; exact trimN_le _ _) (by rw [HTl.out]; unfold maxLen; omega) h1s
      rw [HTl.out] at aT
      have HT : Hid (T.take (trimN T k) = thL X Y) := by
        show _ = _
        have := thL_of (T := T) hX.byte hY.byte (by rw [HX.out]; exact HTv.out)
        rw [← this]; unfold trimL; rw [HTl.out]
      go_wp2_with (go_at_call 44; refine (trim_any _ _ _ T _ hTr).mono ?_; rintro e w' ⟨rfl, hw⟩; have hw := hw.symm; subst hw)
      go_ret2
      exact ⟨_, _, _, rfl, by rw [← HT.out]; exact aT, hgr⟩
end Go.Proofs.Ytemlkgllbioigaa
