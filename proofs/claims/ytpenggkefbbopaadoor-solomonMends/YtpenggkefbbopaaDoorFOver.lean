import Derived.Test.YtpenggkefbbopaaDoorFAt
namespace Go.Proofs.YtpenggkefbbopaaDoor
open Go.RowKit
set_option maxRecDepth 100000
set_option linter.unusedVariables false
set_option linter.unusedSimpArgs false

/-! dividing P by B (whose last number is not nought): st rounds, the highest term first -/
def ovC (R B : List Nat) (at_ : Nat) : Nat := Fld.mul (nth R (at_ + B.length - 1)) (Fld.inv (nth B (B.length - 1)))
def ovR (P B : List Nat) (st : Nat) : Nat → List Nat
  | 0 => P
  | i + 1 => addN (ovR P B st i) (st - 1 - i) B (ovC (ovR P B st i) B (st - 1 - i)) B.length
def ovS (P B : List Nat) (st : Nat) : Nat → List Nat
  | 0 => List.replicate st 0
  | i + 1 => (ovS P B st i).set (st - 1 - i) (ovC (ovR P B st i) B (st - 1 - i))
theorem ovR_length (P B : List Nat) (st i : Nat) : (ovR P B st i).length = P.length := by
  induction i with
  | zero => rfl
  | succ i ih => simp only [ovR]; rw [addN_length]; exact ih
theorem ovS_length (P B : List Nat) (st i : Nat) : (ovS P B st i).length = st := by
  induction i with
  | zero => simp [ovS]
  | succ i ih => simp only [ovS, List.length_set]; exact ih
theorem ovR_isB {P B : List Nat} (hP : IsB P) (hB : IsB B) (st i : Nat) : IsB (ovR P B st i) := by
  induction i with
  | zero => exact hP
  | succ i ih => exact addN_isB ih hB _ _ _
theorem ovC_lt {R B : List Nat} (hR : IsB R) (at_ : Nat) : ovC R B at_ < 256 := Fld.mul_lt _ (hR.nth _)
theorem ovS_isB {P B : List Nat} (hP : IsB P) (hB : IsB B) (st i : Nat) : IsB (ovS P B st i) := by
  induction i with
  | zero => exact isB_zeros _
  | succ i ih => exact isB_set ih _ _ (ovC_lt (ovR_isB hP hB st i) _)

theorem over_big (a b : Option Addr) (n m cap cap' : Nat) (w : World) (hn : n ≤ 9223372036854775807) (hm : m ≤ 9223372036854775807) (hb : 512 < n ∨ 512 < m) :
    Calls Tryd.prog 13 #[.slice a n cap, .slice b m cap'] w fun e w' => e = .returned (.tuple #[.slice none 0 0, .slice none 0 0, .int .i64 1]) ∧ w' = w := by
  have e : decide (512 < n ∨ 512 < m) = true := by simpa using hb
  have H := tooLong_any a b n m cap cap' w hn hm
  rw [e] at H
  clear e
  go_enter Tryd.func13, Tryd.ntmps13
  go_wp2_with (go_at_call 20; refine H.mono ?_; rintro e w' ⟨rfl, rfl⟩)
  go_ret3
  exact ⟨rfl, rfl⟩
theorem over_zero (a b : Option Addr) (n m cap cap' : Nat) (Q : List Nat) (w : World) (hq : Rd w b m cap' Q) (hn : n ≤ 512) (hm : m ≤ 512) (hz : trimN Q m = 0) :
    Calls Tryd.prog 13 #[.slice a n cap, .slice b m cap'] w fun e w' => e = .returned (.tuple #[.slice none 0 0, .slice none 0 0, .int .i64 3]) ∧ w' = w := by
  have e : decide (512 < n ∨ 512 < m) = false := by simp; omega
  have H := tooLong_any a b n m cap cap' w (by omega) (by omega)
  rw [e] at H
  clear e
  have HT := trim_any b m cap' Q w hq
  rw [hz] at HT
  clear hz
  go_enter Tryd.func13, Tryd.ntmps13
  go_wp2_with (first | (go_at_call 20; refine H.mono ?_; rintro e w' ⟨rfl, hw⟩; have hw := hw.symm; subst hw) | (go_at_call 21; refine HT.mono ?_; rintro e w' ⟨rfl, hw⟩; have hw := hw.symm; subst hw))
  go_ret3
  exact ⟨rfl, rfl⟩

theorem nth_take (L : List Nat) (m i : Nat) (h : i < m) : nth (L.take m) i = nth L i := by
  unfold nth; rw [List.getD_eq_getElem?_getD, List.getD_eq_getElem?_getD, List.getElem?_take, if_pos h]
set_option maxHeartbeats 1000000 in
theorem over_ok (a b : Option Addr) (n m cap cap' l st : Nat) (P Q B : List Nat) (w : World) (hp : Rd w a n cap P) (hq : Rd w b m cap' Q) (hn : n ≤ 512) (hm : m ≤ 512) (hl : trimN Q m = l) (hl0 : 0 < l) (hB : B = Q.take l) (hst : st = n + 1 - l) :
    Calls Tryd.prog 13 #[.slice a n cap, .slice b m cap'] w fun e w' => ∃ n2 n1 g, e = .returned (.tuple #[.slice (some ⟨g, 0, none⟩) n2 st, .slice (some ⟨w.heap.size, 0, none⟩) n1 n, .int .i64 0]) ∧
      w.heap.size < g ∧ Ans w' (w.heap.size + 1) (some ⟨g, 0, none⟩) n2 st (trimL (ovS P B st st)) ∧ Ans w' w.heap.size (some ⟨w.heap.size, 0, none⟩) n1 n (trimL (ovR P B st st)) ∧ w.grownBy w' none := by
  have e : decide (512 < n ∨ 512 < m) = false := by simp; omega
  have H := tooLong_any a b n m cap cap' w (by omega) (by omega)
  rw [e] at H
  clear e
  have HT := trim_any b m cap' Q w hq
  rw [hl] at HT
  have hlm : l ≤ m := by rw [← hl]; exact trimN_le Q m
  have hb := hq.cut hlm
  rw [← hB] at hb
  have hlz : ((l : Int) == 0) = false := by simp; omega
  have HB : Hid (B.length = l) := hb.len
  have HP : Hid (P.length = n) := hp.len
  have HST : Hid (st = n + 1 - l) := hst
  clear hl hB hst
  obtain ⟨b1, off1, rfl, hbw1, hcc1⟩ := hb.at' hl0
  have hctop := hcc1 (l - 1) (by omega)
  have htop := hb.byte.nth (l - 1)
  by_cases hle : l ≤ n
  · have hsteq : (n : Int) - (l : Int) + 1 = (st : Int) := by have := HST.out; omega
    go_enter Tryd.func13, Tryd.ntmps13
    go_wp2_with (first | (go_at_call 20; refine H.mono ?_; rintro e w' ⟨rfl, hw⟩; have hw := hw.symm; subst hw) | (go_at_call 21; refine HT.mono ?_; rintro e w' ⟨rfl, hw⟩; have hw := hw.symm; subst hw) | (at_make; refine wpList_mkB _ rfl (.tmp 23) (.tmp 23) rfl _ _ n rfl rfl rfl rfl (by omega) ?_; intro w1 hb1 hg1) | (refine wpList_cpB rfl (.tmp 25) (.tmp 26) rfl w.heap.size n n a n cap rfl rfl _ P hb1 (hp.keep hg1) (Nat.le_refl _) (by simp) ?_; intro w2 hb2 hg2) | (at_make; refine wpList_mkB _ rfl (.tmp 35) (.tmp 35) rfl _ _ st rfl rfl rfl rfl (by omega) ?_; intro w3 hb3 hg3; have hg03 := grown_trans (new_then hg1 hg2) hg3; have hct3 := (World.cell?_of_block (w := w) (hg03.block b1 hbw1 (by simp))).trans hctop) | (go_at_call 22; refine (inverse_any _ htop _).mono ?_; rintro e w' ⟨rfl, hw⟩; have hw := hw.symm; subst hw))
    have hgl : w.heap.size < w2.heap.size := Nat.lt_of_lt_of_le hb2.lt (Nat.le_refl _)
    have hb2' : Blk w3 w.heap.size P := by
      have e1 : P ++ List.drop n (List.replicate n 0) = P := by simp
      rw [e1] at hb2
      exact hb2.grown hg3 (by simp)
    go_loopw [45] (fun i wr => ∃ k : Nat, k ≤ st ∧ i = .int .i64 k ∧ w.grownBy wr none ∧ Blk wr w.heap.size (ovR P B st k) ∧ Blk wr w2.heap.size (ovS P B st k)) (fun i _ => st - (intOf i).toNat)
    case atStart => exact ⟨0, by omega, rfl, hg03, hb2', hb3⟩
    case round =>
      obtain ⟨k, hk, rfl, hgr, hBr, hBs⟩ := hrel
      have hRl := ovR_length P B st k
      have hSl := ovS_length P B st k
      have hRB := ovR_isB hp.byte hb.byte st k
      have hSB := ovS_isB hp.byte hb.byte st k
      by_cases hlt : k < st
      · have hcr := hBr.cell (st - 1 - k + l - 1) (by rw [hRl, HP.out]; omega)
        have hcs := hBs.cell (st - 1 - k) (by rw [hSl]; omega)
        have hfs := hBs.free (st - 1 - k)
        have hRn := hRB.nth (st - 1 - k + l - 1)
        have hinv := Fld.inv_lt htop
        have hC : Fld.mul (nth (ovR P B st k) (st - 1 - k + l - 1)) (Fld.inv (nth B (l - 1))) = ovC (ovR P B st k) B (st - 1 - k) := by unfold ovC; rw [HB.out]
        have hCl := ovC_lt (B := B) hRB (st - 1 - k)
        have hst1 : st - 1 - k + l ≤ n := by have := HST.out; omega
        have HRl : Hid ((ovR P B st k).length = n) := hRl.trans HP.out
        clear hRl hSl
        have Sx := hBs.set (st - 1 - k) (ovC (ovR P B st k) B (st - 1 - k))
        have Rx := hBr.grown (grown_set wr w2.heap.size (st - 1 - k) (.int .u8 (ovC (ovR P B st k) B (st - 1 - k) : Nat))) (by simp; omega)
        have Gx := grown_far hgr (grown_set wr w2.heap.size (st - 1 - k) (.int .u8 (ovC (ovR P B st k) B (st - 1 - k) : Nat))) (fun g h => by cases h; omega)
        have hne := hb.ne (Nat.le_refl w.heap.size)
        have hbx := hb.keep Gx
        have HRn : Hid (addN (ovR P B st k) (st - 1 - k) B (ovC (ovR P B st k) B (st - 1 - k)) l = ovR P B st (k + 1)) := by show _ = _; simp only [ovR]; rw [HB.out]
        go_wp2_with (first | (go_at_call 23; refine (mul_any _ _ hRn hinv _).mono ?_; rintro e w' ⟨rfl, hw⟩; have hw := hw.symm; subst hw) | (go_at_call 24; refine (addScaled_any w.heap.size (st - 1 - k) _ _ _ l cap' _ (ovR P B st k) B _ Rx hRB hbx hne (by rw [HRl.out]; exact hst1) (by omega) (by omega) hCl).mono ?_; rintro e w' ⟨rfl, hB', hgr'⟩))
        rw [HRn.out] at hB'
        have S' := Sx.grown hgr' (by simp; omega)
        go_roundw
        case rel => exact ⟨k + 1, by omega, by go_num, new_then Gx hgr', hB', S'⟩
        case measure => simp [intOf]; omega
      · obtain rfl : k = st := by omega
        have hrs := hBs.rd hSB hSl (by unfold maxLen; omega)
        have hrr := hBr.rd hRB (hRl.trans HP.out) (by unfold maxLen; omega)
        have aS := hBs.ans (n := trimN (ovS P B k k) k) (lo := w.heap.size + 1) hSB (by rw [hSl]; exact trimN_le _ _) (by rw [hSl]; unfold maxLen; omega) (by omega)
        have aR := hBr.ans (n := trimN (ovR P B k k) n) (lo := w.heap.size) hRB (by rw [hRl, HP.out]; exact trimN_le _ _) (by rw [hRl, HP.out]; unfold maxLen; omega) (Nat.le_refl _)
        rw [hSl] at aS
        rw [hRl, HP.out] at aR
        have HS : Hid ((ovS P B k k).take (trimN (ovS P B k k) k) = trimL (ovS P B k k)) := by show _ = _; unfold trimL; rw [hSl]
        have HR : Hid ((ovR P B k k).take (trimN (ovR P B k k) n) = trimL (ovR P B k k)) := by show _ = _; unfold trimL; rw [hRl, HP.out]
        rw [HS.out] at aS
        rw [HR.out] at aR
        have t1 : True := trivial
        clear hRl hSl
        go_wp2_with (first | (go_at_call 21; have _t := t1; clear t1; refine (trim_any _ _ _ _ _ hrs).mono ?_; rintro e w' ⟨rfl, hw⟩; have hw := hw.symm; subst hw; have t2 : True := trivial) | (go_at_call 21; have _t := t2; clear t2; refine (trim_any _ _ _ _ _ hrr).mono ?_; rintro e w' ⟨rfl, hw⟩; have hw := hw.symm; subst hw))
        go_ret3
        exact ⟨_, _, _, rfl, hgl, aS, aR, hgr⟩
  · obtain rfl : st = 0 := by have := HST.out; omega
    have hmax : (n : Int) - (l : Int) + 1 ≤ 0 := by omega
    go_enter Tryd.func13, Tryd.ntmps13
    go_wp2_with (first | (go_at_call 20; refine H.mono ?_; rintro e w' ⟨rfl, hw⟩; have hw := hw.symm; subst hw) | (go_at_call 21; refine HT.mono ?_; rintro e w' ⟨rfl, hw⟩; have hw := hw.symm; subst hw) | (at_make; refine wpList_mkB _ rfl (.tmp 23) (.tmp 23) rfl _ _ n rfl rfl rfl rfl (by omega) ?_; intro w1 hb1 hg1) | (refine wpList_cpB rfl (.tmp 25) (.tmp 26) rfl w.heap.size n n a n cap rfl rfl _ P hb1 (hp.keep hg1) (Nat.le_refl _) (by simp) ?_; intro w2 hb2 hg2) | (at_make; refine wpList_mkB _ rfl (.tmp 35) (.tmp 35) rfl _ _ 0 rfl rfl rfl rfl (by omega) ?_; intro w3 hb3 hg3; have hg03 := grown_trans (new_then hg1 hg2) hg3; have hct3 := (World.cell?_of_block (w := w) (hg03.block b1 hbw1 (by simp))).trans hctop) | (go_at_call 22; refine (inverse_any _ htop _).mono ?_; rintro e w' ⟨rfl, hw⟩; have hw := hw.symm; subst hw))
    have hgl : w.heap.size < w2.heap.size := Nat.lt_of_lt_of_le hb2.lt (Nat.le_refl _)
    have hBr : Blk w3 w.heap.size (ovR P B 0 0) := by
      have e1 : P ++ List.drop n (List.replicate n 0) = P := by simp
      rw [e1] at hb2
      exact hb2.grown hg3 (by simp)
    have hBs : Blk w3 w2.heap.size (ovS P B 0 0) := hb3
    have hRl := ovR_length P B 0 0
    have hSl := ovS_length P B 0 0
    have hRB := ovR_isB hp.byte hb.byte 0 0
    have hSB := ovS_isB hp.byte hb.byte 0 0
    have hrs := hBs.rd hSB hSl (by unfold maxLen; omega)
    have hrr := hBr.rd hRB (hRl.trans HP.out) (by unfold maxLen; omega)
    have aS := hBs.ans (n := trimN (ovS P B 0 0) 0) (lo := w.heap.size + 1) hSB (by rw [hSl]; exact trimN_le _ _) (by rw [hSl]; unfold maxLen; omega) (by omega)
    have aR := hBr.ans (n := trimN (ovR P B 0 0) n) (lo := w.heap.size) hRB (by rw [hRl, HP.out]; exact trimN_le _ _) (by rw [hRl, HP.out]; unfold maxLen; omega) (Nat.le_refl _)
    rw [hSl] at aS
    rw [hRl, HP.out] at aR
    have HS : Hid ((ovS P B 0 0).take (trimN (ovS P B 0 0) 0) = trimL (ovS P B 0 0)) := by show _ = _; unfold trimL; rw [hSl]
    have HR : Hid ((ovR P B 0 0).take (trimN (ovR P B 0 0) n) = trimL (ovR P B 0 0)) := by show _ = _; unfold trimL; rw [hRl, HP.out]
    rw [HS.out] at aS
    rw [HR.out] at aR
    have t1 : True := trivial
    clear hRl hSl
    refine wp_loop_rounds 1 ?_; rw [rounds_succ]
    go_wp2_with (first | (go_at_call 21; have _t := t1; clear t1; refine (trim_any _ _ _ _ _ hrs).mono ?_; rintro e w' ⟨rfl, hw⟩; have hw := hw.symm; subst hw; have t2 : True := trivial) | (go_at_call 21; have _t := t2; clear t2; refine (trim_any _ _ _ _ _ hrr).mono ?_; rintro e w' ⟨rfl, hw⟩; have hw := hw.symm; subst hw))
    go_ret3
    exact ⟨_, _, _, rfl, hgl, aS, aR, hg03⟩
end Go.Proofs.YtpenggkefbbopaaDoor
