import Derived.Test.YtemlkgllbioigaaFPts
namespace Go.Proofs.Ytemlkgllbioigaa
open Go.RowKit
set_option maxRecDepth 100000
set_option linter.unusedVariables false
set_option linter.unusedSimpArgs false

theorem rd_nil (w : World) : Rd w none 0 0 [] := ⟨rfl, Nat.le_refl _, Nat.zero_le _, fun _ => rfl, (fun x hx => by cases hx), fun h => by omega⟩
theorem below_of {w w' : World} (h : w.grownBy w' none) : Below w.heap.size w w' := (Below.refl _ _).grown h (Nat.le_refl _) (fun k hk => by cases hk)
theorem at_one (x : Nat) (hx : x < 256) : atL [1] x = 1 := by
  have hB : IsB [1] := fun y hy => by simp at hy; omega
  rw [atL_eq hB x hx]
  show 0 ^^^ Fld.mul 1 1 = 1
  decide +kernel
theorem at_lit (w : World) (x : Nat) (hx : x < 256) :
    Calls Try.prog 30 #[.slice (some ⟨w.heap.size, 0, none⟩) 1 1, .int .u8 x] (w.alloc (.cells #[.int .u8 1] 5)) fun e w' => e = .returned (.int .u8 1) ∧ (w.alloc (.cells #[.int .u8 1] 5)).grownBy w' none := by
  have hB : Blk (w.alloc (.cells #[.int .u8 1] 5)) w.heap.size [1] := heap_alloc_new w _
  have h := at_any (some ⟨w.heap.size, 0, none⟩) 1 1 x [1] _ (hB.rd (fun y hy => by simp at hy; omega) rfl (by unfold maxLen; omega)) hx (by omega)
  rw [at_one x hx] at h
  exact h
set_option maxHeartbeats 40000000 in
theorem points_walk (a b : Option Addr) (n m cap cap' x fr : Nat) (P Q : List Nat) (w : World) (hp : Rd w a n cap P) (hq : Rd w b m cap' Q) (hn : n ≤ 60) (hm : m ≤ 60) (hx : x < 256) (hf : fr < 256) :
    Calls Try.prog 10 #[.slice a n cap, .slice b m cap', .int .u8 x, .int .u8 fr] w fun e w' => e = .returned (.bool true) ∧ Below w.heap.size w w' := by
  have hPl : P.length ≤ 512 := by rw [hp.len]; omega
  have hQl : Q.length ≤ 512 := by rw [hq.len]; omega
  have hT := at_times hp.byte hq.byte x hx hPl hQl
  have hS := at_sum hp.byte hq.byte x hx
  have f1 : ((atL (timR P Q) x : Int) != (Fld.mul (atL P x) (atL Q x) : Int)) = false := by rw [hT]; simp
  have f2 : bits .xor .u8 (atL P x : Nat) (atL Q x : Nat) = ((atL P x ^^^ atL Q x : Nat) : Int) := u8_xor_nat _ _ (atL_lt hp.byte x) (atL_lt hq.byte x)
  have f3 : ((atL (trimL (sumL P Q)) x : Int) != ((atL P x ^^^ atL Q x : Nat) : Int)) = false := by rw [hS]; simp
  have hal := atL_lt hp.byte x
  have hbl := atL_lt hq.byte x
  have hte : terr n m = 0 := by unfold terr; rw [if_pos (by omega)]
  have HT : Hid (terr n m = 0) := hte
  have tle := timR_le P Q
  have sle := sumL_le P Q
  rw [hp.len, hq.len] at sle
  clear hT hS hte
  have t1 : True := trivial
  go_enter Try.func10, Try.ntmps10
  go_wp2_with (first
    | (go_at_call 23; have _t := t1; clear t1; refine (times_all a b n m cap cap' P Q w hp hq).mono ?_; rintro e w1 ⟨at_, nt, ct, rfl, ht1, g01⟩; rw [HT.out]; have hnt := ht1.len; have t2 : True := trivial)
    | (go_at_call 30; have _t := t2; clear t2; refine (at_any at_ nt ct x (timR P Q) w1 ht1.rd hx (by omega)).mono ?_; rintro e w2 ⟨rfl, g12⟩; have g02 := grown_trans g01 g12; have t3 : True := trivial)
    | (go_at_call 30; have _t := t3; clear t3; refine (at_any a n cap x P w2 (hp.keep g02) hx (by omega)).mono ?_; rintro e w3 ⟨rfl, g23⟩; have g03 := grown_trans g02 g23; have t4 : True := trivial)
    | (go_at_call 30; have _t := t4; clear t4; refine (at_any b m cap' x Q w3 (hq.keep g03) hx (by omega)).mono ?_; rintro e w4 ⟨rfl, g34⟩; have g04 := grown_trans g03 g34; have t5 : True := trivial)
    | (go_at_call 17; have _t := t5; clear t5; refine (mul_any _ _ hal hbl _).mono ?_; rintro e w' ⟨rfl, hw⟩; have hw := hw.symm; subst hw; have t6 : True := trivial)
    | (go_at_call 25; have _t := t6; clear t6; refine (sum_any a b n m cap cap' P Q w4 (hp.keep g04) (hq.keep g04) (by omega) (by omega)).mono ?_; rintro e w5 ⟨a5, n5, c5, rfl, hs5, g45⟩; have hn5 := hs5.len; have g05 := grown_trans g04 g45; have t7 : True := trivial)
    | (go_at_call 30; have _t := t7; clear t7; refine (at_any a5 n5 c5 x (trimL (sumL P Q)) w5 hs5.rd hx (by omega)).mono ?_; rintro e w6 ⟨rfl, g56⟩; have g06 := grown_trans g05 g56; have t8 : True := trivial)
    | (go_at_call 30; have _t := t8; clear t8; refine (at_any a n cap x P w6 (hp.keep g06) hx (by omega)).mono ?_; rintro e w7 ⟨rfl, g67⟩; have g07 := grown_trans g06 g67; have t9 : True := trivial)
    | (go_at_call 30; have _t := t9; clear t9; refine (at_any b m cap' x Q w7 (hq.keep g07) hx (by omega)).mono ?_; rintro e w8 ⟨rfl, g78⟩; have g08 := grown_trans g07 g78; have t10 : True := trivial))
  clear f1 f2 f3
  go_loopw [11, 12, 13] (fun xv yv i wr => ∃ (k cx cy : Nat) (ax ay : Option Addr), k ≤ n ∧ i = .int .i64 k ∧ xv = .slice ax k cx ∧ yv = .slice ay k cy ∧ w.grownBy wr none ∧ Ans wr w.heap.size ax k cx (ptsX fr k) ∧ Ans wr w.heap.size ay k cy (ptsY P fr k) ∧ ((Value.slice ay k cy).ownBlock = none ∨ (Value.slice ay k cy).ownBlock ≠ (Value.slice ax k cx).ownBlock)) (fun _ _ i _ => n - (intOf i).toNat)
  case atStart => exact ⟨0, 0, 0, none, none, by omega, rfl, rfl, rfl, g08, ans_nil _ _, ans_nil _ _, .inl rfl⟩
  case round =>
    obtain ⟨k, cx, cy, ax, ay, hk, rfl, rfl, rfl, hgr, hX, hY, hap⟩ := hrel
    by_cases hlt : k < n
    · have hpv := pt_val fr k (by omega) hf
      have hpl := pt_lt fr k
      have hal' := atL_lt hp.byte (pt fr k)
      have t1 : True := trivial
      have hXo := hX.own.alloc (.cells #[.int .u8 (pt fr k : Nat)] 5)
      have hYa := hY.keep (World.grownBy_alloc wr (.cells #[.int .u8 (pt fr k : Nat)] 5) none)
      have gA := grown_trans hgr (World.grownBy_alloc wr (.cells #[.int .u8 (pt fr k : Nat)] 5) none)
      go_wp2_with (first
        | (at_builtin; have _t := t1; clear t1; refine wpList_apB _ rfl (.tmp 66) (.tmp 72) rfl (.slice ax k cx) k (bys (ptsX fr k)) rfl hXo ⟨wr.heap.size, 0, none⟩ 1 1 [.int .u8 (pt fr k : Nat)] rfl rfl (one_cell wr _) (by simp [Value.oneCell']) (by decide) (by omega) ?_; intro gx cx' w2 hgx hgr2 hown2)
        | (go_at_call 30; have hG2 := grown_far gA hgr2 (hX.far _ (Nat.le_refl _)); have hY2 := hYa.kept hgr2 hap; refine (at_any a n cap (pt fr k) P w2 (hp.keep hG2) hpl (by omega)).mono ?_; rintro e w3 ⟨rfl, g23'⟩; have hYo := (hY2.keep g23').own.alloc (.cells #[.int .u8 (atL P (pt fr k) : Nat)] 5); have hXo3 := (own_base (hown2.kept g23' (by simp [Value.ownBlock]))).alloc (.cells #[.int .u8 (atL P (pt fr k) : Nat)] 5); have t2 : True := trivial)
        | (at_builtin; have _t := t2; clear t2; refine wpList_apB _ rfl (.tmp 74) (.tmp 82) rfl (.slice ay k cy) k (bys (ptsY P fr k)) rfl hYo ⟨w3.heap.size, 0, none⟩ 1 1 [.int .u8 (atL P (pt fr k) : Nat)] rfl rfl (one_cell w3 _) (by simp [Value.oneCell']) (by decide) (by omega) ?_; intro gy cy' w4' hgy hgr4 hown4))
      rw [bys_snoc] at hown4
      have hgxl : w.heap.size ≤ gx := by
        rcases hgx with h | h
        · exact hX.new gx h
        · simp at h; have := hgr.size; omega
      have hgx2 : gx < w2.heap.size := by
        rcases hown2.2 with ⟨h, _⟩ | ⟨g, _, cur, h, _, h3, _⟩
        · cases h
        · cases h; exact (Array.getElem?_eq_some_iff.1 h3).1
      have g3s := g23'.size
      have hne : some gx ≠ (Value.slice ay k cy).ownBlock := by
        intro e
        rcases hgx with h | h
        · rcases hap with h1 | h1
          · rw [h1] at e; cases e
          · exact h1 (by rw [h, ← e])
        · rcases hY.cases with ⟨h1, h2, h3⟩ | ⟨g, h1, _, h2⟩
          · subst h1; simp [Value.ownBlock] at e
          · subst h1; simp [Value.ownBlock] at e; simp at h; omega
      have hX4 := hXo3.kept hgr4 (by right; exact hne)
      rw [bys_snoc] at hX4
      have g34' := World.grownBy_alloc w3 (.cells #[.int .u8 (atL P (pt fr k) : Nat)] 5) none
      have hG4 := grown_far (grown_trans (grown_trans hG2 g23') g34') hgr4 (hY.far _ (Nat.le_refl _))
      have hgyl : w.heap.size ≤ gy ∧ gy ≠ gx := by
        rcases hgy with h | h
        · exact ⟨hY.new gy h, fun e => hne (by rw [← e]; exact h.symm)⟩
        · simp at h; have := hG2.size; exact ⟨by omega, by omega⟩
      go_wp2
      go_roundw
      case rel => exact ⟨k + 1, cx', cy', some ⟨gx, 0, none⟩, some ⟨gy, 0, none⟩, by omega, by go_num, rfl, rfl, hG4, ⟨hX4, isB_ptsX fr (k + 1), fun g h => by simp [Value.ownBlock] at h; omega⟩, ⟨hown4, isB_ptsY hp.byte fr (k + 1), fun g h => by simp [Value.ownBlock] at h; omega⟩, .inr (by simp [Value.ownBlock]; exact hgyl.2)⟩
      case measure => simp [intOf]; omega
    · obtain rfl : k = n := by omega
      obtain ⟨hth, hdup⟩ := pts_th hp.byte fr hf (by rw [hp.len]; omega)
      rw [hp.len] at hth hdup
      obtain ⟨Z, hZ⟩ : ∃ Z, Z = trimL P := ⟨_, rfl⟩
      rw [← hZ] at hth
      have HZ : Hid (trimL (sumL P []) = Z) := by
        show _ = _
        rw [hZ]; exact trimL_congr (fun j => by rw [nth_sumL', nth_out [] j (Nat.zero_le _), Nat.xor_zero])
      have Hth : Hid (thL (ptsX fr k) (ptsY P fr k) = Z) := hth
      have Hdup : Hid (dupB (ptsX fr k) k = false) := hdup
      clear hZ hth hdup
      have HTH := thr_ok ax ay k cx cy (ptsX fr k) (ptsY P fr k) wr hX.rd hY.rd (by omega) Hdup.out
      rw [Hth.out] at HTH
      go_wp2_with (go_at_call 33; refine HTH.mono ?_; rintro e w9 ⟨a9, n9, c9, rfl, hs9, g89⟩)
      have g09 := grown_trans hgr g89
      have h9d := hs9.keep (grown_drew w9 none)
      have e9 := str_any w9.drew a9 n9 c9 Z h9d.rd
      have hp9 := hp.keep (grown_trans g09 (grown_drew w9 none))
      have H10 := sum_any a none k 0 cap 0 P [] w9.drew hp9 (rd_nil _) (by omega) (by omega)
      rw [HZ.out] at H10
      have t1 : True := trivial
      clear hX hY hap ht1 hs5 HTH
      go_region_with (first
        | (go_at_call 25; refine H10.mono ?_; rintro e w10 ⟨a10, n10, c10, rfl, hs10, g10⟩; have e9' := str_any w10 a9 n9 c9 Z (h9d.keep g10).rd; have e10 := str_any w10 a10 n10 c10 Z hs10.rd)
        | (go_at_call 30; refine (at_lit w10 x hx).mono ?_; rintro e w11 ⟨rfl, g11⟩))
      all_goals
        go_wp2
        go_ret
        exact ⟨rfl, below_of (grown_trans (grown_trans g09 (grown_drew w9 none)) (grown_trans g10 (grown_trans (World.grownBy_alloc w10 (.cells #[.int .u8 1] 5) none) g11)))⟩
end Go.Proofs.Ytemlkgllbioigaa
