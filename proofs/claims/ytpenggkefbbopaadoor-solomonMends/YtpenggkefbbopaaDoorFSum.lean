import Derived.Test.YtpenggkefbbopaaDoorFB2
namespace Go.Proofs.YtpenggkefbbopaaDoor
open Go.RowKit
set_option maxRecDepth 100000
set_option linter.unusedVariables false
set_option linter.unusedSimpArgs false

theorem sum_any (a b : Option Addr) (n m cap cap' : Nat) (P Q : List Nat) (w : World) (hp : Rd w a n cap P) (hq : Rd w b m cap' Q) (hn : n ≤ 140737488351240) (hm : m ≤ 140737488351240) :
    Calls Tryd.prog 36 #[.slice a n cap, .slice b m cap'] w fun e w' => ∃ a' n' c', e = .returned (.slice a' n' c') ∧ Ans w' w.heap.size a' n' c' (trimL (sumL P Q)) ∧ w.grownBy w' none := by
  by_cases hlt0 : n < m
  · go_enter Tryd.func36, Tryd.ntmps36
    go_wp2_with (first | (at_make; refine wpList_mkB _ rfl _ _ rfl _ _ m rfl rfl rfl rfl (by omega) ?_; intro w1 hb1 hg1) | (refine wpList_cpB rfl (.tmp 18) (.tmp 19) rfl w.heap.size m m b m cap' rfl rfl _ Q hb1 (hq.grown hg1 (fun _ _ _ => by simp)) (Nat.le_refl _) (by simp) ?_; intro w2 hb2 hg2))
    have hgr0 : w.grownBy w2 none := new_then hg1 hg2
    go_loopw [23] (fun i wr => ∃ k : Nat, k ≤ n ∧ i = .int .i64 k ∧ w.grownBy wr none ∧ ∃ D, Blk wr w.heap.size D ∧ D.length = m ∧ IsB D ∧ ∀ i, nth D i = nth Q i ^^^ (if i < k then nth P i else 0)) (fun i _ => n - (intOf i).toNat)
    case atStart =>
      refine ⟨0, by omega, rfl, hgr0, _, hb2, ?_, ?_, ?_⟩
      · simp [hq.len]
      · exact isB_append hq.byte (isB_drop (isB_zeros _) _)
      · intro i
        have e : List.drop m (List.replicate m 0) = ([] : List Nat) := by simp
        rw [e, List.append_nil]; simp
    case round =>
      obtain ⟨k, hk, rfl, hgr, D, hB, hlen, hby, hD⟩ := hrel
      have hlen' : Hid (D.length = m) := hlen
      by_cases hlt : k < n
      · obtain ⟨b, off, rfl, hbw, hcc⟩ := (hp.grown hgr (fun _ _ _ => by simp)).at' (by omega)
        have hck := hcc k hlt
        have hpk := hB.cell k (by omega)
        have hfk := hB.free k
        have hx := u8_xor_nat (nth D k) (nth P k) (hby.nth k) (hp.byte.nth k)
        have R := hB.set k (nth D k ^^^ nth P k)
        have HD : Hid (∀ i, nth D i = nth Q i ^^^ (if i < k then nth P i else 0)) := hD
        clear hD hlen hcc
        go_wp2
        go_roundw
        case rel =>
          refine ⟨k + 1, by omega, by go_num, new_then hgr (grown_set _ _ _ _), _, R, by rw [List.length_set]; exact hlen'.out, isB_set hby _ _ (Fld.xor_lt (hby.nth k) (hp.byte.nth k)), ?_⟩
          intro i
          rw [nth_set _ _ _ _ (by rw [hlen'.out]; omega)]
          by_cases e : k = i
          · subst e; rw [if_pos rfl, HD.out k, if_neg (by omega), if_pos (by omega), Nat.xor_zero]
          · rw [if_neg e, HD.out i]
            by_cases e2 : i < k
            · rw [if_pos e2, if_pos (by omega)]
            · rw [if_neg e2, if_neg (by omega)]
        case measure => simp [intOf]; omega
      · obtain rfl : k = n := by omega
        have HS : Hid (D = sumL P Q) := sumL_of (by rw [hlen, hp.len, hq.len]; omega) (fun i => by
          rw [hD i]
          by_cases e : i < k
          · rw [if_pos e]; exact Nat.xor_comm _ _
          · rw [if_neg e, nth_out P i (by rw [hp.len]; omega), Nat.xor_zero]; simp)
        have hrd := hB.rd hby hlen (by unfold maxLen; omega)
        have hans := hB.ans (n := trimN D m) (lo := w.heap.size) hby (by rw [hlen]; exact trimN_le D m) (by rw [hlen]; unfold maxLen; omega) (Nat.le_refl _)
        rw [hlen] at hans
        have HT : Hid (D.take (trimN D m) = trimL (sumL P Q)) := by show _ = _; rw [← HS.out]; unfold trimL; rw [hlen]
        clear hD hlen
        go_wp2_with (go_at_call 21; refine (trim_any _ _ _ D _ hrd).mono ?_; rintro e w' ⟨rfl, rfl⟩)
        go_ret
        exact ⟨_, _, _, rfl, by rw [← HT.out]; exact hans, hgr⟩
  · go_enter Tryd.func36, Tryd.ntmps36
    go_wp2_with (first | (at_make; refine wpList_mkB _ rfl _ _ rfl _ _ n rfl rfl rfl rfl (by omega) ?_; intro w1 hb1 hg1) | (refine wpList_cpB rfl (.tmp 18) (.tmp 19) rfl w.heap.size n n a n cap rfl rfl _ P hb1 (hp.grown hg1 (fun _ _ _ => by simp)) (Nat.le_refl _) (by simp) ?_; intro w2 hb2 hg2))
    have hgr0 : w.grownBy w2 none := new_then hg1 hg2
    go_loopw [23] (fun i wr => ∃ k : Nat, k ≤ m ∧ i = .int .i64 k ∧ w.grownBy wr none ∧ ∃ D, Blk wr w.heap.size D ∧ D.length = n ∧ IsB D ∧ ∀ i, nth D i = nth P i ^^^ (if i < k then nth Q i else 0)) (fun i _ => m - (intOf i).toNat)
    case atStart =>
      refine ⟨0, by omega, rfl, hgr0, _, hb2, ?_, ?_, ?_⟩
      · simp [hp.len]
      · exact isB_append hp.byte (isB_drop (isB_zeros _) _)
      · intro i
        have e : List.drop n (List.replicate n 0) = ([] : List Nat) := by simp
        rw [e, List.append_nil]; simp
    case round =>
      obtain ⟨k, hk, rfl, hgr, D, hB, hlen, hby, hD⟩ := hrel
      have hlen' : Hid (D.length = n) := hlen
      by_cases hlt : k < m
      · obtain ⟨b, off, rfl, hbw, hcc⟩ := (hq.grown hgr (fun _ _ _ => by simp)).at' (by omega)
        have hck := hcc k hlt
        have hpk := hB.cell k (by omega)
        have hfk := hB.free k
        have hx := u8_xor_nat (nth D k) (nth Q k) (hby.nth k) (hq.byte.nth k)
        have R := hB.set k (nth D k ^^^ nth Q k)
        have HD : Hid (∀ i, nth D i = nth P i ^^^ (if i < k then nth Q i else 0)) := hD
        clear hD hlen hcc
        go_wp2
        go_roundw
        case rel =>
          refine ⟨k + 1, by omega, by go_num, new_then hgr (grown_set _ _ _ _), _, R, by rw [List.length_set]; exact hlen'.out, isB_set hby _ _ (Fld.xor_lt (hby.nth k) (hq.byte.nth k)), ?_⟩
          intro i
          rw [nth_set _ _ _ _ (by rw [hlen'.out]; omega)]
          by_cases e : k = i
          · subst e; rw [if_pos rfl, HD.out k, if_neg (by omega), if_pos (by omega), Nat.xor_zero]
          · rw [if_neg e, HD.out i]
            by_cases e2 : i < k
            · rw [if_pos e2, if_pos (by omega)]
            · rw [if_neg e2, if_neg (by omega)]
        case measure => simp [intOf]; omega
      · obtain rfl : k = m := by omega
        have HS : Hid (D = sumL P Q) := sumL_of (by rw [hlen, hp.len, hq.len]; omega) (fun i => by
          rw [hD i]
          by_cases e : i < k
          · rw [if_pos e]
          · rw [if_neg e, nth_out Q i (by rw [hq.len]; omega), Nat.xor_zero])
        have hrd := hB.rd hby hlen (by unfold maxLen; omega)
        have hans := hB.ans (n := trimN D n) (lo := w.heap.size) hby (by rw [hlen]; exact trimN_le D n) (by rw [hlen]; unfold maxLen; omega) (Nat.le_refl _)
        rw [hlen] at hans
        have HT : Hid (D.take (trimN D n) = trimL (sumL P Q)) := by show _ = _; rw [← HS.out]; unfold trimL; rw [hlen]
        clear hD hlen
        go_wp2_with (go_at_call 21; refine (trim_any _ _ _ D _ hrd).mono ?_; rintro e w' ⟨rfl, rfl⟩)
        go_ret
        exact ⟨_, _, _, rfl, by rw [← HT.out]; exact hans, hgr⟩
end Go.Proofs.YtpenggkefbbopaaDoor
