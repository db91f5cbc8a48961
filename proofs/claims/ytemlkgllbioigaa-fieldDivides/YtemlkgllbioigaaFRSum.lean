import Derived.Test.YtemlkgllbioigaaFSum
namespace Go.Proofs.Ytemlkgllbioigaa
open Go.RowKit
set_option maxRecDepth 100000
set_option linter.unusedVariables false
set_option linter.unusedSimpArgs false

set_option maxHeartbeats 1600000 in
theorem rsum_any (a b : Option Addr) (n m cap cap' : Nat) (P Q : List Nat) (w : World) (hp : Rd w a n cap P) (hq : Rd w b m cap' Q) (hn : n ≤ 140737488351240) (hm : m ≤ 140737488351240) :
    Calls Try.prog 26 #[.slice a n cap, .slice b m cap'] w fun e w' => ∃ a' n' c', e = .returned (.slice a' n' c') ∧ Ans w' w.heap.size a' n' c' (trimL (sumL P Q)) ∧ w.grownBy w' none := by
  obtain ⟨N, hN⟩ : ∃ N, N = max n m := ⟨_, rfl⟩
  have hNn : n ≤ N := by omega
  have hNm : m ≤ N := by omega
  have hNs : N ≤ 140737488351240 := by omega
  by_cases hlt0 : n < m
  · obtain rfl : N = m := by omega
    clear hN
    go_enter Try.func26, Try.ntmps26
    go_wp2_with (at_make; refine wpList_mkB _ rfl _ _ rfl _ _ N rfl rfl rfl rfl (by omega) ?_; intro w1 hb1 hg1)
    go_loopw [7] (fun i wr => ∃ k : Nat, k ≤ N ∧ i = .int .i64 k ∧ w.grownBy wr none ∧ ∃ D, Blk wr w.heap.size D ∧ D.length = N ∧ IsB D ∧ ∀ i, nth D i = if i < k then nth P i ^^^ nth Q i else 0) (fun i _ => N - (intOf i).toNat)
    case atStart => exact ⟨0, by omega, rfl, hg1, _, hb1, by simp, isB_zeros _, fun i => by rw [nth_zeros, if_neg (by omega)]⟩
    case round =>
      obtain ⟨k, hk, rfl, hgr, D, hB, hlen, hby, hD⟩ := hrel
      have hlen' : Hid (D.length = N) := hlen
      have HD : Hid (∀ i, nth D i = if i < k then nth P i ^^^ nth Q i else 0) := hD
      have hDk : nth D k = 0 := by rw [hD k, if_neg (by omega)]
      have hx1 : bits .xor .u8 (nth D k : Nat) (nth P k : Nat) = ((nth P k : Nat) : Int) := by rw [u8_xor_nat _ _ (hby.nth k) (hp.byte.nth k), hDk, Nat.zero_xor]
      have hx2 : bits .xor .u8 (nth P k : Nat) (nth Q k : Nat) = ((nth P k ^^^ nth Q k : Nat) : Int) := u8_xor_nat _ _ (hp.byte.nth k) (hq.byte.nth k)
      have hx3 : bits .xor .u8 (nth D k : Nat) (nth Q k : Nat) = ((nth Q k : Nat) : Int) := by rw [u8_xor_nat _ _ (hby.nth k) (hq.byte.nth k), hDk, Nat.zero_xor]
      clear hD hDk
      by_cases hlt : k < N
      · have hpk := hB.cell k (by omega)
        have hfk := hB.free k
        have HR : Hid (∀ x, x = nth P k ^^^ nth Q k → (D.set k x).length = N ∧ IsB (D.set k x) ∧ ∀ i, nth (D.set k x) i = if i < k + 1 then nth P i ^^^ nth Q i else 0) := by
          intro x hx
          refine ⟨by rw [List.length_set]; exact hlen, isB_set hby _ _ (by rw [hx]; exact Fld.xor_lt (hp.byte.nth k) (hq.byte.nth k)), fun i => ?_⟩
          rw [nth_set _ _ _ _ (by omega)]
          by_cases e : k = i
          · subst e; rw [if_pos rfl, if_pos (by omega), hx]
          · rw [if_neg e, HD.out i]
            by_cases e2 : i < k
            · rw [if_pos e2, if_pos (by omega)]
            · rw [if_neg e2, if_neg (by omega)]
        by_cases hkn : k < n
        · obtain ⟨b1, off1, rfl, hbw1, _⟩ := hp.at' (by omega)
          obtain ⟨b2, off2, rfl, hbw2, _⟩ := hq.at' (by omega)
          obtain ⟨_, _, e1, _, hcc1⟩ := (hp.grown hgr (fun _ _ _ => by simp)).at' (by omega)
          obtain ⟨_, _, e2, _, hcc2⟩ := (hq.grown hgr (fun _ _ _ => by simp)).at' (by omega)
          cases e1; cases e2
          have hck1 := hcc1 k (by omega)
          have hck2 := hcc2 k (by omega)
          have hR := HR.out _ rfl
          have hHR : Hid ((D.set k (nth P k ^^^ nth Q k)).length = N ∧ IsB (D.set k (nth P k ^^^ nth Q k)) ∧ ∀ i, nth (D.set k (nth P k ^^^ nth Q k)) i = if i < k + 1 then nth P i ^^^ nth Q i else 0) := hR
          clear hcc1 hcc2 hlen hR
          have R := (hB.set k (nth P k)).set k (nth P k ^^^ nth Q k)
          rw [List.set_set] at R
          go_wp2
          go_region
          go_wp2
          go_region
          go_wp2
          go_roundw
          case rel => exact ⟨k + 1, by omega, by go_num, new_then hgr (by repeat (first | exact World.grownBy.refl _ _ | refine grown_trans ?_ (grown_drew _ _) | refine grown_trans ?_ (grown_set _ _ _ _))), _, R, hHR.out.1, hHR.out.2.1, hHR.out.2.2⟩
          case measure => simp [intOf]; omega
        · have hPk : nth P k = 0 := nth_out P k (by rw [hp.len]; omega)
          obtain ⟨b2, off2, rfl, hbw2, _⟩ := hq.at' (by omega)
          obtain ⟨_, _, e2, _, hcc2⟩ := (hq.grown hgr (fun _ _ _ => by simp)).at' (by omega)
          cases e2
          have hck2 := hcc2 k (by omega)
          have hR := HR.out (nth Q k) (by rw [hPk, Nat.zero_xor])
          have hHR : Hid ((D.set k (nth Q k)).length = N ∧ IsB (D.set k (nth Q k)) ∧ ∀ i, nth (D.set k (nth Q k)) i = if i < k + 1 then nth P i ^^^ nth Q i else 0) := hR
          clear hcc2 hlen hR hPk hx1 hx2
          have R := hB.set k (nth Q k)
          go_wp2
          go_region
          go_wp2
          go_roundw
          case rel => exact ⟨k + 1, by omega, by go_num, new_then hgr (by repeat (first | exact World.grownBy.refl _ _ | refine grown_trans ?_ (grown_drew _ _) | refine grown_trans ?_ (grown_set _ _ _ _))), _, R, hHR.out.1, hHR.out.2.1, hHR.out.2.2⟩
          case measure => simp [intOf]; omega
      · obtain rfl : k = N := by omega
        have HS : Hid (D = sumL P Q) := sumL_of (by rw [hlen, hp.len, hq.len]; omega) (fun i => by
          rw [HD.out i]
          by_cases e : i < k
          · rw [if_pos e]
          · rw [if_neg e, nth_out P i (by rw [hp.len]; omega), nth_out Q i (by rw [hq.len]; omega)]; rfl)
        have hrd := hB.rd hby hlen (by unfold maxLen; omega)
        clear hlen
        go_wp2_with (go_at_call 41; refine (rtrim_any _ _ _ D _ hrd (by omega)).mono ?_; rintro e w' ⟨a', n', c', rfl, hans, hgr'⟩)
        go_ret
        refine ⟨_, _, _, rfl, ?_, grown_trans hgr hgr'⟩
        rw [← HS.out]
        exact ⟨hans.own, hans.byte, fun g hg => Nat.le_trans hgr.size (hans.new g hg)⟩
  · obtain rfl : N = n := by omega
    clear hN
    go_enter Try.func26, Try.ntmps26
    go_wp2_with (at_make; refine wpList_mkB _ rfl _ _ rfl _ _ N rfl rfl rfl rfl (by omega) ?_; intro w1 hb1 hg1)
    go_loopw [7] (fun i wr => ∃ k : Nat, k ≤ N ∧ i = .int .i64 k ∧ w.grownBy wr none ∧ ∃ D, Blk wr w.heap.size D ∧ D.length = N ∧ IsB D ∧ ∀ i, nth D i = if i < k then nth P i ^^^ nth Q i else 0) (fun i _ => N - (intOf i).toNat)
    case atStart => exact ⟨0, by omega, rfl, hg1, _, hb1, by simp, isB_zeros _, fun i => by rw [nth_zeros, if_neg (by omega)]⟩
    case round =>
      obtain ⟨k, hk, rfl, hgr, D, hB, hlen, hby, hD⟩ := hrel
      have hlen' : Hid (D.length = N) := hlen
      have HD : Hid (∀ i, nth D i = if i < k then nth P i ^^^ nth Q i else 0) := hD
      have hDk : nth D k = 0 := by rw [hD k, if_neg (by omega)]
      have hx1 : bits .xor .u8 (nth D k : Nat) (nth P k : Nat) = ((nth P k : Nat) : Int) := by rw [u8_xor_nat _ _ (hby.nth k) (hp.byte.nth k), hDk, Nat.zero_xor]
      have hx2 : bits .xor .u8 (nth P k : Nat) (nth Q k : Nat) = ((nth P k ^^^ nth Q k : Nat) : Int) := u8_xor_nat _ _ (hp.byte.nth k) (hq.byte.nth k)
      have hx3 : bits .xor .u8 (nth D k : Nat) (nth Q k : Nat) = ((nth Q k : Nat) : Int) := by rw [u8_xor_nat _ _ (hby.nth k) (hq.byte.nth k), hDk, Nat.zero_xor]
      clear hD hDk
      by_cases hlt : k < N
      · have hpk := hB.cell k (by omega)
        have hfk := hB.free k
        have HR : Hid (∀ x, x = nth P k ^^^ nth Q k → (D.set k x).length = N ∧ IsB (D.set k x) ∧ ∀ i, nth (D.set k x) i = if i < k + 1 then nth P i ^^^ nth Q i else 0) := by
          intro x hx
          refine ⟨by rw [List.length_set]; exact hlen, isB_set hby _ _ (by rw [hx]; exact Fld.xor_lt (hp.byte.nth k) (hq.byte.nth k)), fun i => ?_⟩
          rw [nth_set _ _ _ _ (by omega)]
          by_cases e : k = i
          · subst e; rw [if_pos rfl, if_pos (by omega), hx]
          · rw [if_neg e, HD.out i]
            by_cases e2 : i < k
            · rw [if_pos e2, if_pos (by omega)]
            · rw [if_neg e2, if_neg (by omega)]
        by_cases hkn : k < m
        · obtain ⟨b1, off1, rfl, hbw1, _⟩ := hp.at' (by omega)
          obtain ⟨b2, off2, rfl, hbw2, _⟩ := hq.at' (by omega)
          obtain ⟨_, _, e1, _, hcc1⟩ := (hp.grown hgr (fun _ _ _ => by simp)).at' (by omega)
          obtain ⟨_, _, e2, _, hcc2⟩ := (hq.grown hgr (fun _ _ _ => by simp)).at' (by omega)
          cases e1; cases e2
          have hck1 := hcc1 k (by omega)
          have hck2 := hcc2 k (by omega)
          have hR := HR.out _ rfl
          have hHR : Hid ((D.set k (nth P k ^^^ nth Q k)).length = N ∧ IsB (D.set k (nth P k ^^^ nth Q k)) ∧ ∀ i, nth (D.set k (nth P k ^^^ nth Q k)) i = if i < k + 1 then nth P i ^^^ nth Q i else 0) := hR
          clear hcc1 hcc2 hlen hR
          have R := (hB.set k (nth P k)).set k (nth P k ^^^ nth Q k)
          rw [List.set_set] at R
          go_wp2
          go_region
          go_wp2
          go_region
          go_wp2
          go_roundw
          case rel => exact ⟨k + 1, by omega, by go_num, new_then hgr (by repeat (first | exact World.grownBy.refl _ _ | refine grown_trans ?_ (grown_drew _ _) | refine grown_trans ?_ (grown_set _ _ _ _))), _, R, hHR.out.1, hHR.out.2.1, hHR.out.2.2⟩
          case measure => simp [intOf]; omega
        · have hQk : nth Q k = 0 := nth_out Q k (by rw [hq.len]; omega)
          obtain ⟨b1, off1, rfl, hbw1, _⟩ := hp.at' (by omega)
          obtain ⟨_, _, e1, _, hcc1⟩ := (hp.grown hgr (fun _ _ _ => by simp)).at' (by omega)
          cases e1
          have hck1 := hcc1 k (by omega)
          have hR := HR.out (nth P k) (by rw [hQk, Nat.xor_zero])
          have hHR : Hid ((D.set k (nth P k)).length = N ∧ IsB (D.set k (nth P k)) ∧ ∀ i, nth (D.set k (nth P k)) i = if i < k + 1 then nth P i ^^^ nth Q i else 0) := hR
          clear hcc1 hlen hR hQk hx2 hx3
          have R := hB.set k (nth P k)
          go_wp2
          go_region
          go_wp2
          go_roundw
          case rel => exact ⟨k + 1, by omega, by go_num, new_then hgr (by repeat (first | exact World.grownBy.refl _ _ | refine grown_trans ?_ (grown_drew _ _) | refine grown_trans ?_ (grown_set _ _ _ _))), _, R, hHR.out.1, hHR.out.2.1, hHR.out.2.2⟩
          case measure => simp [intOf]; omega
      · obtain rfl : k = N := by omega
        have HS : Hid (D = sumL P Q) := sumL_of (by rw [hlen, hp.len, hq.len]; omega) (fun i => by
          rw [HD.out i]
          by_cases e : i < k
          · rw [if_pos e]
          · rw [if_neg e, nth_out P i (by rw [hp.len]; omega), nth_out Q i (by rw [hq.len]; omega)]; rfl)
        have hrd := hB.rd hby hlen (by unfold maxLen; omega)
        clear hlen
        go_wp2_with (go_at_call 41; refine (rtrim_any _ _ _ D _ hrd (by omega)).mono ?_; rintro e w' ⟨a', n', c', rfl, hans, hgr'⟩)
        go_ret
        refine ⟨_, _, _, rfl, ?_, grown_trans hgr hgr'⟩
        rw [← HS.out]
        exact ⟨hans.own, hans.byte, fun g hg => Nat.le_trans hgr.size (hans.new g hg)⟩
end Go.Proofs.Ytemlkgllbioigaa
