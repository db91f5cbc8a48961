import Derived.Test.YtdcfgaibppenaaaDoorSd1
namespace Go.Proofs.YtdcfgaibppenaaaDoor
open Go.RowKit
set_option maxRecDepth 100000
set_option linter.unusedVariables false
set_option linter.unusedSimpArgs false

section
theorem sum_any (a b : Option Addr) (n m cap cap' : Nat) (P Q : List Nat) (w : World) (hp : Rd w a n cap P) (hq : Rd w b m cap' Q) (hn : n ≤ 140737488351240) (hm : m ≤ 140737488351240) :
    Calls Tryd.prog 51 #[.slice a n cap, .slice b m cap'] w fun e w' => ∃ a' n' c', e = .returned (.slice a' n' c') ∧ Ans w' w.heap.size a' n' c' (trimL (sumL P Q)) ∧ w.grownBy w' none := by
  by_cases hlt0 : n < m
  · go_enter Tryd.func51, Tryd.ntmps51
    go_wp2_with (first | (at_make; refine wpList_mkB _ rfl _ _ rfl _ _ m rfl rfl rfl rfl (by omega) ?_; intro w1 hb1 hg1) | (refine wpList_cpB rfl (.tmp 18) (.tmp 19) rfl w.heap.size m m b m cap' rfl rfl _ Q hb1 (hq.grown hg1 (fun _ _ _ => by simp)) (Nat.le_refl _) (by simp) ?_; intro w2 hb2 hg2))
    have hgr0 : w.grownBy w2 none := new_then hg1 hg2
    go_loopw [23] (fun i wr => ∃ k : Nat, k ≤ n ∧ i = .int .i64 k ∧ w.grownBy wr none ∧ ∃ D, Blk wr w.heap.size D ∧ D.length = m ∧ IsB D ∧ ∀ i, nth D i = nth Q i ^^^ (if i < k then nth P i else 0)) (fun i _ => n - (intOf i).toNat)
    case atStart =>
      refine ⟨0, by omega, rfl, hgr0, _, hb2, ?_, ?_, ?_⟩
      · simp [hq.len]
      · exact isB_append hq.byte (isB_drop (isB_zeros _) _)
      · intro i
        have e : List.drop m (List.replicate m 0) = ([] : List Nat) := by simp
        rw [e, List.append_nil]; simp
    case round =>
      obtain ⟨k, hk, rfl, hgr, D, hB, hlen, hby, hD⟩ := hrel
      have hlen' : Hid (D.length = m) := hlen
      by_cases hlt : k < n
      · obtain ⟨b, off, rfl, hbw, hcc⟩ := (hp.grown hgr (fun _ _ _ => by simp)).at' (by omega)
        have hck := hcc k hlt
        have hpk := hB.cell k (by omega)
        have hfk := hB.free k
        have hx := u8_xor_nat (nth D k) (nth P k) (hby.nth k) (hp.byte.nth k)
        have R := hB.set k (nth D k ^^^ nth P k)
        have HD : Hid (∀ i, nth D i = nth Q i ^^^ (if i < k then nth P i else 0)) := hD
        clear hD hlen hcc
        go_wp2
        go_roundw
        case rel =>
          refine ⟨k + 1, by omega, by go_num, new_then hgr (grown_set _ _ _ _), _, R, by rw [List.length_set]; exact hlen'.out, isB_set hby _ _ (Fld.xor_lt (hby.nth k) (hp.byte.nth k)), ?_⟩
          intro i
          rw [nth_set _ _ _ _ (by rw [hlen'.out]; omega)]
          by_cases e : k = i
          · subst e; rw [if_pos rfl, HD.out k, if_neg (by omega), if_pos (by omega), Nat.xor_zero]
          · rw [if_neg e, HD.out i]
            by_cases e2 : i < k
            · rw [if_pos e2, if_pos (by omega)]
            · rw [if_neg e2, if_neg (by omega)]
        case measure => simp [intOf]; omega
      · obtain rfl : k = n := by omega
        have HS : Hid (D = sumL P Q) := sumL_of (by rw [hlen, hp.len, hq.len]; omega) (fun i => by
          rw [hD i]
          by_cases e : i < k
          · rw [if_pos e]; exact Nat.xor_comm _ _
          · rw [if_neg e, nth_out P i (by rw [hp.len]; omega), Nat.xor_zero]; simp)
        have hrd := hB.rd hby hlen (by unfold maxLen; omega)
        have hans := hB.ans (n := trimN D m) (lo := w.heap.size) hby (by rw [hlen]; exact trimN_le D m) (by rw [hlen]; unfold maxLen; omega) (Nat.le_refl _)
        rw [hlen] at hans
        have HT : Hid (D.take (trimN D m) = trimL (sumL P Q)) := by show _ = _; rw [← HS.out]; unfold trimL; rw [hlen]
        clear hD hlen
        go_wp2_with (go_at_call 49; refine (trim_any _ _ _ D _ hrd).mono ?_; rintro e w' ⟨rfl, rfl⟩)
        go_ret
        exact ⟨_, _, _, rfl, by rw [← HT.out]; exact hans, hgr⟩
  · go_enter Tryd.func51, Tryd.ntmps51
    go_wp2_with (first | (at_make; refine wpList_mkB _ rfl _ _ rfl _ _ n rfl rfl rfl rfl (by omega) ?_; intro w1 hb1 hg1) | (refine wpList_cpB rfl (.tmp 18) (.tmp 19) rfl w.heap.size n n a n cap rfl rfl _ P hb1 (hp.grown hg1 (fun _ _ _ => by simp)) (Nat.le_refl _) (by simp) ?_; intro w2 hb2 hg2))
    have hgr0 : w.grownBy w2 none := new_then hg1 hg2
    go_loopw [23] (fun i wr => ∃ k : Nat, k ≤ m ∧ i = .int .i64 k ∧ w.grownBy wr none ∧ ∃ D, Blk wr w.heap.size D ∧ D.length = n ∧ IsB D ∧ ∀ i, nth D i = nth P i ^^^ (if i < k then nth Q i else 0)) (fun i _ => m - (intOf i).toNat)
    case atStart =>
      refine ⟨0, by omega, rfl, hgr0, _, hb2, ?_, ?_, ?_⟩
      · simp [hp.len]
      · exact isB_append hp.byte (isB_drop (isB_zeros _) _)
      · intro i
        have e : List.drop n (List.replicate n 0) = ([] : List Nat) := by simp
        rw [e, List.append_nil]; simp
    case round =>
      obtain ⟨k, hk, rfl, hgr, D, hB, hlen, hby, hD⟩ := hrel
      have hlen' : Hid (D.length = n) := hlen
      by_cases hlt : k < m
      · obtain ⟨b, off, rfl, hbw, hcc⟩ := (hq.grown hgr (fun _ _ _ => by simp)).at' (by omega)
        have hck := hcc k hlt
        have hpk := hB.cell k (by omega)
        have hfk := hB.free k
        have hx := u8_xor_nat (nth D k) (nth Q k) (hby.nth k) (hq.byte.nth k)
        have R := hB.set k (nth D k ^^^ nth Q k)
        have HD : Hid (∀ i, nth D i = nth P i ^^^ (if i < k then nth Q i else 0)) := hD
        clear hD hlen hcc
        go_wp2
        go_roundw
        case rel =>
          refine ⟨k + 1, by omega, by go_num, new_then hgr (grown_set _ _ _ _), _, R, by rw [List.length_set]; exact hlen'.out, isB_set hby _ _ (Fld.xor_lt (hby.nth k) (hq.byte.nth k)), ?_⟩
          intro i
          rw [nth_set _ _ _ _ (by rw [hlen'.out]; omega)]
          by_cases e : k = i
          · subst e; rw [if_pos rfl, HD.out k, if_neg (by omega), if_pos (by omega), Nat.xor_zero]
          · rw [if_neg e, HD.out i]
            by_cases e2 : i < k
            · rw [if_pos e2, if_pos (by omega)]
            · rw [if_neg e2, if_neg (by omega)]
        case measure => simp [intOf]; omega
      · obtain rfl : k = m := by omega
        have HS : Hid (D = sumL P Q) := sumL_of (by rw [hlen, hp.len, hq.len]; omega) (fun i => by
          rw [hD i]
          by_cases e : i < k
          · rw [if_pos e]
          · rw [if_neg e, nth_out Q i (by rw [hq.len]; omega), Nat.xor_zero])
        have hrd := hB.rd hby hlen (by unfold maxLen; omega)
        have hans := hB.ans (n := trimN D n) (lo := w.heap.size) hby (by rw [hlen]; exact trimN_le D n) (by rw [hlen]; unfold maxLen; omega) (Nat.le_refl _)
        rw [hlen] at hans
        have HT : Hid (D.take (trimN D n) = trimL (sumL P Q)) := by show _ = _; rw [← HS.out]; unfold trimL; rw [hlen]
        clear hD hlen
        go_wp2_with (go_at_call 49; refine (trim_any _ _ _ D _ hrd).mono ?_; rintro e w' ⟨rfl, rfl⟩)
        go_ret
        exact ⟨_, _, _, rfl, by rw [← HT.out]; exact hans, hgr⟩
end

section
/-- the product, not yet trimmed: k rounds -/
def timN (P Q : List Nat) : Nat → List Nat
  | 0 => List.replicate (P.length + Q.length) 0
  | k + 1 => addN (timN P Q k) k Q (nth P k) Q.length
def timL (P Q : List Nat) : List Nat := timN P Q P.length
theorem timN_length (P Q : List Nat) (k : Nat) : (timN P Q k).length = P.length + Q.length := by
  induction k with
  | zero => simp [timN]
  | succ k ih => simp only [timN]; rw [addN_length]; exact ih
theorem timN_isB {P Q : List Nat} (hP : IsB P) (hQ : IsB Q) (k : Nat) : IsB (timN P Q k) := by
  induction k with
  | zero => exact isB_zeros _
  | succ k ih => exact addN_isB ih hQ _ _ _

theorem tooLong_any (a b : Option Addr) (n m cap cap' : Nat) (w : World) (hn : n ≤ 9223372036854775807) (hm : m ≤ 9223372036854775807) :
    Calls Tryd.prog 47 #[.slice a n cap, .slice b m cap'] w fun e w' => e = .returned (.bool (decide (512 < n ∨ 512 < m))) ∧ w' = w := by
  by_cases h1 : 512 < n
  · have e : decide (512 < n ∨ 512 < m) = true := by simp [h1]
    rw [e]
    go_enter Tryd.func47, Tryd.ntmps47
    go_wp2
    go_ret
    exact ⟨rfl, rfl⟩
  · by_cases h2 : 512 < m
    · have e : decide (512 < n ∨ 512 < m) = true := by simp [h2]
      rw [e]
      go_enter Tryd.func47, Tryd.ntmps47
      go_wp2
      go_ret
      refine ⟨?_, rfl⟩
      show Ending.returned (Value.bool (decide ((512 : Int) < (n : Int)) || decide ((512 : Int) < (m : Int)))) = _
      congr 2
      simp; omega
    · have e : decide (512 < n ∨ 512 < m) = false := by simp; omega
      rw [e]
      go_enter Tryd.func47, Tryd.ntmps47
      go_wp2
      go_ret
      refine ⟨?_, rfl⟩
      show Ending.returned (Value.bool (decide ((512 : Int) < (n : Int)) || decide ((512 : Int) < (m : Int)))) = _
      congr 2
      simp; omega

theorem times_big (a b : Option Addr) (n m cap cap' : Nat) (w : World) (hn : n ≤ 9223372036854775807) (hm : m ≤ 9223372036854775807) (hb : 512 < n ∨ 512 < m) :
    Calls Tryd.prog 39 #[.slice a n cap, .slice b m cap'] w fun e w' => e = .returned (.tuple #[.slice none 0 0, .int .i64 1]) ∧ w' = w := by
  have e : decide (512 < n ∨ 512 < m) = true := by simpa using hb
  have H := tooLong_any a b n m cap cap' w hn hm
  rw [e] at H
  clear e
  go_enter Tryd.func39, Tryd.ntmps39
  go_wp2_with (go_at_call 47; refine H.mono ?_; rintro e w' ⟨rfl, rfl⟩)
  go_ret2
  exact ⟨rfl, rfl⟩

theorem times_ok (a b : Option Addr) (n m cap cap' : Nat) (P Q : List Nat) (w : World) (hp : Rd w a n cap P) (hq : Rd w b m cap' Q) (hn : n ≤ 512) (hm : m ≤ 512) :
    Calls Tryd.prog 39 #[.slice a n cap, .slice b m cap'] w fun e w' => ∃ a' n' c', e = .returned (.tuple #[.slice a' n' c', .int .i64 0]) ∧ Ans w' w.heap.size a' n' c' (trimL (timL P Q)) ∧ w.grownBy w' none := by
  have e : decide (512 < n ∨ 512 < m) = false := by simp; omega
  have H := tooLong_any a b n m cap cap' w (by omega) (by omega)
  rw [e] at H
  clear e
  have HL : Hid (P.length = n ∧ Q.length = m) := ⟨hp.len, hq.len⟩
  go_enter Tryd.func39, Tryd.ntmps39
  go_wp2_with (first | (go_at_call 47; refine H.mono ?_; rintro e w' ⟨rfl, hw⟩; have hw := hw.symm; subst hw) | (at_make; refine wpList_mkB _ rfl _ _ rfl _ _ (n + m) rfl rfl (by omega) (by omega) (by omega) ?_; intro w1 hb1 hg1))
  go_loopw [20] (fun i wr => ∃ k : Nat, k ≤ n ∧ i = .int .i64 k ∧ w.grownBy wr none ∧ Blk wr w.heap.size (timN P Q k)) (fun i _ => n - (intOf i).toNat)
  case atStart => exact ⟨0, by omega, rfl, by assumption, by unfold timN; rw [HL.out.1, HL.out.2]; assumption⟩
  case round =>
    obtain ⟨k, hk, rfl, hgr, hB⟩ := hrel
    have hlen := timN_length P Q k
    have hisB := timN_isB hp.byte hq.byte k
    by_cases hlt : k < n
    · obtain ⟨b1, off1, rfl, hbw1, _⟩ := hp.at' (by omega)
      obtain ⟨_, _, e1, _, hcc1⟩ := (hp.grown hgr (fun _ _ _ => by simp)).at' (by omega)
      cases e1
      have hck1 := hcc1 k (by omega)
      have hq' := hq.grown hgr (fun _ _ _ => by simp)
      have hne := hq.ne (Nat.le_refl w.heap.size)
      have hPk := hp.byte.nth k
      have hkk : (k : Int) ≤ ((n + m : Nat) : Int) := by omega
      have hnk : ¬ n + m = k := by omega
      have HN : Hid (addN (timN P Q k) k Q (nth P k) m = timN P Q (k + 1)) := by show _ = _; simp only [timN]; rw [HL.out.2]
      clear hcc1 H
      go_wp2_with (go_at_call 48; refine (addScaled_any w.heap.size k _ _ b m cap' (nth P k) (timN P Q k) Q _ hB hisB hq' hne (by rw [hlen, HL.out.1, HL.out.2]; omega) (by omega) (by omega) hPk).mono ?_; rintro e w' ⟨rfl, hB', hgr'⟩)
      rw [HN.out] at hB'
      go_roundw
      case rel => exact ⟨k + 1, by omega, by go_num, new_then hgr hgr', hB'⟩
      case measure => simp [intOf]; omega
    · obtain rfl : k = n := by omega
      have hrd := hB.rd hisB (n := k + m) (by rw [hlen, HL.out.1, HL.out.2]) (by unfold maxLen; omega)
      have hans := hB.ans (n := trimN (timN P Q k) (k + m)) (lo := w.heap.size) hisB (by rw [hlen, HL.out.1, HL.out.2]; exact trimN_le _ _) (by rw [hlen, HL.out.1, HL.out.2]; unfold maxLen; omega) (Nat.le_refl _)
      rw [hlen, HL.out.1, HL.out.2] at hans
      have HT : Hid ((timN P Q k).take (trimN (timN P Q k) (k + m)) = trimL (timL P Q)) := by show _ = _; unfold trimL timL; rw [timN_length, HL.out.1, HL.out.2]
      clear hlen
      go_wp2_with (go_at_call 49; refine (trim_any _ _ _ (timN P Q k) _ hrd).mono ?_; rintro e w' ⟨rfl, rfl⟩)
      go_ret2
      exact ⟨_, _, _, rfl, by rw [← HT.out]; exact hans, by assumption⟩
end

section
theorem Roomy.rd {w : World} {g n : Nat} {L D : List Nat} (h : Roomy w g n L D) (hL : IsB L) (hl : L.length = n) (hn : n ≤ 140737488351232) : Rd w (some ⟨g, 0, none⟩) n (n + 5) L :=
  ⟨hl, by omega, by unfold maxLen; omega, (fun h => by cases h), hL, fun _ => ⟨g, 0, rfl, h.blk.lt, fun i hi => by rw [Nat.zero_add, ← h.own i hi]; exact h.blk.cell i (by rw [h.len]; omega)⟩⟩
theorem grown_far {a b c : World} {r : Option Nat} (h : a.grownBy b none) (k : b.grownBy c r) (hr : ∀ g, r = some g → a.heap.size ≤ g) : a.grownBy c none :=
  ⟨k.os.trans h.os, k.tape.trans h.tape, k.output.trans h.output, Nat.le_trans h.size k.size, fun i hi hn => (k.block i (Nat.lt_of_lt_of_le hi h.size) (fun e => by have := hr i e.symm; omega)).trans (h.block i hi hn)⟩
theorem Ans.later {wa wb : World} {lo lo' : Nat} {a b : Option Addr} {n m cap cap' : Nat} {L M : List Nat} (ha : Ans wa lo a n cap L) (hb : Ans wb lo' b m cap' M) (h : wa.heap.size ≤ lo') :
    ∀ g off, b = some ⟨g, off, none⟩ → some g ≠ (Value.slice a n cap).ownBlock := by
  intro g off e
  rcases hb.cases with ⟨rfl, _, _⟩ | ⟨gb, rfl, h1, _⟩
  · cases e
  · cases e
    rcases ha.cases with ⟨rfl, _, _⟩ | ⟨ga, rfl, _, h2⟩
    · simp [Value.ownBlock]
    · simp only [Value.ownBlock, ne_eq, Option.some.injEq]; omega
theorem Ans.far {wa : World} {lo : Nat} {a : Option Addr} {n cap : Nat} {L : List Nat} (ha : Ans wa lo a n cap L) (B : Nat) (h : B ≤ lo) : ∀ g, (Value.slice a n cap).ownBlock = some g → B ≤ g := fun g hg => Nat.le_trans h (ha.new g hg)
theorem Ans.keep {w w' : World} {lo : Nat} {a : Option Addr} {n cap : Nat} {L : List Nat} (h : Ans w lo a n cap L) (hg : w.grownBy w' none) : Ans w' lo a n cap L :=
  h.kept hg (by cases (Value.slice a n cap).ownBlock <;> simp)
theorem Rd.keep {w w' : World} {a : Option Addr} {n cap : Nat} {L : List Nat} (h : Rd w a n cap L) (hg : w.grownBy w' none) : Rd w' a n cap L := h.grown hg (fun _ _ _ => by simp)
theorem Roomy.keep {w w' : World} {g n : Nat} {L D : List Nat} (h : Roomy w g n L D) (hg : w.grownBy w' none) : Roomy w' g n L D := h.grown hg (by simp)

/-- what Times answers, whatever the lengths -/
def terr (n m : Nat) : Int := if n ≤ 512 ∧ m ≤ 512 then 0 else 1
def timR (P Q : List Nat) : List Nat := if P.length ≤ 512 ∧ Q.length ≤ 512 then trimL (timL P Q) else []
theorem trimL_le (L : List Nat) : (trimL L).length ≤ L.length := by unfold trimL; rw [List.length_take]; omega
theorem timR_le (P Q : List Nat) : (timR P Q).length ≤ 1024 := by
  unfold timR; split
  · have := trimL_le (timL P Q)
    have e : (timL P Q).length = P.length + Q.length := timN_length P Q _
    omega
  · simp
theorem sumL_le (P Q : List Nat) : (trimL (sumL P Q)).length ≤ max P.length Q.length := by
  have := trimL_le (sumL P Q)
  simpa [sumL] using this
theorem ans_nil (w : World) (lo : Nat) : Ans w lo none 0 0 [] := ⟨World.ownsRow_nil _ _ _ _, (fun x hx => by cases hx), fun g h => by simp [Value.ownBlock] at h⟩
theorem times_all (a b : Option Addr) (n m cap cap' : Nat) (P Q : List Nat) (w : World) (hp : Rd w a n cap P) (hq : Rd w b m cap' Q) :
    Calls Tryd.prog 39 #[.slice a n cap, .slice b m cap'] w fun e w' => ∃ a' n' c', e = .returned (.tuple #[.slice a' n' c', .int .i64 (terr n m)]) ∧ Ans w' w.heap.size a' n' c' (timR P Q) ∧ w.grownBy w' none := by
  have h1 := hp.le; have h2 := hp.max; have h3 := hq.le; have h4 := hq.max
  unfold maxLen at h2 h4
  by_cases h : n ≤ 512 ∧ m ≤ 512
  · refine (times_ok a b n m cap cap' P Q w hp hq h.1 h.2).mono ?_
    rintro e w' ⟨a', n', c', rfl, hans, hg⟩
    refine ⟨a', n', c', by unfold terr; rw [if_pos h], ?_, hg⟩
    unfold timR; rw [hp.len, hq.len, if_pos h]; exact hans
  · refine (times_big a b n m cap cap' w (by omega) (by omega) (by omega)).mono ?_
    rintro e w' ⟨rfl, rfl⟩
    refine ⟨none, 0, 0, by unfold terr; rw [if_neg h], ?_, World.grownBy.refl _ _⟩
    unfold timR; rw [hp.len, hq.len, if_neg h]; exact ans_nil _ _
end

section
/-- the value, the highest coefficient first: k rounds -/
def horN (P : List Nat) (x : Nat) : Nat → Nat
  | 0 => 0
  | k + 1 => Fld.mul (horN P x k) x ^^^ nth P (P.length - 1 - k)
def atL (P : List Nat) (x : Nat) : Nat := horN P x P.length
theorem horN_lt {P : List Nat} (hP : IsB P) (x k : Nat) : horN P x k < 256 := by
  induction k with
  | zero => simp [horN]
  | succ k ih => exact Fld.xor_lt (Fld.mul_lt _ ih) (hP.nth _)

theorem at_anyQ (a : Option Addr) (n cap x : Nat) (P : List Nat) (w : World) (hp : Rd w a n cap P) (hx : x < 256) (hn : n ≤ 140737488351232) :
    Calls Tryd.prog 36 #[.slice a n cap, .int .u8 x] w fun e w' => e = .returned (.int .u8 (atL P x)) ∧ ∃ q, w' = w.drewN q := by
  have HL : Hid (P.length = n) := hp.len
  go_enter Tryd.func36, Tryd.ntmps36
  go_wp2
  go_loopw [5, 9] (fun v i wr => ∃ k : Nat, k ≤ n ∧ i = .int .i64 k ∧ v = .int .u8 (horN P x k) ∧ ∃ q, wr = w.drewN q) (fun _ i _ => n - (intOf i).toNat)
  case atStart => exact ⟨0, by omega, rfl, rfl, 0, rfl⟩
  case round =>
    obtain ⟨k, hk, rfl, rfl, q, hwq⟩ := hrel
    have HW : Hid (wr = w.drewN q) := hwq
    have hgr : w.grownBy wr none := by rw [hwq]; exact grown_drewN _ _ _
    clear hwq
    have hv := horN_lt hp.byte x k
    by_cases hlt : k < n
    · obtain ⟨b, off, rfl, hbw, hcc⟩ := (hp.keep hgr).at' (by omega)
      have hck := hcc (n - 1 - k) (by omega)
      have hxr := u8_xor_nat (Fld.mul (horN P x k) x) (nth P (n - 1 - k)) (Fld.mul_lt _ hv) (hp.byte.nth _)
      have HS : Hid (horN P x (k + 1) = Fld.mul (horN P x k) x ^^^ nth P (n - 1 - k)) := by show _ = _; simp only [horN]; rw [HL.out]
      clear hcc
      go_wp2
      go_quiet ((go_at_call 44; exact Calls.quiet_of_same (mul_any _ _ hv hx _)))
      go_wp2
      go_roundw
      case rel => exact ⟨k + 1, by omega, by go_num, by rw [HS.out], q + nq, by rw [HW.out, World.drewN_drewN]⟩
      case measure => simp [intOf]; omega
    · obtain rfl : k = n := by omega
      go_wp2
      go_ret
      exact ⟨by unfold atL; rw [HL.out]; rfl, q, HW⟩

theorem rat_anyQ (a : Option Addr) (n cap x : Nat) (P : List Nat) (w : World) (hp : Rd w a n cap P) (hx : x < 256) (hn : n ≤ 140737488351232) :
    Calls Tryd.prog 33 #[.slice a n cap, .int .u8 x] w fun e w' => e = .returned (.int .u8 (atL P x)) ∧ ∃ q, w' = w.drewN q := by
  have HL : Hid (P.length = n) := hp.len
  go_enter Tryd.func33, Tryd.ntmps33
  go_wp2
  go_loopw [5, 6] (fun v i wr => ∃ k : Nat, k ≤ n ∧ i = .int .i64 ((n : Int) - 1 - k) ∧ v = .int .u8 (horN P x k) ∧ ∃ q, wr = w.drewN q) (fun _ i _ => (intOf i + 1).toNat)
  case atStart => exact ⟨0, by omega, by go_num, rfl, 0, rfl⟩
  case round =>
    obtain ⟨k, hk, rfl, rfl, q, hwq⟩ := hrel
    have HW : Hid (wr = w.drewN q) := hwq
    have hgr : w.grownBy wr none := by rw [hwq]; exact grown_drewN _ _ _
    clear hwq
    have hv := horN_lt hp.byte x k
    by_cases hlt : k < n
    · obtain ⟨b, off, rfl, hbw, hcc⟩ := (hp.keep hgr).at' (by omega)
      have hck := hcc (n - 1 - k) (by omega)
      have hxr := u8_xor_nat (Fld.mul (horN P x k) x) (nth P (n - 1 - k)) (Fld.mul_lt _ hv) (hp.byte.nth _)
      have HS : Hid (horN P x (k + 1) = Fld.mul (horN P x k) x ^^^ nth P (n - 1 - k)) := by show _ = _; simp only [horN]; rw [HL.out]
      clear hcc
      go_wp2
      go_quiet ((go_at_call 26; exact Calls.quiet_of_same (rmul_any _ _ hv hx _)))
      go_wp2
      go_roundw
      case rel => exact ⟨k + 1, by omega, by go_num, by rw [HS.out], q + nq, by rw [HW.out, World.drewN_drewN]⟩
      case measure => simp [intOf]; omega
    · obtain rfl : k = n := by omega
      go_wp2
      go_ret
      exact ⟨by unfold atL; rw [HL.out]; rfl, q, HW⟩

theorem at_any (a : Option Addr) (n cap x : Nat) (P : List Nat) (w : World) (hp : Rd w a n cap P) (hx : x < 256) (hn : n ≤ 140737488351232) :
    Calls Tryd.prog 36 #[.slice a n cap, .int .u8 x] w fun e w' => e = .returned (.int .u8 (atL P x)) ∧ w.grownBy w' none := by
  refine (at_anyQ a n cap x P w hp hx hn).mono ?_
  rintro e w' ⟨rfl, q, rfl⟩
  exact ⟨rfl, grown_drewN _ _ _⟩
theorem rat_any (a : Option Addr) (n cap x : Nat) (P : List Nat) (w : World) (hp : Rd w a n cap P) (hx : x < 256) (hn : n ≤ 140737488351232) :
    Calls Tryd.prog 33 #[.slice a n cap, .int .u8 x] w fun e w' => e = .returned (.int .u8 (atL P x)) ∧ w.grownBy w' none := by
  refine (rat_anyQ a n cap x P w hp hx hn).mono ?_
  rintro e w' ⟨rfl, q, rfl⟩
  exact ⟨rfl, grown_drewN _ _ _⟩
end

section
/-! dividing P by B (whose last number is not nought): st rounds, the highest term first -/
def ovC (R B : List Nat) (at_ : Nat) : Nat := Fld.mul (nth R (at_ + B.length - 1)) (Fld.inv (nth B (B.length - 1)))
def ovR (P B : List Nat) (st : Nat) : Nat → List Nat
  | 0 => P
  | i + 1 => addN (ovR P B st i) (st - 1 - i) B (ovC (ovR P B st i) B (st - 1 - i)) B.length
def ovS (P B : List Nat) (st : Nat) : Nat → List Nat
  | 0 => List.replicate st 0
  | i + 1 => (ovS P B st i).set (st - 1 - i) (ovC (ovR P B st i) B (st - 1 - i))
theorem ovR_length (P B : List Nat) (st i : Nat) : (ovR P B st i).length = P.length := by
  induction i with
  | zero => rfl
  | succ i ih => simp only [ovR]; rw [addN_length]; exact ih
theorem ovS_length (P B : List Nat) (st i : Nat) : (ovS P B st i).length = st := by
  induction i with
  | zero => simp [ovS]
  | succ i ih => simp only [ovS, List.length_set]; exact ih
theorem ovR_isB {P B : List Nat} (hP : IsB P) (hB : IsB B) (st i : Nat) : IsB (ovR P B st i) := by
  induction i with
  | zero => exact hP
  | succ i ih => exact addN_isB ih hB _ _ _
theorem ovC_lt {R B : List Nat} (hR : IsB R) (at_ : Nat) : ovC R B at_ < 256 := Fld.mul_lt _ (hR.nth _)
theorem ovS_isB {P B : List Nat} (hP : IsB P) (hB : IsB B) (st i : Nat) : IsB (ovS P B st i) := by
  induction i with
  | zero => exact isB_zeros _
  | succ i ih => exact isB_set ih _ _ (ovC_lt (ovR_isB hP hB st i) _)

theorem over_big (a b : Option Addr) (n m cap cap' : Nat) (w : World) (hn : n ≤ 9223372036854775807) (hm : m ≤ 9223372036854775807) (hb : 512 < n ∨ 512 < m) :
    Calls Tryd.prog 50 #[.slice a n cap, .slice b m cap'] w fun e w' => e = .returned (.tuple #[.slice none 0 0, .slice none 0 0, .int .i64 1]) ∧ w' = w := by
  have e : decide (512 < n ∨ 512 < m) = true := by simpa using hb
  have H := tooLong_any a b n m cap cap' w hn hm
  rw [e] at H
  clear e
  go_enter Tryd.func50, Tryd.ntmps50
  go_wp2_with (go_at_call 47; refine H.mono ?_; rintro e w' ⟨rfl, rfl⟩)
  go_ret3
  exact ⟨rfl, rfl⟩
theorem over_zero (a b : Option Addr) (n m cap cap' : Nat) (Q : List Nat) (w : World) (hq : Rd w b m cap' Q) (hn : n ≤ 512) (hm : m ≤ 512) (hz : trimN Q m = 0) :
    Calls Tryd.prog 50 #[.slice a n cap, .slice b m cap'] w fun e w' => e = .returned (.tuple #[.slice none 0 0, .slice none 0 0, .int .i64 3]) ∧ w' = w := by
  have e : decide (512 < n ∨ 512 < m) = false := by simp; omega
  have H := tooLong_any a b n m cap cap' w (by omega) (by omega)
  rw [e] at H
  clear e
  have HT := trim_any b m cap' Q w hq
  rw [hz] at HT
  clear hz
  go_enter Tryd.func50, Tryd.ntmps50
  go_wp2_with (first | (go_at_call 47; refine H.mono ?_; rintro e w' ⟨rfl, hw⟩; have hw := hw.symm; subst hw) | (go_at_call 49; refine HT.mono ?_; rintro e w' ⟨rfl, hw⟩; have hw := hw.symm; subst hw))
  go_ret3
  exact ⟨rfl, rfl⟩

theorem nth_take (L : List Nat) (m i : Nat) (h : i < m) : nth (L.take m) i = nth L i := by
  unfold nth; rw [List.getD_eq_getElem?_getD, List.getD_eq_getElem?_getD, List.getElem?_take, if_pos h]
set_option maxHeartbeats 1000000 in
theorem over_ok (a b : Option Addr) (n m cap cap' l st : Nat) (P Q B : List Nat) (w : World) (hp : Rd w a n cap P) (hq : Rd w b m cap' Q) (hn : n ≤ 512) (hm : m ≤ 512) (hl : trimN Q m = l) (hl0 : 0 < l) (hB : B = Q.take l) (hst : st = n + 1 - l) :
    Calls Tryd.prog 50 #[.slice a n cap, .slice b m cap'] w fun e w' => ∃ n2 n1 g, e = .returned (.tuple #[.slice (some ⟨g, 0, none⟩) n2 st, .slice (some ⟨w.heap.size, 0, none⟩) n1 n, .int .i64 0]) ∧
      w.heap.size < g ∧ Ans w' (w.heap.size + 1) (some ⟨g, 0, none⟩) n2 st (trimL (ovS P B st st)) ∧ Ans w' w.heap.size (some ⟨w.heap.size, 0, none⟩) n1 n (trimL (ovR P B st st)) ∧ w.grownBy w' none := by
  have e : decide (512 < n ∨ 512 < m) = false := by simp; omega
  have H := tooLong_any a b n m cap cap' w (by omega) (by omega)
  rw [e] at H
  clear e
  have HT := trim_any b m cap' Q w hq
  rw [hl] at HT
  have hlm : l ≤ m := by rw [← hl]; exact trimN_le Q m
  have hb := hq.cut hlm
  rw [← hB] at hb
  have hlz : ((l : Int) == 0) = false := by simp; omega
  have HB : Hid (B.length = l) := hb.len
  have HP : Hid (P.length = n) := hp.len
  have HST : Hid (st = n + 1 - l) := hst
  clear hl hB hst
  obtain ⟨b1, off1, rfl, hbw1, hcc1⟩ := hb.at' hl0
  have hctop := hcc1 (l - 1) (by omega)
  have htop := hb.byte.nth (l - 1)
  by_cases hle : l ≤ n
  · have hsteq : (n : Int) - (l : Int) + 1 = (st : Int) := by have := HST.out; omega
    go_enter Tryd.func50, Tryd.ntmps50
    go_wp2_with (first | (go_at_call 47; refine H.mono ?_; rintro e w' ⟨rfl, hw⟩; have hw := hw.symm; subst hw) | (go_at_call 49; refine HT.mono ?_; rintro e w' ⟨rfl, hw⟩; have hw := hw.symm; subst hw) | (at_make; refine wpList_mkB _ rfl (.tmp 23) (.tmp 23) rfl _ _ n rfl rfl rfl rfl (by omega) ?_; intro w1 hb1 hg1) | (refine wpList_cpB rfl (.tmp 25) (.tmp 26) rfl w.heap.size n n a n cap rfl rfl _ P hb1 (hp.keep hg1) (Nat.le_refl _) (by simp) ?_; intro w2 hb2 hg2) | (at_make; refine wpList_mkB _ rfl (.tmp 35) (.tmp 35) rfl _ _ st rfl rfl rfl rfl (by omega) ?_; intro w3 hb3 hg3; have hg03 := grown_trans (new_then hg1 hg2) hg3; have hct3 := (World.cell?_of_block (w := w) (hg03.block b1 hbw1 (by simp))).trans hctop) | (go_at_call 52; refine (inverse_any _ htop _).mono ?_; rintro e w' ⟨rfl, hw⟩; have hw := hw.symm; subst hw))
    have hgl : w.heap.size < w2.heap.size := Nat.lt_of_lt_of_le hb2.lt (Nat.le_refl _)
    have hb2' : Blk w3 w.heap.size P := by
      have e1 : P ++ List.drop n (List.replicate n 0) = P := by simp
      rw [e1] at hb2
      exact hb2.grown hg3 (by simp)
    go_loopw [45] (fun i wr => ∃ k : Nat, k ≤ st ∧ i = .int .i64 k ∧ w.grownBy wr none ∧ Blk wr w.heap.size (ovR P B st k) ∧ Blk wr w2.heap.size (ovS P B st k)) (fun i _ => st - (intOf i).toNat)
    case atStart => exact ⟨0, by omega, rfl, hg03, hb2', hb3⟩
    case round =>
      obtain ⟨k, hk, rfl, hgr, hBr, hBs⟩ := hrel
      have hRl := ovR_length P B st k
      have hSl := ovS_length P B st k
      have hRB := ovR_isB hp.byte hb.byte st k
      have hSB := ovS_isB hp.byte hb.byte st k
      by_cases hlt : k < st
      · have hcr := hBr.cell (st - 1 - k + l - 1) (by rw [hRl, HP.out]; omega)
        have hcs := hBs.cell (st - 1 - k) (by rw [hSl]; omega)
        have hfs := hBs.free (st - 1 - k)
        have hRn := hRB.nth (st - 1 - k + l - 1)
        have hinv := Fld.inv_lt htop
        have hC : Fld.mul (nth (ovR P B st k) (st - 1 - k + l - 1)) (Fld.inv (nth B (l - 1))) = ovC (ovR P B st k) B (st - 1 - k) := by unfold ovC; rw [HB.out]
        have hCl := ovC_lt (B := B) hRB (st - 1 - k)
        have hst1 : st - 1 - k + l ≤ n := by have := HST.out; omega
        have HRl : Hid ((ovR P B st k).length = n) := hRl.trans HP.out
        clear hRl hSl
        have Sx := hBs.set (st - 1 - k) (ovC (ovR P B st k) B (st - 1 - k))
        have Rx := hBr.grown (grown_set wr w2.heap.size (st - 1 - k) (.int .u8 (ovC (ovR P B st k) B (st - 1 - k) : Nat))) (by simp; omega)
        have Gx := grown_far hgr (grown_set wr w2.heap.size (st - 1 - k) (.int .u8 (ovC (ovR P B st k) B (st - 1 - k) : Nat))) (fun g h => by cases h; omega)
        have hne := hb.ne (Nat.le_refl w.heap.size)
        have hbx := hb.keep Gx
        have HRn : Hid (addN (ovR P B st k) (st - 1 - k) B (ovC (ovR P B st k) B (st - 1 - k)) l = ovR P B st (k + 1)) := by show _ = _; simp only [ovR]; rw [HB.out]
        go_wp2_with (first | (go_at_call 44; refine (mul_any _ _ hRn hinv _).mono ?_; rintro e w' ⟨rfl, hw⟩; have hw := hw.symm; subst hw) | (go_at_call 48; refine (addScaled_any w.heap.size (st - 1 - k) _ _ _ l cap' _ (ovR P B st k) B _ Rx hRB hbx hne (by rw [HRl.out]; exact hst1) (by omega) (by omega) hCl).mono ?_; rintro e w' ⟨rfl, hB', hgr'⟩))
        rw [HRn.out] at hB'
        have S' := Sx.grown hgr' (by simp; omega)
        go_roundw
        case rel => exact ⟨k + 1, by omega, by go_num, new_then Gx hgr', hB', S'⟩
        case measure => simp [intOf]; omega
      · obtain rfl : k = st := by omega
        have hrs := hBs.rd hSB hSl (by unfold maxLen; omega)
        have hrr := hBr.rd hRB (hRl.trans HP.out) (by unfold maxLen; omega)
        have aS := hBs.ans (n := trimN (ovS P B k k) k) (lo := w.heap.size + 1) hSB (by rw [hSl]; exact trimN_le _ _) (by rw [hSl]; unfold maxLen; omega) (by omega)
        have aR := hBr.ans (n := trimN (ovR P B k k) n) (lo := w.heap.size) hRB (by rw [hRl, HP.out]; exact trimN_le _ _) (by rw [hRl, HP.out]; unfold maxLen; omega) (Nat.le_refl _)
        rw [hSl] at aS
        rw [hRl, HP.out] at aR
        have HS : Hid ((ovS P B k k).take (trimN (ovS P B k k) k) = trimL (ovS P B k k)) := by show _ = _; unfold trimL; rw [hSl]
        have HR : Hid ((ovR P B k k).take (trimN (ovR P B k k) n) = trimL (ovR P B k k)) := by show _ = _; unfold trimL; rw [hRl, HP.out]
        rw [HS.out] at aS
        rw [HR.out] at aR
        have t1 : True := trivial
        clear hRl hSl
        go_wp2_with (first | (go_at_call 49; have _t := t1; clear t1; refine (trim_any _ _ _ _ _ hrs).mono ?_; rintro e w' ⟨rfl, hw⟩; have hw := hw.symm; subst hw; have t2 : True := trivial) | (go_at_call 49; have _t := t2; clear t2; refine (trim_any _ _ _ _ _ hrr).mono ?_; rintro e w' ⟨rfl, hw⟩; have hw := hw.symm; subst hw))
        go_ret3
        exact ⟨_, _, _, rfl, hgl, aS, aR, hgr⟩
  · obtain rfl : st = 0 := by have := HST.out; omega
    have hmax : (n : Int) - (l : Int) + 1 ≤ 0 := by omega
    go_enter Tryd.func50, Tryd.ntmps50
    go_wp2_with (first | (go_at_call 47; refine H.mono ?_; rintro e w' ⟨rfl, hw⟩; have hw := hw.symm; subst hw) | (go_at_call 49; refine HT.mono ?_; rintro e w' ⟨rfl, hw⟩; have hw := hw.symm; subst hw) | (at_make; refine wpList_mkB _ rfl (.tmp 23) (.tmp 23) rfl _ _ n rfl rfl rfl rfl (by omega) ?_; intro w1 hb1 hg1) | (refine wpList_cpB rfl (.tmp 25) (.tmp 26) rfl w.heap.size n n a n cap rfl rfl _ P hb1 (hp.keep hg1) (Nat.le_refl _) (by simp) ?_; intro w2 hb2 hg2) | (at_make; refine wpList_mkB _ rfl (.tmp 35) (.tmp 35) rfl _ _ 0 rfl rfl rfl rfl (by omega) ?_; intro w3 hb3 hg3; have hg03 := grown_trans (new_then hg1 hg2) hg3; have hct3 := (World.cell?_of_block (w := w) (hg03.block b1 hbw1 (by simp))).trans hctop) | (go_at_call 52; refine (inverse_any _ htop _).mono ?_; rintro e w' ⟨rfl, hw⟩; have hw := hw.symm; subst hw))
    have hgl : w.heap.size < w2.heap.size := Nat.lt_of_lt_of_le hb2.lt (Nat.le_refl _)
    have hBr : Blk w3 w.heap.size (ovR P B 0 0) := by
      have e1 : P ++ List.drop n (List.replicate n 0) = P := by simp
      rw [e1] at hb2
      exact hb2.grown hg3 (by simp)
    have hBs : Blk w3 w2.heap.size (ovS P B 0 0) := hb3
    have hRl := ovR_length P B 0 0
    have hSl := ovS_length P B 0 0
    have hRB := ovR_isB hp.byte hb.byte 0 0
    have hSB := ovS_isB hp.byte hb.byte 0 0
    have hrs := hBs.rd hSB hSl (by unfold maxLen; omega)
    have hrr := hBr.rd hRB (hRl.trans HP.out) (by unfold maxLen; omega)
    have aS := hBs.ans (n := trimN (ovS P B 0 0) 0) (lo := w.heap.size + 1) hSB (by rw [hSl]; exact trimN_le _ _) (by rw [hSl]; unfold maxLen; omega) (by omega)
    have aR := hBr.ans (n := trimN (ovR P B 0 0) n) (lo := w.heap.size) hRB (by rw [hRl, HP.out]; exact trimN_le _ _) (by rw [hRl, HP.out]; unfold maxLen; omega) (Nat.le_refl _)
    rw [hSl] at aS
    rw [hRl, HP.out] at aR
    have HS : Hid ((ovS P B 0 0).take (trimN (ovS P B 0 0) 0) = trimL (ovS P B 0 0)) := by show _ = _; unfold trimL; rw [hSl]
    have HR : Hid ((ovR P B 0 0).take (trimN (ovR P B 0 0) n) = trimL (ovR P B 0 0)) := by show _ = _; unfold trimL; rw [hRl, HP.out]
    rw [HS.out] at aS
    rw [HR.out] at aR
    have t1 : True := trivial
    clear hRl hSl
    refine wp_loop_rounds 1 ?_; rw [rounds_succ]
    go_wp2_with (first | (go_at_call 49; have _t := t1; clear t1; refine (trim_any _ _ _ _ _ hrs).mono ?_; rintro e w' ⟨rfl, hw⟩; have hw := hw.symm; subst hw; have t2 : True := trivial) | (go_at_call 49; have _t := t2; clear t2; refine (trim_any _ _ _ _ _ hrr).mono ?_; rintro e w' ⟨rfl, hw⟩; have hw := hw.symm; subst hw))
    go_ret3
    exact ⟨_, _, _, rfl, hgl, aS, aR, hg03⟩
end
end Go.Proofs.YtdcfgaibppenaaaDoor
