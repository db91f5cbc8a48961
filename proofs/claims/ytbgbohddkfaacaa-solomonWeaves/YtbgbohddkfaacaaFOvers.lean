import Derived.Test.YtbgbohddkfaacaaFROver2
namespace Go.Proofs.Ytbgbohddkfaacaa
open Go.RowKit
set_option maxRecDepth 100000
set_option linter.unusedVariables false
set_option linter.unusedSimpArgs false

set_option maxHeartbeats 1000000 in
theorem rover_short (a b : Option Addr) (n m cap cap' l : Nat) (P Q : List Nat) (w : World) (hp : Rd w a n cap P) (hq : Rd w b m cap' Q) (hn : n ≤ 512) (hm : m ≤ 512) (hl : trimN Q m = l) (hl0 : 0 < l) (hle : ¬ l ≤ n) :
    Calls Try.prog 28 #[.slice a n cap, .slice b m cap'] w fun e w' => ∃ a2 n2 c2 a1 n1 c1, e = .returned (.tuple #[.slice a2 n2 c2, .slice a1 n1 c1, .int .i64 0]) ∧
      Ans w' w.heap.size a2 n2 c2 [] ∧ Ans w' w.heap.size a1 n1 c1 (trimL P) ∧ w.grownBy w' none := by
  obtain ⟨B, hB⟩ : ∃ B, B = Q.take l := ⟨_, rfl⟩
  have hlm : l ≤ m := by rw [← hl]; exact trimN_le Q m
  have HQ : Hid (trimL Q = B) := by show _ = _; unfold trimL; rw [hq.len, hl, hB]
  have HB : Hid (B.length = l) := by show _ = _; rw [hB, List.length_take, hq.len]; omega
  have hBB : IsB B := by rw [hB]; exact isB_take hq.byte _
  have hlz : ((l : Int) == 0) = false := by simp; omega
  clear hl hB
  have htop := hBB.nth (l - 1)
  have HD := fun w => rdiv_any 1 (nth B (l - 1)) (by decide) htop w
  have hneg : (n : Int) - (l : Int) < 0 := by omega
  have t1 : True := trivial
  have t2 : True := trivial
  go_enter Try.func28, Try.ntmps28
  go_wp2_with (first
    | (go_at_call 46; have _t := t1; clear t1; refine (rtrim_any b m cap' Q w hq (by omega)).mono ?_; rintro e w1 ⟨ab, nb, cb, rfl, hans1, hgr1⟩; rw [HQ.out] at hans1; have hnb : nb = l := hans1.len.symm.trans HB.out; subst hnb)
    | (at_builtin; refine wpList_clB _ rfl _ _ rfl rfl a n cap P rfl (hp.keep hgr1) (by omega) ?_; intro ar cr w2 hgr2 hans2)
    | (at_make; refine wpList_mkB _ rfl (.tmp 31) (.tmp 31) rfl _ _ n rfl rfl rfl rfl (by omega) ?_; intro w3 hb3 hg3; have hans1' := (hans1.keep (grown_trans hgr2 hg3)); have hans2' := hans2.keep hg3; obtain ⟨gb, hgb⟩ : ∃ g, ab = some ⟨g, 0, none⟩ := (hans1.cases).elim (fun h => absurd h.2.1 (by omega)) (fun h => h.elim fun g hg => ⟨g, hg.1⟩); subst hgb; have hct := own_cell hans1'.own (nb - 1) (by omega))
    | (go_at_call 47; refine (HD _).mono ?_; rintro e w' ⟨rfl, hw⟩; have hw := hw.symm; subst hw))
  have hrs := hb3.rd (n := n) (isB_zeros n) (by simp) (by unfold maxLen; omega)
  have g03 := grown_trans hgr1 (grown_trans hgr2 hg3)
  clear hct HD
  refine wp_loop_rounds 1 ?_; rw [rounds_succ]
  have t3 : True := trivial
  go_wp2_with (first
    | (go_at_call 46; have _t := t3; clear t3; refine (rtrim_any _ _ _ _ _ hrs (by omega)).mono ?_; rintro e w4 ⟨a2, n2, c2, rfl, hans4, hg4⟩; have hAr' := hans2'.keep hg4; have t4 : True := trivial)
    | (go_at_call 46; have _t := t4; clear t4; refine (rtrim_any _ _ _ _ _ hAr'.rd (by omega)).mono ?_; rintro e w5 ⟨a1, n1, c1, rfl, hans5, hg5⟩))
  go_ret3
  have e0 : trimL (List.replicate n 0) = [] := by
    have := trimL_zeros [] n
    simpa [trimL, trimN] using this
  rw [e0] at hans4
  have h4 := hans4.keep hg5
  exact ⟨_, _, _, _, _, _, rfl, ⟨h4.own, h4.byte, fun g hg => Nat.le_trans g03.size (h4.new g hg)⟩, ⟨hans5.own, hans5.byte, fun g hg => Nat.le_trans (Nat.le_trans g03.size hg4.size) (hans5.new g hg)⟩, grown_trans g03 (grown_trans hg4 hg5)⟩

/-! what Over answers, whatever came in -/
def ovE (P Q : List Nat) : Int := if P.length ≤ 512 ∧ Q.length ≤ 512 then (if trimN Q Q.length = 0 then 3 else 0) else 1
def ovQ (P Q : List Nat) : List Nat := if P.length ≤ 512 ∧ Q.length ≤ 512 ∧ trimN Q Q.length ≠ 0 then trimL (ovS P (trimL Q) (P.length + 1 - trimN Q Q.length) (P.length + 1 - trimN Q Q.length)) else []
def ovT (P Q : List Nat) : List Nat := if P.length ≤ 512 ∧ Q.length ≤ 512 ∧ trimN Q Q.length ≠ 0 then trimL (ovR P (trimL Q) (P.length + 1 - trimN Q Q.length) (P.length + 1 - trimN Q Q.length)) else []
theorem trimL_len (Q : List Nat) : (trimL Q).length = trimN Q Q.length := by
  unfold trimL; rw [List.length_take]; have := trimN_le Q Q.length; omega
theorem ovQ_le (P Q : List Nat) : (ovQ P Q).length ≤ 513 := by
  unfold ovQ; split
  · have h := trimL_le (ovS P (trimL Q) (P.length + 1 - trimN Q Q.length) (P.length + 1 - trimN Q Q.length))
    rw [ovS_length] at h
    omega
  · simp
theorem ovT_le (P Q : List Nat) : (ovT P Q).length ≤ 513 := by
  unfold ovT; split
  · have h := trimL_le (ovR P (trimL Q) (P.length + 1 - trimN Q Q.length) (P.length + 1 - trimN Q Q.length))
    rw [ovR_length] at h
    omega
  · simp
theorem over_all (a b : Option Addr) (n m cap cap' : Nat) (P Q : List Nat) (w : World) (hp : Rd w a n cap P) (hq : Rd w b m cap' Q) :
    Calls Try.prog 48 #[.slice a n cap, .slice b m cap'] w fun e w' => ∃ a2 n2 c2 a1 n1 c1, e = .returned (.tuple #[.slice a2 n2 c2, .slice a1 n1 c1, .int .i64 (ovE P Q)]) ∧
      Ans w' w.heap.size a2 n2 c2 (ovQ P Q) ∧ Ans w' w.heap.size a1 n1 c1 (ovT P Q) ∧ w.grownBy w' none ∧ ((Value.slice a1 n1 c1).ownBlock = none ∨ (Value.slice a1 n1 c1).ownBlock ≠ (Value.slice a2 n2 c2).ownBlock) := by
  have h1 := hp.le; have h2 := hp.max; have h3 := hq.le; have h4 := hq.max
  unfold maxLen at h2 h4
  unfold ovE ovQ ovT
  rw [hp.len, hq.len]
  by_cases h : n ≤ 512 ∧ m ≤ 512
  · by_cases hz : trimN Q m = 0
    · rw [if_pos h, if_pos hz, if_neg (by simp [hz]), if_neg (by simp [hz])]
      refine (over_zero a b n m cap cap' Q w hq h.1 h.2 hz).mono ?_
      rintro e w' ⟨rfl, rfl⟩
      exact ⟨none, 0, 0, none, 0, 0, rfl, ans_nil _ _, ans_nil _ _, World.grownBy.refl _ _, .inl rfl⟩
    · rw [if_pos h, if_neg hz, if_pos ⟨h.1, h.2, hz⟩, if_pos ⟨h.1, h.2, hz⟩]
      refine (over_ok a b n m cap cap' (trimN Q m) (n + 1 - trimN Q m) P Q (trimL Q) w hp hq h.1 h.2 rfl (by omega) (by unfold trimL; rw [hq.len]) rfl).mono ?_
      rintro e w' ⟨n2, n1, g, rfl, hg, hs, hr, hgr⟩
      exact ⟨_, _, _, _, _, _, rfl, ⟨hs.own, hs.byte, fun g hg => Nat.le_trans (Nat.le_succ _) (hs.new g hg)⟩, hr, hgr, .inr (by simp [Value.ownBlock]; omega)⟩
  · rw [if_neg h, if_neg (by intro h'; exact h ⟨h'.1, h'.2.1⟩), if_neg (by intro h'; exact h ⟨h'.1, h'.2.1⟩)]
    refine (over_big a b n m cap cap' w (by omega) (by omega) (by omega)).mono ?_
    rintro e w' ⟨rfl, rfl⟩
    exact ⟨none, 0, 0, none, 0, 0, rfl, ans_nil _ _, ans_nil _ _, World.grownBy.refl _ _, .inl rfl⟩
theorem rover_all (a b : Option Addr) (n m cap cap' : Nat) (P Q : List Nat) (w : World) (hp : Rd w a n cap P) (hq : Rd w b m cap' Q) :
    Calls Try.prog 28 #[.slice a n cap, .slice b m cap'] w fun e w' => ∃ a2 n2 c2 a1 n1 c1, e = .returned (.tuple #[.slice a2 n2 c2, .slice a1 n1 c1, .int .i64 (ovE P Q)]) ∧
      Ans w' w.heap.size a2 n2 c2 (ovQ P Q) ∧ Ans w' w.heap.size a1 n1 c1 (ovT P Q) ∧ w.grownBy w' none := by
  have h1 := hp.le; have h2 := hp.max; have h3 := hq.le; have h4 := hq.max
  unfold maxLen at h2 h4
  unfold ovE ovQ ovT
  rw [hp.len, hq.len]
  by_cases h : n ≤ 512 ∧ m ≤ 512
  · by_cases hz : trimN Q m = 0
    · rw [if_pos h, if_pos hz, if_neg (by simp [hz]), if_neg (by simp [hz])]
      refine (rover_zero a b n m cap cap' Q w hq h.1 h.2 hz).mono ?_
      rintro e w' ⟨rfl, hg⟩
      exact ⟨none, 0, 0, none, 0, 0, rfl, ans_nil _ _, ans_nil _ _, hg⟩
    · rw [if_pos h, if_neg hz, if_pos ⟨h.1, h.2, hz⟩, if_pos ⟨h.1, h.2, hz⟩]
      by_cases hle : trimN Q m ≤ n
      · exact rover_ok a b n m cap cap' (trimN Q m) (n + 1 - trimN Q m) P Q (trimL Q) w hp hq h.1 h.2 rfl (by omega) (by unfold trimL; rw [hq.len]) rfl hle
      · have e0 : n + 1 - trimN Q m = 0 := by omega
        rw [e0]
        have es : trimL (ovS P (trimL Q) 0 0) = [] := rfl
        rw [es]
        exact rover_short a b n m cap cap' (trimN Q m) P Q w hp hq h.1 h.2 rfl (by omega) hle
  · rw [if_neg h, if_neg (by intro h'; exact h ⟨h'.1, h'.2.1⟩), if_neg (by intro h'; exact h ⟨h'.1, h'.2.1⟩)]
    refine (rover_big a b n m cap cap' w (by omega) (by omega) (by omega)).mono ?_
    rintro e w' ⟨rfl, rfl⟩
    exact ⟨none, 0, 0, none, 0, 0, rfl, ans_nil _ _, ans_nil _ _, World.grownBy.refl _ _⟩
end Go.Proofs.Ytbgbohddkfaacaa
