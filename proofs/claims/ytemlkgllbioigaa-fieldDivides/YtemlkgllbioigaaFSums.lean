import Derived.Test.YtemlkgllbioigaaFTimes
namespace Go.Proofs.Ytemlkgllbioigaa
open Go.RowKit
set_option maxRecDepth 100000
set_option linter.unusedVariables false
set_option linter.unusedSimpArgs false

theorem Roomy.rd {w : World} {g n : Nat} {L D : List Nat} (h : Roomy w g n L D) (hL : IsB L) (hl : L.length = n) (hn : n ≤ 140737488351232) : Rd w (some ⟨g, 0, none⟩) n (n + 5) L :=
  ⟨hl, by omega, by unfold maxLen; omega, (fun h => by cases h), hL, fun _ => ⟨g, 0, rfl, h.blk.lt, fun i hi => by rw [Nat.zero_add, ← h.own i hi]; exact h.blk.cell i (by rw [h.len]; omega)⟩⟩
theorem grown_far {a b c : World} {r : Option Nat} (h : a.grownBy b none) (k : b.grownBy c r) (hr : ∀ g, r = some g → a.heap.size ≤ g) : a.grownBy c none :=
  ⟨k.os.trans h.os, k.tape.trans h.tape, k.output.trans h.output, Nat.le_trans h.size k.size, fun i hi hn => (k.block i (Nat.lt_of_lt_of_le hi h.size) (fun e => by have := hr i e.symm; omega)).trans (h.block i hi hn)⟩
theorem Ans.later {wa wb : World} {lo lo' : Nat} {a b : Option Addr} {n m cap cap' : Nat} {L M : List Nat} (ha : Ans wa lo a n cap L) (hb : Ans wb lo' b m cap' M) (h : wa.heap.size ≤ lo') :
    ∀ g off, b = some ⟨g, off, none⟩ → some g ≠ (Value.slice a n cap).ownBlock := by
  intro g off e
  rcases hb.cases with ⟨rfl, _, _⟩ | ⟨gb, rfl, h1, _⟩
  · cases e
  · cases e
    rcases ha.cases with ⟨rfl, _, _⟩ | ⟨ga, rfl, _, h2⟩
    · simp [Value.ownBlock]
    · simp only [Value.ownBlock, ne_eq, Option.some.injEq]; omega
theorem Ans.earlier {wa wc : World} {lo lo' : Nat} {a c : Option Addr} {n m cap cap' : Nat} {L M : List Nat} (ha : Ans wa lo a n cap L) (hc : Ans wc lo' c m cap' M) (h : wc.heap.size ≤ lo) :
    ∀ g off, c = some ⟨g, off, none⟩ → some g ≠ (Value.slice a n cap).ownBlock := by
  intro g off e
  rcases hc.cases with ⟨rfl, _, _⟩ | ⟨gb, rfl, _, h1⟩
  · cases e
  · cases e
    rcases ha.cases with ⟨rfl, _, _⟩ | ⟨ga, rfl, h2, _⟩
    · simp [Value.ownBlock]
    · simp only [Value.ownBlock, ne_eq, Option.some.injEq]; omega
theorem Ans.far {wa : World} {lo : Nat} {a : Option Addr} {n cap : Nat} {L : List Nat} (ha : Ans wa lo a n cap L) (B : Nat) (h : B ≤ lo) : ∀ g, (Value.slice a n cap).ownBlock = some g → B ≤ g := fun g hg => Nat.le_trans h (ha.new g hg)
theorem Ans.keep {w w' : World} {lo : Nat} {a : Option Addr} {n cap : Nat} {L : List Nat} (h : Ans w lo a n cap L) (hg : w.grownBy w' none) : Ans w' lo a n cap L :=
  h.kept hg (by cases (Value.slice a n cap).ownBlock <;> simp)
theorem Rd.keep {w w' : World} {a : Option Addr} {n cap : Nat} {L : List Nat} (h : Rd w a n cap L) (hg : w.grownBy w' none) : Rd w' a n cap L := h.grown hg (fun _ _ _ => by simp)
theorem Roomy.keep {w w' : World} {g n : Nat} {L D : List Nat} (h : Roomy w g n L D) (hg : w.grownBy w' none) : Roomy w' g n L D := h.grown hg (by simp)

/-- what Times answers, whatever the lengths -/
def terr (n m : Nat) : Int := if n ≤ 512 ∧ m ≤ 512 then 0 else 1
def timR (P Q : List Nat) : List Nat := if P.length ≤ 512 ∧ Q.length ≤ 512 then trimL (timL P Q) else []
theorem trimL_le (L : List Nat) : (trimL L).length ≤ L.length := by unfold trimL; rw [List.length_take]; omega
theorem timR_le (P Q : List Nat) : (timR P Q).length ≤ 1024 := by
  unfold timR; split
  · have := trimL_le (timL P Q)
    have e : (timL P Q).length = P.length + Q.length := timN_length P Q _
    omega
  · simp
theorem sumL_le (P Q : List Nat) : (trimL (sumL P Q)).length ≤ max P.length Q.length := by
  have := trimL_le (sumL P Q)
  simpa [sumL] using this
theorem ans_nil (w : World) (lo : Nat) : Ans w lo none 0 0 [] := ⟨World.ownsRow_nil _ _ _ _, (fun x hx => by cases hx), fun g h => by simp [Value.ownBlock] at h⟩
theorem times_all (a b : Option Addr) (n m cap cap' : Nat) (P Q : List Nat) (w : World) (hp : Rd w a n cap P) (hq : Rd w b m cap' Q) :
    Calls Try.prog 23 #[.slice a n cap, .slice b m cap'] w fun e w' => ∃ a' n' c', e = .returned (.tuple #[.slice a' n' c', .int .i64 (terr n m)]) ∧ Ans w' w.heap.size a' n' c' (timR P Q) ∧ w.grownBy w' none := by
  have h1 := hp.le; have h2 := hp.max; have h3 := hq.le; have h4 := hq.max
  unfold maxLen at h2 h4
  by_cases h : n ≤ 512 ∧ m ≤ 512
  · refine (times_ok a b n m cap cap' P Q w hp hq h.1 h.2).mono ?_
    rintro e w' ⟨a', n', c', rfl, hans, hg⟩
    refine ⟨a', n', c', by unfold terr; rw [if_pos h], ?_, hg⟩
    unfold timR; rw [hp.len, hq.len, if_pos h]; exact hans
  · refine (times_big a b n m cap cap' w (by omega) (by omega) (by omega)).mono ?_
    rintro e w' ⟨rfl, rfl⟩
    refine ⟨none, 0, 0, by unfold terr; rw [if_neg h], ?_, World.grownBy.refl _ _⟩
    unfold timR; rw [hp.len, hq.len, if_neg h]; exact ans_nil _ _
theorem rtimes_all (a b : Option Addr) (n m cap cap' : Nat) (P Q : List Nat) (w : World) (hp : Rd w a n cap P) (hq : Rd w b m cap' Q) :
    Calls Try.prog 22 #[.slice a n cap, .slice b m cap'] w fun e w' => ∃ a' n' c', e = .returned (.tuple #[.slice a' n' c', .int .i64 (terr n m)]) ∧ Ans w' w.heap.size a' n' c' (timR P Q) ∧ w.grownBy w' none := by
  have h1 := hp.le; have h2 := hp.max; have h3 := hq.le; have h4 := hq.max
  unfold maxLen at h2 h4
  by_cases h : n ≤ 512 ∧ m ≤ 512
  · refine (rtimes_ok a b n m cap cap' P Q w hp hq h.1 h.2).mono ?_
    rintro e w' ⟨a', n', c', rfl, hans, hg⟩
    refine ⟨a', n', c', by unfold terr; rw [if_pos h], ?_, hg⟩
    unfold timR; rw [hp.len, hq.len, if_pos h]; exact hans
  · refine (rtimes_big a b n m cap cap' w (by omega) (by omega) (by omega)).mono ?_
    rintro e w' ⟨rfl, rfl⟩
    refine ⟨none, 0, 0, by unfold terr; rw [if_neg h], ?_, World.grownBy.refl _ _⟩
    unfold timR; rw [hp.len, hq.len, if_neg h]; exact ans_nil _ _

set_option maxHeartbeats 1000000 in
theorem sums_walk (a b : Option Addr) (n m cap cap' : Nat) (P Q : List Nat) (w : World) (hp : Rd w a n cap P) (hq : Rd w b m cap' Q) (hn : n ≤ 140737488351232) (hm : m ≤ 140737488351232) :
    Calls Try.prog 4 #[.slice a n cap, .slice b m cap'] w fun e w' => e = .returned (.bool true) ∧ Below w.heap.size w w' := by
  have t1 : True := trivial
  have sle := sumL_le P Q
  have tle := timR_le P Q
  rw [hp.len, hq.len] at sle
  go_enter Try.func4, Try.ntmps4
  go_wp2_with (first
    | (go_at_call 21; have _t := t1; clear t1; refine (roomy_any a n cap P w hp hn).mono ?_; rintro e w1 ⟨rfl, ⟨Dh, hh1⟩, g01⟩; have hq1 := hq.keep g01; have t2 : True := trivial)
    | (go_at_call 21; have _t := t2; clear t2; refine (roomy_any b m cap' Q w1 hq1 hm).mono ?_; rintro e w2 ⟨rfl, ⟨Dk, hk2⟩, g12⟩; have g02 := grown_trans g01 g12; have hp2 := hp.keep g02; have hq2 := hq.keep g02; have hh2 := hh1.keep g12; have t3 : True := trivial)
    | (go_at_call 22; have _t := t3; clear t3; refine (rtimes_all a b n m cap cap' P Q w2 hp2 hq2).mono ?_; rintro e w3 ⟨aw, nw, cw, rfl, hw3, g23⟩; have hH3 := (hh2.keep g23).rd hp.byte hp.len hn; have hK3 := (hk2.keep g23).rd hq.byte hq.len hm; have t4 : True := trivial)
    | (go_at_call 23; have _t := t4; clear t4; refine (times_all _ _ n m _ _ P Q w3 hH3 hK3).mono ?_; rintro e w4 ⟨aa, na, ca, rfl, ha4, g34⟩; have hH4 := hH3.keep g34; have hK4 := hK3.keep g34; have t5 : True := trivial)
    | (go_at_call 23; have _t := t5; clear t5; refine (times_all _ _ n m _ _ P Q w4 hH4 hK4).mono ?_; rintro e w5 ⟨ab, nb, cb, rfl, hb5, g45⟩; have hH5 := hH4.keep g45; have hK5 := hK4.keep g45; have t6 : True := trivial)
    | (go_at_call 25; have _t := t6; clear t6; refine (sum_any _ _ n m _ _ P Q w5 hH5 hK5 (by omega) (by omega)).mono ?_; rintro e w6 ⟨a6, n6, c6, rfl, hs6, g56⟩; have hH6 := hH5.keep g56; have hK6 := hK5.keep g56; have t7 : True := trivial)
    | (go_at_call 25; have _t := t7; clear t7; refine (sum_any _ _ n m _ _ P Q w6 hH6 hK6 (by omega) (by omega)).mono ?_; rintro e w7 ⟨a7, n7, c7, rfl, hs7, g67⟩; have g27 := grown_trans g23 (grown_trans g34 (grown_trans g45 (grown_trans g56 g67))); have hp7 := hp2.keep g27; have hq7 := hq2.keep g27; have t8 : True := trivial)
    | (go_at_call 26; have _t := t8; clear t8; refine (rsum_any _ _ n m _ _ P Q w7 hp7 hq7 (by omega) (by omega)).mono ?_; rintro e w8 ⟨a8, n8, c8, rfl, hs8, g78⟩; have t9 : True := trivial)
    | (go_at_call 24; have _t := t9; clear t9; refine (twice_any a6 a7 a8 n6 n7 n8 c6 c7 c8 w5.heap.size _ w8 (hs6.keep (grown_trans g67 g78)) (hs7.keep g78).rd hs8.rd (by have := hs6.len; omega) (hs6.later hs7 (Nat.le_refl _)) (hs6.later hs8 g67.size)).mono ?_; rintro e w9 ⟨rfl, g89⟩; have t10 : True := trivial)
    | (go_at_call 24; have _t := t10; clear t10; (refine (twice_any aa ab aw na nb nw ca cb cw w3.heap.size _ w9 (ha4.keep (grown_far (grown_trans g45 (grown_trans g56 (grown_trans g67 g78))) g89 (hs6.far _ g45.size))) (hb5.keep (grown_far (grown_trans g56 (grown_trans g67 g78)) g89 (hs6.far _ (Nat.le_refl _)))).rd (hw3.keep (grown_far (grown_trans g34 (grown_trans g45 (grown_trans g56 (grown_trans g67 g78)))) g89 (hs6.far _ (Nat.le_trans g34.size g45.size)))).rd (by have := ha4.len; omega) (ha4.later hb5 (Nat.le_refl _)) (ha4.earlier hw3 (Nat.le_refl _))).mono ?_); rintro e w10 ⟨rfl, g910⟩; have g28 := grown_trans g27 g78; have g2x := grown_far (grown_far g28 g89 (hs6.far _ (Nat.le_trans g23.size (Nat.le_trans g34.size g45.size)))) g910 (ha4.far _ g23.size); have g0x := grown_trans g02 g2x; have t11 : True := trivial)
    | (go_at_call 27; have _t := t11; clear t11; refine (left_any w.heap.size a n cap P Dh w10 (hh2.keep g2x) (hp.keep g0x) hn).mono ?_; rintro e w11 ⟨rfl, g1011⟩; have t12 : True := trivial)
    | (go_at_call 27; have _t := t12; clear t12; refine (left_any w1.heap.size b m cap' Q Dk w11 (hk2.keep (grown_trans g2x g1011)) (hq.keep (grown_trans g0x g1011)) hm).mono ?_; rintro e w12 ⟨rfl, g1112⟩))
  go_ret
  exact ⟨rfl, (Below.refl _ _).grown (grown_trans g0x (grown_trans g1011 g1112)) (Nat.le_refl _) (fun k hk => by cases hk)⟩
end Go.Proofs.Ytemlkgllbioigaa
