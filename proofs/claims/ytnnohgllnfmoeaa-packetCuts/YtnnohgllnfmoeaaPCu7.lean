import Derived.Test.YtnnohgllnfmoeaaPCu6
import Derived.Test.YtnnohgllnfmoeaaPSam
namespace Go.Proofs.Ytnnohgllnfmoeaa
open Go.RowKit
set_option maxRecDepth 100000
set_option linter.unusedVariables false
set_option linter.unusedSimpArgs false

set_option maxHeartbeats 16000000 in
theorem pieces_bad (up : Bool) (ap ct : Int) (a : Option Addr) (n c : Nat) (mo : Int) (L : List Nat) (w : World) (hL : Rd w a n c L) (hE : cuE ap ct n mo ≠ 0) :
    Calls Try.prog 6 #[.bool up, .int .i64 ap, .int .i64 ct, .slice a n c, .int .i64 mo] w fun e w' => e = .returned (.tuple #[.slice none 0 0, .int .i64 (cuE ap ct n mo : Nat)]) ∧ w' = w := by
  by_cases h1 : (0 ≤ ap ∧ ap ≤ 2046) ∧ (0 ≤ ct ∧ ct ≤ 16383)
  · have f1 : ¬ (ap < 0) := by omega
    have f2 : ¬ ((2047 : Int) ≤ ap) := by omega
    have f3 : ¬ (ct < 0) := by omega
    have f4 : ¬ ((16383 : Int) < ct) := by omega
    by_cases h3 : n = 0 ∨ 1048576 < n ∨ mo < 1 ∨ 65536 < mo
    · have e : cuE ap ct n mo = 1 := by
        unfold cuE
        rw [if_neg (by simp [h1]), if_pos]
        rcases h3 with h | h | h | h <;> simp [h]
      rw [e]
      have hb : (((n : Int) == 0) || decide ((1048576 : Int) < (n : Int)) || decide (mo < 1) || decide ((65536 : Int) < mo)) = true := by
        simp only [Bool.or_eq_true, beq_iff_eq, decide_eq_true_eq]
        omega
      clear hE h3
      go_enter Try.func6, Try.ntmps6
      go_wp2
      all_goals
        go_ret2
        exact ⟨rfl, rfl⟩
    · have h4 : (16384 : Int) < ((n : Int) + mo - 1) / mo := by
        apply Int.lt_of_not_ge; intro h4
        apply hE; unfold cuE
        rw [if_neg (by simp [h1]), if_neg]
        omega
      have e : cuE ap ct n mo = 1 := by
        unfold cuE
        rw [if_neg (by simp [h1]), if_pos (.inr (.inr (.inr (.inr h4))))]
      rw [e]
      have d1 : (((n : Int) == 0) : Bool) = false := by simp; omega
      have d2 : ¬ ((1048576 : Int) < (n : Int)) := by omega
      have d3 : ¬ (mo < 1) := by omega
      have d4 : ¬ ((65536 : Int) < mo) := by omega
      have d6 : ((n : Int) + mo - 1) / mo ≤ 1114111 := by
        refine Int.le_trans (Int.ediv_le_self _ (by omega)) (by omega)
      clear hE h3
      go_enter Try.func6, Try.ntmps6
      go_wp2
      go_ret2
      exact ⟨rfl, rfl⟩
  · have e : cuE ap ct n mo = 2 := by unfold cuE; rw [if_pos (by omega)]
    rw [e]
    have hb : (decide (ap < 0) || decide ((2047 : Int) ≤ ap) || decide (ct < 0) || decide ((16383 : Int) < ct)) = true := by
      simp only [Bool.or_eq_true, decide_eq_true_eq]
      omega
    clear hE h1
    go_enter Try.func6, Try.ntmps6
    go_wp2
    all_goals
      go_ret2
      exact ⟨rfl, rfl⟩
theorem OwP.six {w : World} {lo g n cap : Nat} {ps : List Pk} (h : OwP w lo (some ⟨g, 0, none⟩) n cap ps) (i : Nat) (hi : i < ps.length) :
    w.cell? ⟨g, i * 6, none⟩ = some (.bool (ps[i]).up) ∧ w.cell? ⟨g, i * 6 + 1, none⟩ = some (.bool (ps[i]).se) ∧ w.cell? ⟨g, i * 6 + 2, none⟩ = some (.int .i64 (ps[i]).ap) ∧ w.cell? ⟨g, i * 6 + 3, none⟩ = some (.int .i64 (ps[i]).pt) ∧ w.cell? ⟨g, i * 6 + 4, none⟩ = some (.int .i64 (ps[i]).ct) ∧ w.cell? ⟨g, i * 6 + 5, none⟩ = some (.slice (ps[i]).a (ps[i]).n (ps[i]).c) :=
  ⟨h.cell i 0 hi (by decide), h.cell i 1 hi (by decide), h.cell i 2 hi (by decide), h.cell i 3 hi (by decide), h.cell i 4 hi (by decide), h.cell i 5 hi (by decide)⟩
theorem OwP.some {w : World} {lo n cap : Nat} {a : Option Addr} {ps : List Pk} (h : OwP w lo a n cap ps) (hn : 1 ≤ n) : ∃ g, a = some ⟨g, 0, none⟩ := by
  rcases h.cases with ⟨_, h2, _⟩ | ⟨g, h1, _⟩
  · omega
  · exact ⟨g, h1⟩
/-- a row of packets is no row of bytes -/
theorem OwP.bytes {w : World} {lo lo' n cap m d : Nat} {a b : Option Addr} {ps : List Pk} {L : List Nat} (h : OwP w lo a n cap ps) (k : Ans w lo' b m d L) : (Value.slice a n cap).ownBlock = none ∨ (Value.slice a n cap).ownBlock ≠ (Value.slice b m d).ownBlock := by
  rcases h.own.2 with ⟨k1, _⟩ | ⟨q, cq, cur, k1, _, kh, _⟩
  · simp only [Value.slice.injEq] at k1
    obtain ⟨rfl, rfl, rfl⟩ := k1
    exact .inl rfl
  · simp only [Value.slice.injEq] at k1
    obtain ⟨rfl, _, _⟩ := k1
    exact .inr fun e => k.apart (show BxS w q 33 cur from kh) (by decide) e.symm
theorem OwD.keep {w w' : World} {lo n cap : Nat} {a : Option Addr} {ps : List Pk} (h : OwD w lo a n cap ps) (hg : w.grownBy w' none) : OwD w' lo a n cap ps := ⟨h.own.keep hg, fun i hi => (h.data i hi).keep hg, h.apart⟩
theorem OwD.kept {w w' : World} {lo lo' n cap m d : Nat} {a b : Option Addr} {ps : List Pk} {L : List Nat} (h : OwD w lo a n cap ps) (k : Ans w lo' b m d L) (hg : w.grownBy w' (Value.slice b m d).ownBlock)
    (hne : ∀ i (hi : i < ps.length), (Value.slice ps[i].a ps[i].n ps[i].c).ownBlock = none ∨ (Value.slice ps[i].a ps[i].n ps[i].c).ownBlock ≠ (Value.slice b m d).ownBlock) : OwD w' lo a n cap ps :=
  ⟨h.own.kept hg (h.own.bytes k), fun i hi => (h.data i hi).kept hg (hne i hi), h.apart⟩
/-- what was there ahead of lo' is not what came from lo' on -/
theorem ans_below {w w' : World} {lo lo' n cap m d : Nat} {a b : Option Addr} {L M : List Nat} (h : Ans w lo a n cap L) (k : Ans w' lo' b m d M) (hs : w.heap.size ≤ lo') : (Value.slice a n cap).ownBlock = none ∨ (Value.slice a n cap).ownBlock ≠ (Value.slice b m d).ownBlock := by
  rcases h.cases with ⟨rfl, _, _⟩ | ⟨g, rfl, _, hlt⟩
  · exact .inl rfl
  · refine .inr fun e => ?_
    have := k.new g e.symm
    omega
theorem flip_ne {x y : Option Nat} (h : x = none ∨ x ≠ y) : y = none ∨ y ≠ x := by
  cases y with
  | none => exact .inl rfl
  | some q =>
    refine .inr fun e => ?_
    rcases h with h | h
    · rw [h] at e; cases e
    · exact h e.symm
end Go.Proofs.Ytnnohgllnfmoeaa
