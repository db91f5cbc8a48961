import Derived.Deep.CutBlock
import Derived.Test.YtnjdbbjhplebhaaPs9
import Derived.Test.YtnjdbbjhplebhaaPs8
namespace Go.Proofs.Ytnjdbbjhplebhaa
open Go.RowKit
set_option maxRecDepth 100000
set_option linter.unusedVariables false
set_option linter.unusedSimpArgs false

section
theorem run_stop (J : Nat → Jb) (n : Nat) (r : Nat → Nat) (e : Nat) (h : ∀ t, e ≤ t → r t = 0) : ∀ d, runJ J n r (e + d) = runJ J n r e
  | 0 => rfl
  | d + 1 => by
    show sendJ J n (e + d) (r (e + d)) (r (e + d)) (runJ J n r (e + d)).1 (runJ J n r (e + d)).2 = _
    rw [h (e + d) (by omega), sendJ_zero]
    exact run_stop J n r e h d
theorem rt_end (W : Nat → Jb) (n t : Nat) (h : enW W n ≤ t) : rtW W n t = 0 := by
  unfold rtW
  rw [sumF_eq _ (fun _ => 0) n (fun i hi => if_neg (fun hc => by have := enW_le W n i hi; omega)), sumF_zero]
/-- when which job is gone -/
def goneN (W J : Nat → Jb) (wn jn : Nat) : Nat → Int := (runJ J jn (rtW W wn) 20000).2
theorem gone_is (W J : Nat → Jb) (wn jn : Nat) (h : enW W wn ≤ 20000) : (runJ J jn (rtW W wn) (enW W wn)).2 = goneN W J wn jn := by
  have := run_stop J jn (rtW W wn) (enW W wn) (fun t ht => rt_end W wn t ht) (20000 - enW W wn)
  rw [show enW W wn + (20000 - enW W wn) = 20000 by omega] at this
  unfold goneN
  rw [this]
/-- are all gone in time? -/
def fitB (W J : Nat → Jb) (wn jn : Nat) : Bool := (List.range jn).all fun i => !(decide (goneN W J wn jn i = -1)) && decide (goneN W J wn jn i ≤ ((J i).by' : Int))
theorem fit_iff (W J : Nat → Jb) (wn jn : Nat) (hJ : ∀ i, i < jn → (J i).fr ≤ (J i).by' ∧ (J i).by' ≤ 20000) : fitB W J wn jn = true ↔ ∀ i, i < jn → lf J jn (rtW W wn) (J i).by' i = 0 := by
  unfold fitB
  rw [List.all_eq_true]
  constructor
  · intro h i hi
    have := h i (List.mem_range.2 hi)
    rw [Bool.and_eq_true, Bool.not_eq_true', decide_eq_false_iff_not, decide_eq_true_iff] at this
    exact (in_time J jn (rtW W wn) i 20000 (hJ i hi).1 (hJ i hi).2).1 this
  · intro h i hi
    have hi := List.mem_range.1 hi
    rw [Bool.and_eq_true, Bool.not_eq_true', decide_eq_false_iff_not, decide_eq_true_iff]
    exact (in_time J jn (rtW W wn) i 20000 (hJ i hi).1 (hJ i hi).2).2 (h i hi)
/-- windows and jobs that may be -/
structure MayS (W J : Nat → Jb) (wn jn : Nat) : Prop where
  hw : wn ≤ 200
  hj : jn ≤ 100
  w : ∀ i, i < wn → (W i).fr ≤ (W i).by' ∧ (W i).by' ≤ 20000 ∧ (W i).by8 ≤ 1000000
  j : ∀ i, (J i).fr ≤ (J i).by' ∧ (J i).by' ≤ 20000 ∧ (J i).by8 ≤ 1000000
theorem t3B_J {x : Jb} (h : x.fr ≤ x.by' ∧ x.by' ≤ 20000 ∧ x.by8 ≤ 1000000) : t3B (tJ x) = true := by
  rw [t3B_iff]
  unfold tJ
  dsimp only
  omega
theorem MayS.en {W J : Nat → Jb} {wn jn : Nat} (h : MayS W J wn jn) : enW W wn ≤ 20000 := enW_ub W 20000 wn (fun i hi => (h.w i hi).2.1)

set_option maxHeartbeats 8000000 in
theorem share_ok (w : World) (wa ja : Option Addr) (wn wc jn jc : Nat) (W J : Nat → Jb) (hW : RdT w wa wn wc (fun i => tJ (W i))) (hJ : RdT w ja jn jc (fun i => tJ (J i))) (hm : MayS W J wn jn) (hS : SortsD jn) :
    Calls Try.prog 6 #[.slice wa wn wc, .slice ja jn jc] w fun e w' => ∃ ga, e = .returned (.tuple #[.slice (some ⟨ga, 0, none⟩) jn jn, .int .i64 0]) ∧ InB w' ga jn (goneN W J wn jn) ∧ w.heap.size ≤ ga ∧ w.grownBy w' none := by
  have W0 := (wrongShare_any w wa ja wn wc jn jc _ _ hW hJ).mono (R' := fun e w' => e = .returned (.int .i64 0) ∧ w.grownBy w' none) (fun e w' h => by
    obtain ⟨z, h1, h2, h3⟩ := h
    have hno : ¬ (200 < wn ∨ 100 < jn) := by have := hm.hw; have := hm.hj; omega
    have hz := h2.2.2 hno (fun h => by
      rcases h with ⟨i, hi, hb⟩ | ⟨i, hi, hb⟩
      · rw [t3B_J (hm.w i hi)] at hb; cases hb
      · rw [t3B_J (hm.j i)] at hb; cases hb)
    rw [hz] at h1
    exact ⟨h1, h3⟩)
  have R0 : ∀ w1, w.grownBy w1 none → _ := fun w1 g => rooms_any w1 wa wn wc W (hW.keep g) hm.w hm.hw
  have HM : Hid _ := hm
  have HJ : Hid _ := hJ
  have HSS : Hid _ := hS
  have HR0 : Hid _ := R0
  clear hW hJ hm hS R0
  go_enter Try.func6, Try.ntmps6
  refine wp_seq_k fun K0 hK0 => ?_
  have HK0 : Hid _ := hK0
  clear hK0
  go_wp2
  refine HK0.out _ _ ?_
  clear HK0
  refine wp_seq_k fun K1 hK1 => ?_
  have HK1 : Hid _ := hK1
  clear hK1
  go_wp2_with (go_at_call 14; refine W0.mono ?_; rintro e w1 ⟨rfl, g1⟩)
  have R1 := HR0.out w1 g1
  have HG1 : Hid _ := g1
  clear g1
  refine HK1.out _ _ ?_
  clear HK1
  refine wp_seq_k fun K2 hK2 => ?_
  have HK2 : Hid _ := hK2
  clear hK2
  have s1 : True := trivial
  have hG0 : ∀ w2 ga, w1.grownBy w2 none → InB w2 ga (enW W wn + 1) (fun t => (rtW W wn t : Int)) → _ := fun w2 ga g2 hi => whenGone_any w2 ga (enW W wn) (enW W wn + 1) (enW W wn + 1) jn jc (rtW W wn) ja J hi (by omega) (by omega) HM.out.en (fun t => Nat.le_trans (rt_bd W t wn (fun i hi => (HM.out.w i hi).2.2)) (by have := HM.out.hw; omega)) (HJ.out.keep (grown_trans HG1.out g2)) HM.out.hj (fun i => (HM.out.j i).2.2) (fun i => Nat.le_trans (HM.out.j i).1 (HM.out.j i).2.1) HSS.out
  have HG0 : Hid _ := hG0
  clear hG0
  go_wp2_with (first
    | (have _t := s1; clear s1; go_at_call 16; refine R1.mono ?_; rintro e w2 ⟨ga, rfl, hi2, hl2, g2⟩; have S0 := HG0.out w2 ga g2 hi2; have s2 : True := trivial)
    | (have _t := s2; clear s2; go_at_call 15; refine S0.mono ?_; rintro e w3 ⟨gb, rfl, hi3, hl3, g3⟩))
  refine HK2.out _ _ ?_
  clear HK2
  go_wp2
  (try simp only [Exit.inBlock, Exit.then])
  refine bodyPost_ret (results_tmp2 rfl _ _ _) rfl ?_
  refine ⟨gb, rfl, ?_, Nat.le_trans HG1.out.size (Nat.le_trans g2.size hl3), grown_trans HG1.out (grown_trans g2 g3)⟩
  rw [← gone_is W J wn jn HM.out.en]
  exact hi3
set_option maxHeartbeats 8000000 in
theorem fits_ok (w : World) (wa ja : Option Addr) (wn wc jn jc : Nat) (W J : Nat → Jb) (hW : RdT w wa wn wc (fun i => tJ (W i))) (hJ : RdT w ja jn jc (fun i => tJ (J i))) (hm : MayS W J wn jn) (hS : SortsD jn) :
    Calls Try.prog 8 #[.slice wa wn wc, .slice ja jn jc] w fun e w' => e = .returned (.tuple #[.bool (fitB W J wn jn), .int .i64 0]) ∧ w.grownBy w' none := by
  have S0 := share_ok w wa ja wn wc jn jc W J hW hJ hm hS
  have HJ : Hid _ := hJ
  have hj100 := hm.hj
  have HF : Hid (fitB W J wn jn = (List.range jn).all fun i => !(decide (goneN W J wn jn i = -1)) && decide (goneN W J wn jn i ≤ ((J i).by' : Int))) := (rfl : _ = _)
  generalize goneN W J wn jn = G at *
  generalize fitB W J wn jn = fb at *
  clear hW hJ hm hS
  go_enter Try.func8, Try.ntmps8
  refine wp_seq_k fun K0 hK0 => ?_
  have HK0 : Hid _ := hK0
  clear hK0
  go_wp2
  refine HK0.out _ _ ?_
  clear HK0
  refine wp_seq_k fun K1 hK1 => ?_
  have HK1 : Hid _ := hK1
  clear hK1
  go_wp2_with (go_at_call 6; refine S0.mono ?_; rintro e w1 ⟨ga, rfl, hi1, hl1, g1⟩)
  refine HK1.out _ _ ?_
  clear HK1
  refine wp_seq_k fun K2 hK2 => ?_
  have HK2 : Hid _ := hK2
  clear hK2
  go_wp2
  refine HK2.out _ _ ?_
  clear HK2
  refine wp_seq_k fun K3 hK3 => ?_
  have HK3 : Hid _ := hK3
  clear hK3
  go_wp2
  go_loopw [21] (fun v21 wr => ∃ k : Nat, k ≤ jn ∧ v21 = .int .i64 (k : Nat) ∧ Hid (∀ i, i < k → ¬ G i = -1 ∧ G i ≤ ((J i).by' : Int)) ∧ Hid (InB wr ga jn G) ∧ w.grownBy wr none) (fun v21 _ => jn - (intOf v21).toNat)
  case atStart => exact ⟨0, Nat.zero_le _, rfl, (fun i h => absurd h (by omega)), hi1, g1⟩
  case round =>
    obtain ⟨k, hk, rfl, hok, hik, hg⟩ := hrel
    by_cases hlt : k < jn
    · have lk : (k : Int) < (jn : Int) := by omega
      obtain ⟨b, off, ha, _, hr⟩ := (HJ.out.keep hg).at' (by omega)
      have hr := hr k hlt
      have c0 := hr 0 _ rfl
      have c1 := hr 1 _ rfl
      have c2 := hr 2 _ rfl
      simp only [Nat.add_zero, tJ] at c0 c1 c2
      subst ha
      obtain ⟨f, hf⟩ : ∃ f, f = (J k).fr := ⟨_, rfl⟩
      obtain ⟨t, ht⟩ : ∃ t, t = (J k).by' := ⟨_, rfl⟩
      obtain ⟨r0, hrr⟩ : ∃ r0, r0 = (J k).by8 := ⟨_, rfl⟩
      rw [← hf] at c0
      rw [← ht] at c1
      rw [← hrr] at c2
      have HT : Hid (t = (J k).by') := ht
      clear hf ht hrr hr hi1 g1 hl1
      have GA := World.grownBy_alloc wr (.cells #[.int .i64 (f : Nat), .int .i64 (t : Nat), .int .i64 (r0 : Nat)] 34) none
      have ba := BxS.new wr 34 #[.int .i64 (f : Nat), .int .i64 (t : Nat), .int .i64 (r0 : Nat)]
      have hia := InB.keep hik.out GA (by simp)
      have HGA : Hid (w.grownBy (wr.alloc (.cells #[.int .i64 (f : Nat), .int .i64 (t : Nat), .int .i64 (r0 : Nat)] 34)) none) := grown_trans hg GA
      have HKN : Hid (k < jn) := hlt
      go_upto_region 7 with fail
      generalize wr.heap.size = gx at *
      generalize wr.alloc (.cells #[.int .i64 (f : Nat), .int .i64 (t : Nat), .int .i64 (r0 : Nat)] 34) = wa' at *
      have x1 := BxS.cell ba 1 (by simp)
      simp at x1
      have y1 := InB.cell hia hlt
      have HIA : Hid (InB wa' ga jn G) := hia
      clear GA ba hia hg hlt hik
      obtain ⟨q, hq⟩ : ∃ q, q = G k := ⟨_, rfl⟩
      rw [← hq] at y1
      have HQ : Hid (q = G k) := hq
      clear hq
      by_cases h1 : q = -1
      · subst h1
        go_quiet (fail)
        go_wp2
        (try simp only [Exit.inBlock, Exit.then])
        refine bodyPost_ret (results_tmp2 rfl _ _ _) rfl ?_
        have e : fb = false := by
          rw [HF.out, List.all_eq_false]
          exact ⟨k, List.mem_range.2 HKN.out, by rw [← HQ.out]; simp⟩
        rw [e]
        exact ⟨rfl, grown_trans HGA.out (grown_drewN _ _ none)⟩
      · have h1b : (q == (-1 : Int)) = false := beq_eq_false_iff_ne.2 h1
        have H1 : Hid (¬ q = -1) := h1
        clear h1
        by_cases h2 : (t : Int) < q
        · go_quiet (fail)
          go_wp2
          (try simp only [Exit.inBlock, Exit.then])
          refine bodyPost_ret (results_tmp2 rfl _ _ _) rfl ?_
          have e : fb = false := by
            rw [HF.out, List.all_eq_false]
            refine ⟨k, List.mem_range.2 HKN.out, ?_⟩
            rw [← HQ.out, ← HT.out, decide_eq_false (by omega : ¬ q ≤ (t : Int))]
            simp
          rw [e]
          exact ⟨rfl, grown_trans HGA.out (grown_drewN _ _ none)⟩
        · go_quiet (fail)
          have GQ := grown_drewN wa' nq none
          generalize wa'.drewN nq = w9 at *
          go_wp2
          refine ⟨⟨k + 1, HKN.out, by go_num, fun i hi => ?_, InB.keep HIA.out GQ (by simp), grown_trans HGA.out GQ⟩, by have := HKN.out; simp [intOf] <;> omega⟩
          by_cases ei : i = k
          · rw [ei, ← HQ.out, ← HT.out]
            exact ⟨H1.out, by omega⟩
          · exact hok.out i (by omega)
    · obtain rfl : jn = k := by omega
      have lk : ¬ (jn : Int) < (jn : Int) := by omega
      have HG9 : Hid (w.grownBy wr none) := hg
      clear hg g1
      go_wp2
      (try simp only [Exit.inBlock, Exit.then])
      refine HK3.out _ _ ?_
      clear HK3
      go_wp2
      (try simp only [Exit.inBlock, Exit.then])
      refine bodyPost_ret (results_tmp2 rfl _ _ _) rfl ?_
      have e : fb = true := by
        rw [HF.out, List.all_eq_true]
        intro i hi
        obtain ⟨q1, q2⟩ := hok.out i (List.mem_range.1 hi)
        rw [decide_eq_false q1, decide_eq_true q2]
        rfl
      rw [e]
      exact ⟨rfl, HG9.out⟩
end

section
/-- [a, m) and [m, b) change places -/
def rotF {α : Type} (F : Nat → α) (a m b k : Nat) : α := if k < a then F k else if k < a + (b - m) then F (k + (m - a)) else if k < b then F (k - (b - m)) else F k
/-- so many at x and at y change places -/
def swapF {α : Type} (F : Nat → α) (x y n k : Nat) : α := if x ≤ k ∧ k < x + n then F (k + (y - x)) else if y ≤ k ∧ k < y + n then F (k - (y - x)) else F k
theorem swapF_zero {α : Type} (F : Nat → α) (x y k : Nat) : swapF F x y 0 k = F k := by
  unfold swapF
  rw [if_neg (by omega), if_neg (by omega)]
theorem swapF_step {α : Type} (F : Nat → α) (x y n k : Nat) (h : x + n + 1 ≤ y) : (if k = y + n then swapF F x y n (x + n) else if k = x + n then swapF F x y n (y + n) else swapF F x y n k) = swapF F x y (n + 1) k := by
  unfold swapF
  repeat' split
  all_goals first
    | rfl
    | (exfalso; omega)
    | (congr 1; omega)
theorem rot_gt {α : Type} (F : Nat → α) (m i j k : Nat) (h : j < i) (hm : i ≤ m) : rotF (swapF F (m - i) m j) (m - (i - j)) m (m + j) k = rotF F (m - i) m (m + j) k := by
  unfold rotF swapF
  repeat' split
  all_goals first
    | rfl
    | (exfalso; omega)
    | (congr 1; omega)
theorem rot_lt {α : Type} (F : Nat → α) (m i j k : Nat) (h : i < j) (hm : i ≤ m) : rotF (swapF F (m - i) (m + j - i) i) (m - i) m (m + (j - i)) k = rotF F (m - i) m (m + j) k := by
  unfold rotF swapF
  repeat' split
  all_goals first
    | rfl
    | (exfalso; omega)
    | (congr 1; omega)
theorem rot_eq {α : Type} (F : Nat → α) (m i k : Nat) (hm : i ≤ m) : swapF F (m - i) m i k = rotF F (m - i) m (m + i) k := by
  unfold rotF swapF
  repeat' split
  all_goals first
    | rfl
    | (exfalso; omega)
    | (congr 1; omega)
theorem rotF_congr {α : Type} {F G : Nat → α} (h : ∀ k, F k = G k) (a m b k : Nat) : rotF F a m b k = rotF G a m b k := by
  have e : F = G := funext h
  rw [e]
theorem rotF_map {α β : Type} (f : α → β) (F : Nat → α) (a m b k : Nat) : f (rotF F a m b k) = rotF (fun i => f (F i)) a m b k := by
  unfold rotF
  repeat' split
  all_goals rfl
/-- one goes up, step by step -/
theorem rot_up {α : Type} (F : Nat → α) (a c k : Nat) (h : a ≤ c) : (if k = c + 1 then rotF F a (a + 1) (c + 1) c else if k = c then rotF F a (a + 1) (c + 1) (c + 1) else rotF F a (a + 1) (c + 1) k) = rotF F a (a + 1) (c + 2) k := by
  unfold rotF
  repeat' split
  all_goals first
    | rfl
    | (exfalso; omega)
    | (congr 1; omega)
/-- one goes down, step by step -/
theorem rot_dn {α : Type} (F : Nat → α) (m c k : Nat) (h : c + 1 ≤ m) : (if k = c then rotF F (c + 1) m (m + 1) (c + 1) else if k = c + 1 then rotF F (c + 1) m (m + 1) c else rotF F (c + 1) m (m + 1) k) = rotF F c m (m + 1) k := by
  unfold rotF
  repeat' split
  all_goals first
    | rfl
    | (exfalso; omega)
    | (congr 1; omega)
theorem rot_none {α : Type} (F : Nat → α) (m k : Nat) : rotF F m m (m + 1) k = F k := by
  unfold rotF
  repeat' split
  all_goals first
    | rfl
    | (exfalso; omega)
    | (congr 1; omega)
theorem rot_none2 {α : Type} (F : Nat → α) (a k : Nat) : rotF F a (a + 1) (a + 1) k = F k := by
  unfold rotF
  repeat' split
  all_goals first
    | rfl
    | (exfalso; omega)
    | (congr 1; omega)
def SrtF (f : Nat → Nat) (a b : Nat) : Prop := ∀ p q, a ≤ p → p < q → q < b → f p ≤ f q
theorem SrtF.le {f : Nat → Nat} {a b p q : Nat} (h : SrtF f a b) (h1 : a ≤ p) (h2 : p ≤ q) (h3 : q < b) : f p ≤ f q := by
  by_cases e : p = q
  · rw [e]; exact Nat.le_refl _
  · exact h p q h1 (by omega) h3
theorem SrtF.join {g : Nat → Nat} {a s b : Nat} (h1 : SrtF g a s) (h2 : SrtF g s b) (h : ∀ p q, a ≤ p → p < s → s ≤ q → q < b → g p ≤ g q) : SrtF g a b := fun p q k1 k2 k3 => by
  by_cases e1 : q < s
  · exact h1 p q k1 k2 e1
  · by_cases e2 : p < s
    · exact h p q k1 e2 (by omega) k3
    · exact h2 p q (by omega) k2 k3
/-- WHAT A ROTATION MAKES of two sorted runs -/
structure RotS (g : Nat → Nat) (a s d e b : Nat) : Prop where
  r1 : SrtF g a s
  r2 : SrtF g s d
  r3 : SrtF g d e
  r4 : SrtF g e b
  cr : ∀ p q, a ≤ p → p < d → d ≤ q → q < b → g p ≤ g q
theorem rot_srt {f : Nat → Nat} {a s m e b : Nat} (h1 : SrtF f a m) (h2 : SrtF f m b) (k1 : a ≤ s) (k2 : s ≤ m) (k3 : m ≤ e) (k4 : e ≤ b) (C1 : a < s → e < b → f (s - 1) ≤ f e) (C2 : m < e → s < m → f (e - 1) ≤ f s) :
    RotS (rotF f s m e) a s (s + (e - m)) e b := by
  have g1 : ∀ p, p < s → rotF f s m e p = f p := fun p h => by unfold rotF; rw [if_pos h]
  have g2 : ∀ p, s ≤ p → p < s + (e - m) → rotF f s m e p = f (p + (m - s)) := fun p h h' => by unfold rotF; rw [if_neg (by omega), if_pos h']
  have g3 : ∀ p, s + (e - m) ≤ p → p < e → rotF f s m e p = f (p - (e - m)) := fun p h h' => by unfold rotF; rw [if_neg (by omega), if_neg (by omega), if_pos h']
  have g4 : ∀ p, e ≤ p → rotF f s m e p = f p := fun p h => by unfold rotF; rw [if_neg (by omega), if_neg (by omega), if_neg (by omega)]
  refine ⟨fun p q q1 q2 q3 => ?_, fun p q q1 q2 q3 => ?_, fun p q q1 q2 q3 => ?_, fun p q q1 q2 q3 => ?_, fun p q q1 q2 q3 q4 => ?_⟩
  · rw [g1 p (by omega), g1 q (by omega)]
    exact h1 p q q1 q2 (by omega)
  · rw [g2 p (by omega) (by omega), g2 q (by omega) (by omega)]
    exact h2 _ _ (by omega) (by omega) (by omega)
  · rw [g3 p (by omega) (by omega), g3 q (by omega) (by omega)]
    exact h1 _ _ (by omega) (by omega) (by omega)
  · rw [g4 p (by omega), g4 q (by omega)]
    exact h2 _ _ (by omega) (by omega) (by omega)
  · by_cases c1 : p < s
    · rw [g1 p c1]
      by_cases c2 : q < e
      · rw [g3 q q3 c2]
        exact h1 _ _ q1 (by omega) (by omega)
      · rw [g4 q (by omega)]
        have z1 := h1.le (p := p) (q := s - 1) q1 (by omega) (by omega)
        have z2 := C1 (by omega) (by omega)
        have z3 := h2.le (p := e) (q := q) (by omega) (by omega) q4
        omega
    · rw [g2 p (by omega) q2]
      by_cases c2 : q < e
      · rw [g3 q q3 c2]
        have z1 := h2.le (p := p + (m - s)) (q := e - 1) (by omega) (by omega) (by omega)
        have z2 := C2 (by omega) (by omega)
        have z3 := h1.le (p := s) (q := q - (e - m)) (by omega) (by omega) (by omega)
        omega
      · rw [g4 q (by omega)]
        exact h2 _ _ (by omega) (by omega) q4
/-- what lies between a and b is the same, but for the order -/
theorem SameD.all {H K : List Ld} {a b : Nat} (h : SameD H K a b) (hab : a ≤ b) (hb : b ≤ H.length) {P : Ld → Prop} (hP : ∀ k, a ≤ k → k < b → P (H.getD k ld0)) : ∀ k, a ≤ k → k < b → P (K.getD k ld0) := by
  have hl := h.len
  have e1 : K.take a = H.take a := List.ext_getElem? fun i => by
    rw [List.getElem?_take, List.getElem?_take]
    split
    · rename_i hi
      have := h.out i (.inl hi)
      rw [List.getD_eq_getElem?_getD, List.getD_eq_getElem?_getD, List.getElem?_eq_getElem (by omega), List.getElem?_eq_getElem (by omega)] at this
      rw [List.getElem?_eq_getElem (by omega), List.getElem?_eq_getElem (by omega)]
      exact congrArg some this
    · rfl
  have e2 : K.drop b = H.drop b := List.ext_getElem? fun i => by
    rw [List.getElem?_drop, List.getElem?_drop]
    by_cases hi : b + i < H.length
    · have := h.out (b + i) (.inr (by omega))
      rw [List.getD_eq_getElem?_getD, List.getD_eq_getElem?_getD, List.getElem?_eq_getElem (by omega), List.getElem?_eq_getElem (by omega)] at this
      rw [List.getElem?_eq_getElem (by omega), List.getElem?_eq_getElem (by omega)]
      exact congrArg some this
    · rw [List.getElem?_eq_none (by omega), List.getElem?_eq_none (by omega)]
  have sp : ∀ X : List Ld, X = X.take a ++ ((X.drop a).take (b - a) ++ X.drop b) := fun X => by
    have h1 : (X.drop a).drop (b - a) = X.drop b := by rw [List.drop_drop]; congr 1; omega
    rw [← h1, List.take_append_drop, List.take_append_drop]
  have hp := h.perm
  rw [sp K, sp H, e1, e2] at hp
  have hp := (List.perm_append_left_iff _).1 hp
  have hp := (List.perm_append_right_iff _).1 hp
  intro k k1 k2
  have hm : K.getD k ld0 ∈ (K.drop a).take (b - a) := by
    refine List.mem_of_getElem? (i := k - a) ?_
    rw [List.getElem?_take, if_pos (by omega), List.getElem?_drop, show a + (k - a) = k by omega, List.getD_eq_getElem?_getD, List.getElem?_eq_getElem (by omega)]
    rfl
  have hm := hp.mem_iff.1 hm
  obtain ⟨i, hi, e⟩ := List.getElem_of_mem hm
  have hi2 : i < b - a := by
    rw [List.length_take] at hi
    omega
  have e3 : H.getD (a + i) ld0 = K.getD k ld0 := by
    rw [← e, List.getD_eq_getElem?_getD, List.getElem?_eq_getElem (by omega), List.getElem_take, List.getElem_drop]
    rfl
  rw [← e3]
  exact hP (a + i) (by omega) (by omega)
/-- two halves are sorted one behind the other -/
theorem halves {K K1 K2 : List Ld} {a d b : Nat} (had : a ≤ d) (hdb : d ≤ b) (hb : b ≤ K.length) (cr : ∀ p q, a ≤ p → p < d → d ≤ q → q < b → (K.getD p ld0).fr ≤ (K.getD q ld0).fr)
    (h1 : SameD K K1 a d) (s1 : SrtD K1 a d) (h2 : SameD K1 K2 d b) (s2 : SrtD K2 d b) : SrtD K2 a b := by
  have c1 : ∀ p q, a ≤ p → p < d → d ≤ q → q < b → (K1.getD p ld0).fr ≤ (K1.getD q ld0).fr := fun p q k1 k2 k3 k4 => by
    rw [h1.out q (.inr k3)]
    exact h1.all had (by omega) (P := fun x => x.fr ≤ (K.getD q ld0).fr) (fun k z1 z2 => cr k q z1 z2 k3 k4) p k1 k2
  have c2 : ∀ p q, a ≤ p → p < d → d ≤ q → q < b → (K2.getD p ld0).fr ≤ (K2.getD q ld0).fr := fun p q k1 k2 k3 k4 => by
    rw [h2.out p (.inl k2)]
    exact h2.all hdb (by rw [h1.len]; exact hb) (P := fun x => (K1.getD p ld0).fr ≤ x.fr) (fun k z1 z2 => c1 p k k1 k2 z1 z2) q k3 k4
  have s1' : SrtD K2 a d := fun p q k1 k2 k3 => by
    rw [h2.out p (.inl (by omega)), h2.out q (.inl k3)]
    exact s1 p q k1 k2 k3
  exact SrtF.join (g := fun k => (K2.getD k ld0).fr) s1' s2 c2
end

section
set_option maxHeartbeats 16000000 in
theorem swr_any (g cap a b c n : Nat) (H : List Ld) (w : World) (hab : a + c ≤ b) (hb : b + c ≤ n) (hN : n = H.length) (hn : n ≤ 1000000) (h : RwD w g cap H) :
    Calls Try.prog 41 #[.slice (some ⟨g, 0, none⟩) n cap, .int .i64 (a : Nat), .int .i64 (b : Nat), .int .i64 (c : Nat), .func (.func 31) #[] #[]] w fun e w' => e = .returned (.tuple #[]) ∧ ∃ K, RwD w' g cap K ∧ K.Perm H ∧ (∀ k, K.getD k ld0 = swapF (fun k => H.getD k ld0) a b c k) ∧ w.grownBy w' (some g) := by
  have HW : Hid _ := h
  have HNN : Hid _ := hN
  have HAB : Hid (a + c ≤ b ∧ b + c ≤ n ∧ n ≤ 1000000) := ⟨hab, hb, hn⟩
  clear h hN hab hb hn
  go_enter Try.func41, Try.ntmps41
  go_wp2
  go_loopw [10] (fun v10 wr => ∃ (i : Nat) (K : List Ld), i ≤ c ∧ v10 = .int .i64 (i : Nat) ∧ Hid (RwD wr g cap K) ∧ Hid (K.Perm H) ∧ Hid (∀ k, K.getD k ld0 = swapF (fun k => H.getD k ld0) a b i k) ∧ Hid (w.grownBy wr (some g))) (fun v10 _ => c - (intOf v10).toNat)
  case atStart => exact ⟨0, H, Nat.zero_le _, rfl, HW.out, List.Perm.refl _, (fun k => (swapF_zero (fun k => H.getD k ld0) a b k).symm), World.grownBy.refl _ _⟩
  case round =>
    obtain ⟨i, K, hi, rfl, HKK, hp, hk, hg⟩ := hrel
    by_cases hlt : i < c
    · have lk : (i : Int) < (c : Int) := by omega
      have hab := HAB.out
      obtain ⟨X, hX⟩ : ∃ X, X = a + i := ⟨_, rfl⟩
      obtain ⟨Y, hY⟩ : ∃ Y, Y = b + i := ⟨_, rfl⟩
      have hXi : (a : Int) + (i : Int) = (X : Int) := by omega
      have hYi : (b : Int) + (i : Int) = (Y : Int) := by omega
      have hXn : (X : Int) < (n : Int) := by omega
      have hYn : (Y : Int) < (n : Int) := by omega
      have hwX : IntKind.i64.wrap (X : Int) = (X : Int) := wrap_inP _ (by omega) (by omega)
      have hwY : IntKind.i64.wrap (Y : Int) = (Y : Int) := wrap_inP _ (by omega) (by omega)
      have hi64 : (i : Int) ≤ 1000000 := by omega
      have hKl : K.length = n := by rw [hp.out.length_eq, HNN.out]
      have HXL : Hid (X < K.length) := by show X < K.length; omega
      have HYL : Hid (Y < K.length) := by show Y < K.length; omega
      have HXY : Hid (X = a + i ∧ Y = b + i ∧ i < c) := ⟨hX, hY, hlt⟩
      clear hX hY hKl hlt hi hab
      go_upto_region 3 with fail
      have Gd := grown_drew wr none
      have hd : RwD wr.drew g cap K := HKK.out.keep Gd (by simp)
      have hx := hd.range (i := X) HXL.out
      have hy := hd.range (i := Y) HYL.out
      obtain ⟨x, hX⟩ : ∃ x, x = K.getD X ld0 := ⟨_, rfl⟩
      obtain ⟨y, hY⟩ : ∃ y, y = K.getD Y ld0 := ⟨_, rfl⟩
      rw [← hX] at hx
      rw [← hY] at hy
      have HX : Hid _ := hX
      have HY : Hid _ := hY
      have HD : Hid _ := hd
      have HGd : Hid _ := Gd
      clear hX hY hd Gd
      refine wp_regionM (fun wz => wz = wr.drew) [21, 23] #[false, false, false, false, false, false, false, false, false, false, false, false, false, false, false, false, false, false, false, false, false, false, false, false] rfl (by kernel_rfl) ?_
      generalize wr.drew = wd at *
      refine wpAnyY_takeF 0 (.slice (some ⟨g, 0, none⟩) n cap) rfl (by kernel_rfl) (fun _ _ _ h => h) rfl (by intro wz; go_simp; try rfl) ?_
      try simp only [List.getElem_toArray, List.getElem_cons_succ, List.getElem_cons_zero, Act.put, List.setIfInBounds_toArray, List.set_cons_zero, List.set_cons_succ]
      refine wpAnyY_takeF 1 (.int .i64 (a : Nat)) rfl (by kernel_rfl) (fun _ _ _ h => h) rfl (by intro wz; go_simp; try rfl) ?_
      try simp only [List.getElem_toArray, List.getElem_cons_succ, List.getElem_cons_zero, Act.put, List.setIfInBounds_toArray, List.set_cons_zero, List.set_cons_succ]
      refine wpAnyY_takeF 2 (.int .i64 (i : Nat)) rfl (by kernel_rfl) (fun _ _ _ h => h) rfl (by intro wz; go_simp; try rfl) ?_
      try simp only [List.getElem_toArray, List.getElem_cons_succ, List.getElem_cons_zero, Act.put, List.setIfInBounds_toArray, List.set_cons_zero, List.set_cons_succ]
      refine wpAnyY_takeF 3 (.int .i64 (X : Nat)) rfl (by kernel_rfl) (fun _ _ _ h => h) rfl (by intro wz; go_simp; try rfl) ?_
      try simp only [List.getElem_toArray, List.getElem_cons_succ, List.getElem_cons_zero, Act.put, List.setIfInBounds_toArray, List.set_cons_zero, List.set_cons_succ]
      refine wpAnyY_takeF 4 (.slice (some ⟨g, 0, none⟩) n cap) rfl (by kernel_rfl) (fun _ _ _ h => h) rfl (by intro wz; go_simp; try rfl) ?_
      try simp only [List.getElem_toArray, List.getElem_cons_succ, List.getElem_cons_zero, Act.put, List.setIfInBounds_toArray, List.set_cons_zero, List.set_cons_succ]
      refine wpAnyY_takeF 5 (.int .i64 (b : Nat)) rfl (by kernel_rfl) (fun _ _ _ h => h) rfl (by intro wz; go_simp; try rfl) ?_
      try simp only [List.getElem_toArray, List.getElem_cons_succ, List.getElem_cons_zero, Act.put, List.setIfInBounds_toArray, List.set_cons_zero, List.set_cons_succ]
      refine wpAnyY_takeF 6 (.int .i64 (i : Nat)) rfl (by kernel_rfl) (fun _ _ _ h => h) rfl (by intro wz; go_simp; try rfl) ?_
      try simp only [List.getElem_toArray, List.getElem_cons_succ, List.getElem_cons_zero, Act.put, List.setIfInBounds_toArray, List.set_cons_zero, List.set_cons_succ]
      refine wpAnyY_takeF 7 (.int .i64 (Y : Nat)) rfl (by kernel_rfl) (fun _ _ _ h => h) rfl (by intro wz; go_simp; try rfl) ?_
      try simp only [List.getElem_toArray, List.getElem_cons_succ, List.getElem_cons_zero, Act.put, List.setIfInBounds_toArray, List.set_cons_zero, List.set_cons_succ]
      refine wpAnyY_takeF 8 (.slice (some ⟨g, 0, none⟩) n cap) rfl (by kernel_rfl) (fun _ _ _ h => h) rfl (by intro wz; go_simp; try rfl) ?_
      try simp only [List.getElem_toArray, List.getElem_cons_succ, List.getElem_cons_zero, Act.put, List.setIfInBounds_toArray, List.set_cons_zero, List.set_cons_succ]
      refine wpAnyY_takeF 9 (.int .i64 (b : Nat)) rfl (by kernel_rfl) (fun _ _ _ h => h) rfl (by intro wz; go_simp; try rfl) ?_
      try simp only [List.getElem_toArray, List.getElem_cons_succ, List.getElem_cons_zero, Act.put, List.setIfInBounds_toArray, List.set_cons_zero, List.set_cons_succ]
      refine wpAnyY_takeF 10 (.int .i64 (i : Nat)) rfl (by kernel_rfl) (fun _ _ _ h => h) rfl (by intro wz; go_simp; try rfl) ?_
      try simp only [List.getElem_toArray, List.getElem_cons_succ, List.getElem_cons_zero, Act.put, List.setIfInBounds_toArray, List.set_cons_zero, List.set_cons_succ]
      refine wpAnyY_takeF 11 (.int .i64 (Y : Nat)) rfl (by kernel_rfl) (fun _ _ _ h => h) rfl (by intro wz; go_simp; try rfl) ?_
      try simp only [List.getElem_toArray, List.getElem_cons_succ, List.getElem_cons_zero, Act.put, List.setIfInBounds_toArray, List.set_cons_zero, List.set_cons_succ]
      refine wpAnyY_takeF 12 (.pointer (some ⟨g, Y * 4, none⟩)) rfl (by kernel_rfl) (fun _ _ _ h => h) rfl (by intro wz; go_simp; try rfl) ?_
      try simp only [List.getElem_toArray, List.getElem_cons_succ, List.getElem_cons_zero, Act.put, List.setIfInBounds_toArray, List.set_cons_zero, List.set_cons_succ]
      refine wpAnyY_take [21, 23] 13 (.agg #[.int .i64 (y.pl : Int), .int .i64 (y.fr : Int), .int .i64 (y.by' : Int), .int .i64 (y.lf : Int)]) rfl (by kernel_rfl) (fun _ _ _ h => h) rfl rfl (fun wz hz => by subst hz; exact ldMR rfl rfl hy Try.underlying55 rfl (by rw [Try.info_ld]; rfl)) ?_
      try simp only [List.getElem_toArray, List.getElem_cons_succ, List.getElem_cons_zero, Act.put, List.setIfInBounds_toArray, List.set_cons_zero, List.set_cons_succ]
      refine wpAnyY_takeF 14 (.slice (some ⟨g, 0, none⟩) n cap) rfl (by kernel_rfl) (fun _ _ _ h => h) rfl (by intro wz; go_simp; try rfl) ?_
      try simp only [List.getElem_toArray, List.getElem_cons_succ, List.getElem_cons_zero, Act.put, List.setIfInBounds_toArray, List.set_cons_zero, List.set_cons_succ]
      refine wpAnyY_takeF 15 (.int .i64 (a : Nat)) rfl (by kernel_rfl) (fun _ _ _ h => h) rfl (by intro wz; go_simp; try rfl) ?_
      try simp only [List.getElem_toArray, List.getElem_cons_succ, List.getElem_cons_zero, Act.put, List.setIfInBounds_toArray, List.set_cons_zero, List.set_cons_succ]
      refine wpAnyY_takeF 16 (.int .i64 (i : Nat)) rfl (by kernel_rfl) (fun _ _ _ h => h) rfl (by intro wz; go_simp; try rfl) ?_
      try simp only [List.getElem_toArray, List.getElem_cons_succ, List.getElem_cons_zero, Act.put, List.setIfInBounds_toArray, List.set_cons_zero, List.set_cons_succ]
      refine wpAnyY_takeF 17 (.int .i64 (X : Nat)) rfl (by kernel_rfl) (fun _ _ _ h => h) rfl (by intro wz; go_simp; try rfl) ?_
      try simp only [List.getElem_toArray, List.getElem_cons_succ, List.getElem_cons_zero, Act.put, List.setIfInBounds_toArray, List.set_cons_zero, List.set_cons_succ]
      refine wpAnyY_takeF 18 (.pointer (some ⟨g, X * 4, none⟩)) rfl (by kernel_rfl) (fun _ _ _ h => h) rfl (by intro wz; go_simp; try rfl) ?_
      try simp only [List.getElem_toArray, List.getElem_cons_succ, List.getElem_cons_zero, Act.put, List.setIfInBounds_toArray, List.set_cons_zero, List.set_cons_succ]
      refine wpAnyY_take [21, 23] 19 (.agg #[.int .i64 (x.pl : Int), .int .i64 (x.fr : Int), .int .i64 (x.by' : Int), .int .i64 (x.lf : Int)]) rfl (by kernel_rfl) (fun _ _ _ h => h) rfl rfl (fun wz hz => by subst hz; exact ldMR rfl rfl hx Try.underlying55 rfl (by rw [Try.info_ld]; rfl)) ?_
      try simp only [List.getElem_toArray, List.getElem_cons_succ, List.getElem_cons_zero, Act.put, List.setIfInBounds_toArray, List.set_cons_zero, List.set_cons_succ]
      refine wpAnyY_takeF 20 (.pointer (some ⟨g, X * 4, none⟩)) rfl (by kernel_rfl) (fun _ _ _ h => h) rfl (by intro wz; go_simp; try rfl) ?_
      try simp only [List.getElem_toArray, List.getElem_cons_succ, List.getElem_cons_zero, Act.put, List.setIfInBounds_toArray, List.set_cons_zero, List.set_cons_succ]
      refine wpAnyY_oneB 21 rfl (by kernel_rfl) (fun KK hKK => ?_)
      refine step_of_listR rfl (wpList_stD rfl (.tmp 36) (.tmp 29) rfl g cap (X) K y rfl rfl HD.out HXL.out ?_)
      intro w1 hd1 g1
      have HD1 : Hid _ := hd1
      clear hd1
      refine wpList_nil ?_
      show KK _ _
      refine hKK _ _ (fun _ h => absurd (by decide) h) ?_
      try simp only [List.getElem_toArray, List.getElem_cons_succ, List.getElem_cons_zero, Act.put, List.setIfInBounds_toArray, List.set_cons_zero, List.set_cons_succ]
      refine wpAnyY_takeF 22 (.pointer (some ⟨g, Y * 4, none⟩)) rfl (by kernel_rfl) (fun _ _ _ h => h) rfl (by intro wz; go_simp; try rfl) ?_
      try simp only [List.getElem_toArray, List.getElem_cons_succ, List.getElem_cons_zero, Act.put, List.setIfInBounds_toArray, List.set_cons_zero, List.set_cons_succ]
      refine wpAnyY_oneB 23 rfl (by kernel_rfl) (fun KK hKK => ?_)
      refine step_of_listR rfl (wpList_stD rfl (.tmp 37) (.tmp 35) rfl g cap (Y) (K.set X y) x rfl rfl HD1.out (by rw [List.length_set]; exact HYL.out) ?_)
      intro w2 hd2 g2
      have HD2 : Hid _ := hd2
      clear hd2
      refine wpList_nil ?_
      show KK _ _
      refine hKK _ _ (fun _ h => absurd (by decide) h) ?_
      try simp only [List.getElem_toArray, List.getElem_cons_succ, List.getElem_cons_zero, Act.put, List.setIfInBounds_toArray, List.set_cons_zero, List.set_cons_succ]
      refine wpAnyY_doneB (by kernel_rfl) ?_ _
      (try simp only [Exit.then, Exit.inBlock])
      have e2 : swL ld0 K (X) (Y) = (K.set (X) y).set (Y) x := by unfold swL; rw [HX.out, HY.out]
      have HF : Hid (RwD w2 g cap (swL ld0 K (X) (Y))) := by show _; rw [e2]; exact HD2.out
      have HG2 : Hid (wr.grownBy w2 (some g)) := (grown_weak HGd.out _).trans (g1.trans g2)
      clear e2 hx hy g1 g2
      go_wp2
      refine ⟨⟨i + 1, swL ld0 K X Y, HXY.out.2.2, by go_num, HF.out, (swL_perm ld0 K X Y HXL.out HYL.out).trans hp.out, fun k => ?_, hg.out.trans HG2.out⟩, by have := HXY.out; simp [intOf] <;> omega⟩
      obtain ⟨e1, e2, e3⟩ := HXY.out
      have hab := HAB.out
      rw [swL_get ld0 K X Y k HXL.out HYL.out, hk.out X, hk.out Y, hk.out k, ← swapF_step _ _ _ _ _ (by omega), e1, e2]
    · obtain rfl : i = c := by omega
      have lk : ¬ (i : Int) < (i : Int) := by omega
      go_wp2
      go_end0
      exact ⟨rfl, K, HKK.out, hp.out, hk.out, hg.out⟩
set_option maxHeartbeats 16000000 in
theorem rot_any (g cap a m b n : Nat) (H : List Ld) (w : World) (ham : a < m) (hmb : m < b) (hb : b ≤ n) (hN : n = H.length) (hn : n ≤ 1000000) (h : RwD w g cap H) :
    Calls Try.prog 40 #[.slice (some ⟨g, 0, none⟩) n cap, .int .i64 (a : Nat), .int .i64 (m : Nat), .int .i64 (b : Nat), .func (.func 31) #[] #[]] w fun e w' => e = .returned (.tuple #[]) ∧ ∃ K, RwD w' g cap K ∧ K.Perm H ∧ (∀ k, K.getD k ld0 = rotF (fun k => H.getD k ld0) a m b k) ∧ w.grownBy w' (some g) := by
  have HW : Hid _ := h
  have HNN : Hid _ := hN
  obtain ⟨i0, hi0⟩ : ∃ i0, i0 = m - a := ⟨_, rfl⟩
  obtain ⟨j0, hj0⟩ : ∃ j0, j0 = b - m := ⟨_, rfl⟩
  have d1 : (m : Int) - (a : Int) = (i0 : Int) := by omega
  have d2 : (b : Int) - (m : Int) = (j0 : Int) := by omega
  have HB : Hid (a < m ∧ m < b ∧ b ≤ n ∧ n ≤ 1000000 ∧ i0 = m - a ∧ j0 = b - m) := ⟨ham, hmb, hb, hn, hi0, hj0⟩
  have hm6 : (m : Int) ≤ 1000000 := by omega
  have hi6 : (i0 : Int) ≤ 1000000 := by omega
  have hj6 : (j0 : Int) ≤ 1000000 := by omega
  clear h hN ham hmb hb hn hi0 hj0
  go_enter Try.func40, Try.ntmps40
  refine wp_seq_k fun K0 hK0 => ?_
  have HK0 : Hid _ := hK0
  clear hK0
  go_wp2
  refine HK0.out _ _ ?_
  clear HK0
  refine wp_seq_k fun K1 hK1 => ?_
  have HK1 : Hid _ := hK1
  clear hK1
  go_wp2
  refine HK1.out _ _ ?_
  clear HK1
  refine wp_seq_k fun K2 hK2 => ?_
  have HK2 : Hid _ := hK2
  clear hK2
  refine wp_block ?_
  go_loopw [10, 11] (fun v10 v11 wr => ∃ (i j : Nat) (K : List Ld), 0 < i ∧ 0 < j ∧ i ≤ i0 ∧ j ≤ j0 ∧ v10 = .int .i64 (i : Nat) ∧ v11 = .int .i64 (j : Nat) ∧ Hid (RwD wr g cap K) ∧ Hid (K.Perm H) ∧ Hid (∀ k, rotF (fun k => K.getD k ld0) (m - i) m (m + j) k = rotF (fun k => H.getD k ld0) a m b k) ∧ Hid (w.grownBy wr (some g))) (fun v10 v11 _ => (intOf v10).toNat + (intOf v11).toNat)
  case atStart =>
    obtain ⟨q1, q2, q3, q4, q5, q6⟩ := HB.out
    refine ⟨i0, j0, H, by omega, by omega, Nat.le_refl _, Nat.le_refl _, rfl, rfl, HW.out, List.Perm.refl _, fun k => ?_, World.grownBy.refl _ _⟩
    rw [show m - i0 = a by omega, show m + j0 = b by omega]
  case round =>
    obtain ⟨i, j, K, hi, hj, hii, hjj, rfl, rfl, HKK, hp, hk, hg⟩ := hrel
    have hlK : n = K.length := by rw [HNN.out, hp.out.length_eq]
    obtain ⟨q1, q2, q3, q4, q5, q6⟩ := HB.out
    obtain ⟨s, hs⟩ : ∃ s, s = m - i := ⟨_, rfl⟩
    have hsi : (m : Int) - (i : Int) = (s : Int) := by omega
    have hi6' : (i : Int) ≤ 1000000 := by omega
    have hj6' : (j : Int) ≤ 1000000 := by omega
    by_cases he : i = j
    · subst he
      have S0 := fun wz hz => swr_any g cap s m i n K wz (by omega) (by omega) hlK q4 hz
      have heb : ((i : Int) == (i : Int)) = true := by simp
      have HS : Hid _ := hs
      have HL : Hid _ := S0
      clear hs S0 q1 q2 q3 q4 q5 q6 hlK hi hj hii hjj
      go_wp2
      (try simp only [Exit.inBlock, Exit.then])
      refine HK2.out _ _ ?_
      have S1 := HL.out wr HKK.out
      go_wp2_with (go_at_call 41; refine S1.mono ?_; rintro e w9 ⟨rfl, K9, hR9, hP9, hK9, hG9⟩)
      go_end0
      refine ⟨rfl, K9, hR9, hP9.trans hp.out, fun k => ?_, hg.out.trans hG9⟩
      have := HS.out
      obtain ⟨q1, q2, q3, q4, q5, q6⟩ := HB.out
      rw [hK9 k, ← hk.out k, this]
      exact rot_eq _ m i k (by omega)
    · have hne : ((i : Int) == (j : Int)) = false := by
        have : ¬ (i : Int) = (j : Int) := by omega
        exact beq_eq_false_iff_ne.2 this
      by_cases hgt : j < i
      · have lk : (j : Int) < (i : Int) := by omega
        have S1 := swr_any g cap s m j n K wr (by omega) (by omega) hlK q4 HKK.out
        obtain ⟨i2, hi2⟩ : ∃ i2, i2 = i - j := ⟨_, rfl⟩
        have d3 : (i : Int) - (j : Int) = (i2 : Int) := by omega
        have HQ : Hid (s = m - i ∧ i2 = i - j ∧ j < i ∧ 0 < j ∧ i ≤ i0 ∧ j ≤ j0) := ⟨hs, hi2, hgt, hj, hii, hjj⟩
        clear hs hi2 q1 q2 q3 q4 q5 q6 hlK hi hj hii hjj he hgt
        go_wp2_with (go_at_call 41; refine S1.mono ?_; rintro e w9 ⟨rfl, K9, hR9, hP9, hK9, hG9⟩)
        obtain ⟨e1, e2, e3, e4, e5, e6⟩ := HQ.out
        obtain ⟨q1, q2, q3, q4, q5, q6⟩ := HB.out
        refine ⟨⟨i2, j, K9, by omega, e4, by omega, e6, rfl, rfl, hR9, hP9.trans hp.out, fun k => ?_, hg.out.trans hG9⟩, by simp [intOf] <;> omega⟩
        rw [rotF_congr hK9, ← hk.out k, e1, e2]
        exact rot_gt _ m i j k e3 (by omega)
      · have lk : ¬ (j : Int) < (i : Int) := by omega
        obtain ⟨y, hy⟩ : ∃ y, y = m + j - i := ⟨_, rfl⟩
        obtain ⟨z, hz⟩ : ∃ z, z = m + j := ⟨_, rfl⟩
        have d4 : (m : Int) + (j : Int) = (z : Int) := by omega
        have d5 : (z : Int) - (i : Int) = (y : Int) := by omega
        have hz6 : (z : Int) ≤ 2000000 := by omega
        have S1 := swr_any g cap s y i n K wr (by omega) (by omega) hlK q4 HKK.out
        obtain ⟨j2, hj2⟩ : ∃ j2, j2 = j - i := ⟨_, rfl⟩
        have d3 : (j : Int) - (i : Int) = (j2 : Int) := by omega
        have HQ : Hid (s = m - i ∧ j2 = j - i ∧ i < j ∧ 0 < i ∧ i ≤ i0 ∧ j ≤ j0 ∧ y = m + j - i) := ⟨hs, hj2, by omega, hi, hii, hjj, hy⟩
        clear hs hj2 hy hz q1 q2 q3 q4 q5 q6 hlK hi hj hii hjj he hgt
        go_wp2_with (go_at_call 41; refine S1.mono ?_; rintro e w9 ⟨rfl, K9, hR9, hP9, hK9, hG9⟩)
        obtain ⟨e1, e2, e3, e4, e5, e6, e7⟩ := HQ.out
        obtain ⟨q1, q2, q3, q4, q5, q6⟩ := HB.out
        refine ⟨⟨i, j2, K9, e4, by omega, e5, by omega, rfl, rfl, hR9, hP9.trans hp.out, fun k => ?_, hg.out.trans hG9⟩, by simp [intOf] <;> omega⟩
        rw [rotF_congr hK9, ← hk.out k, e1, e2, e7]
        exact rot_lt _ m i j k e3 (by omega)
end
end Go.Proofs.Ytnjdbbjhplebhaa
