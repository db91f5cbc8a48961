import Derived.Test.YtlmddjkplnbadaaNOn1
import Derived.Test.YtlmddjkplnbadaaKxOw
namespace Go.Proofs.Ytlmddjkplnbadaa
open Go.RowKit
set_option maxRecDepth 100000
set_option linter.unusedVariables false
set_option linter.unusedSimpArgs false

/-- seven ears of which the first k expect any number -/
def eaX (k i : Nat) : Value := .int .i64 (if i < k then -1 else 0)
def eaA (k : Nat) : Array Value := #[eaX k 0, .slice none 0 0, eaX k 1, .slice none 0 0, eaX k 2, .slice none 0 0, eaX k 3, .slice none 0 0, eaX k 4, .slice none 0 0, eaX k 5, .slice none 0 0, eaX k 6, .slice none 0 0]
theorem eaA_set (k : Nat) (h : k < 7) : (eaA k).set! (k * 2) (.int .i64 (-1)) = eaA (k + 1) := by
  obtain (rfl | rfl | rfl | rfl | rfl | rfl | rfl) : k = 0 ∨ k = 1 ∨ k = 2 ∨ k = 3 ∨ k = 4 ∨ k = 5 ∨ k = 6 := by omega
  all_goals rfl
theorem er0_rd {w : World} {g : Nat} (h : BxS w g 68 (eaA 7)) : RdE w (some ⟨g, 0, none⟩) 7 7 (fun _ => er0) := by
  refine ⟨Nat.le_refl _, by decide, fun _ => ⟨g, 0, rfl, h.lt, fun i hi => ?_⟩, fun i hi => ⟨rfl, Nat.le_refl _, Nat.zero_le _, fun _ => rfl, (fun x hx => by cases hx), fun h => absurd h (by decide)⟩⟩
  rw [Nat.zero_add]
  obtain (rfl | rfl | rfl | rfl | rfl | rfl | rfl) : i = 0 ∨ i = 1 ∨ i = 2 ∨ i = 3 ∨ i = 4 ∨ i = 5 ∨ i = 6 := by omega
  all_goals exact ⟨h.cell _ (by decide), h.cell _ (by decide)⟩
def ze : Value := .agg #[.int .i64 0, .slice none 0 0]
theorem Try.info_ea : (Try.prog.info? 68).map (fun i => (i.zero, i.size, i.bytes)) = some (some ze, 2, 32) := by kernel_rfl
theorem made_e : (madeCells ze.cells (7 * 2)) = eaA 0 := by kernel_rfl
/-- 'make([]api.Ear, 7)' -/
theorem wpList_mkE (w : World) {ops : Array Oper} {rest : List Oper} {o : Oper} {a : Act} {Q : Exit → Act → World → Prop} (hg : o.guard = none) (l c : Operand)
    (hop : o.op = Op.makeSlice 41 l c) (hl : a.eval l = .int .i64 7) (hc : a.eval c = .int .i64 7)
    (hK : ∀ w', BxS w' w.heap.size 68 (eaA 0) → w.grownBy w' none → wpList Try.prog ops Q rest (a.put o.dst (.slice (some ⟨w.heap.size, 0, none⟩) 7 7)) w') :
    wpList Try.prog ops Q (o :: rest) a w := by
  obtain ⟨i0, hi, hz0, hz1, hz2⟩ := info_parts Try.info_ea
  refine wpList_make_full w hg l c 41 hop w.heap.size 68 i0 ze 2 Try.underlying41 hi hz0 hz1 .i64 .i64 7 7 7 hl hc rfl rfl (by rw [hz2]; omega) (by decide) (Nat.le_refl _) ?_
  intro w' hown hgr
  refine hK w' ?_ hgr
  rcases hown.2 with ⟨h, _⟩ | ⟨g, cap, cur, hv, _, hh, h1, _, h3, h4⟩
  · simp at h
  · simp only [Value.slice.injEq, Option.some.injEq, Addr.mk.injEq] at hv
    obtain ⟨⟨hgg, _⟩, _, hcap⟩ := hv
    subst hgg; subst hcap
    unfold BxS
    rw [hh]
    have e1 : cur.toList = (eaA 0).toList := by
      rw [← made_e, ← h4, List.take_of_length_le (by simp; omega)]
    rw [Array.toList_inj.1 e1]
theorem BxS.st4 {w : World} {g : Nat} {t : TypeId} {A : Array Value} (h : BxS w g t A) (i : Nat) (hi : i < A.size) (v : Value) : ∃ u, w.cell? ⟨g, i, none⟩ = some u := ⟨A[i], h.cell i hi⟩
set_option maxHeartbeats 4000000 in
theorem listen_any (cr sz : Int) (w : World) : Calls Try.prog 24 #[.int .i64 cr, .int .i64 sz] w fun e w' => ∃ a c, e = .returned (.tuple #[.agg (liA (opX cr sz cr) (opX cr sz sz) (opX cr sz (-1)) a (opN cr sz) c), .int .i64 (opE cr sz : Nat)]) ∧ RdE w' a (opN cr sz) c (fun _ => er0) ∧ w.grownBy w' none := by
  have h0 := fun wz => fwrong_any cr sz wz
  have b0 := BxS.new w 43 (liA 0 0 0 none 0 0)
  have g0 := World.grownBy_alloc w (.cells (liA 0 0 0 none 0 0) 43) none
  have i4 := Try.info_li
  unfold opX opN
  unfold liA at b0 g0 ⊢
  generalize hw0 : w.alloc (.cells #[.int .i64 0, .int .i64 0, .int .i64 0, .slice none 0 0] 43) = w0 at b0 g0
  have t1 : True := trivial
  by_cases hE : opE cr sz = 0
  · rw [hE] at h0 ⊢
    rw [if_pos rfl, if_pos rfl, if_pos rfl, if_pos rfl]
    go_enter Try.func24, Try.ntmps24
    go_wp2_with (first
      | (go_at_call 51; have _t := t1; clear t1; refine (h0 _).mono ?_; rintro e wx ⟨rfl, hw⟩; have hw := hw.symm; subst hw; have t2 : True := trivial)
      | (at_make; have _t := t2; clear t2; refine wpList_mkE _ rfl _ _ rfl rfl rfl ?_; intro w2 q2 g2; have b2 := b0.keep g2 (by simp); have p3 := BxS.new w2 43 #[.int .i64 cr, .int .i64 sz, .int .i64 (-1), .slice (some ⟨w0.heap.size, 0, none⟩) 7 7]; have gA := World.grownBy_alloc w2 (.cells #[.int .i64 cr, .int .i64 sz, .int .i64 (-1), .slice (some ⟨w0.heap.size, 0, none⟩) 7 7] 43) none; generalize hw3 : w2.alloc (.cells #[.int .i64 cr, .int .i64 sz, .int .i64 (-1), .slice (some ⟨w0.heap.size, 0, none⟩) 7 7] 43) = w3 at p3 gA; have q3 := q2.keep gA (by simp); have b3 := b2.keep gA (by simp); obtain ⟨c0, c1, c2, c3⟩ := p3.cell4))
    have l0 := b0.lt
    have l2 := q2.lt
    clear c0 c1 c2 c3
    go_loopw [23] (fun i wr => ∃ k : Nat, k ≤ 7 ∧ i = .int .i64 k ∧ BxS wr w0.heap.size 68 (eaA k) ∧ w3.grownBy wr (some w0.heap.size)) (fun i _ => 7 - (intOf i).toNat)
    case atStart => exact ⟨0, by omega, rfl, q3, World.grownBy.refl _ _⟩
    case round =>
      obtain ⟨k, hk, rfl, hq, hgr⟩ := hrel
      have p4 := p3.keep hgr (by simp; omega)
      obtain ⟨c0, c1, c2, c3⟩ := p4.cell4
      by_cases hlt : k < 7
      · obtain ⟨u, hu⟩ := BxS.st4 hq (k * 2) (by show k * 2 < 14; omega) (.int .i64 0)
        have hf := hq.free (k * 2)
        have hS := hq.set (k * 2) (.int .i64 (-1))
        rw [eaA_set k hlt] at hS
        have hS : Hid _ := hS
        have gS : Hid _ := grown_set wr w0.heap.size (k * 2) (.int .i64 (-1))
        have l1 : (k : Int) < 7 := by omega
        go_wp2
        go_roundw
        case rel => exact ⟨k + 1, by omega, by go_num, hS.out, grown_trans hgr gS.out⟩
        case measure => simp [intOf]; omega
      · obtain rfl : k = 7 := by omega
        have b4 := b3.keep hgr (by simp; omega)
        have t3 : True := trivial
        go_wp2_with (first
          | (have _t := t3; refine wpList_stX _ rfl _ (.tmp 4) (.tmp 32) rfl w.heap.size _ _ rfl rfl b4 i4 rfl (by simp [Value.oneCell']) ?_; clear t3; intro w9 b9 g9))
        refine bodyPost_ret (results_cell1t rfl _ _ _ ⟨w.heap.size, 0, none⟩ _ (.int .i64 0) rfl (BxS.load (t := 43) b9 Try.underlying43 Try.info_li) rfl) rfl ?_
        exact ⟨_, _, rfl, er0_rd (hq.keep g9 (by simp; omega)), grown_far (grown_far (grown_trans (grown_trans g0 g2) gA) hgr (fun q e => by cases e; omega)) g9 (fun q e => by cases e; exact Nat.le_refl _)⟩
  · rw [if_neg hE, if_neg hE, if_neg hE, if_neg hE]
    generalize opE cr sz = E at h0 hE ⊢
    have hne : (((E : Int) != 0) : Bool) = true := by simp; omega
    go_enter Try.func24, Try.ntmps24
    go_wp2_with (first
      | (go_at_call 51; have _t := t1; clear t1; refine (h0 _).mono ?_; rintro e wx ⟨rfl, hw⟩; have hw := hw.symm; subst hw; have t2 : True := trivial)
      | (have _t := t2; refine wpList_stX _ rfl _ (.tmp 4) (.tmp 14) rfl w.heap.size _ _ rfl rfl b0 i4 rfl (by simp [Value.oneCell']) ?_; clear t2; intro w9 b9 g9))
    refine bodyPost_ret (results_cell1t rfl _ _ _ ⟨w.heap.size, 0, none⟩ _ (.int .i64 (E : Int)) rfl (BxS.load (t := 43) b9 Try.underlying43 Try.info_li) rfl) rfl ?_
    exact ⟨none, 0, rfl, ⟨Nat.le_refl _, Nat.zero_le _, fun h => absurd h (by decide), fun i h => absurd h (by omega)⟩, grown_far g0 g9 (fun q e => by cases e; exact Nat.le_refl _)⟩
/-- ears, cell by cell -/
def flE : Nat → List Value
  | 0 => []
  | k + 1 => flE k ++ [.int .i64 (-1), .slice none 0 0]
theorem flE_len (k : Nat) : (flE k).length = k * 2 := by
  induction k with
  | zero => rfl
  | succ k ih => show (flE k ++ _).length = _; rw [List.length_append, ih]; show k * 2 + 2 = _; omega
theorem two_cellsE (w : World) (t : TypeId) (a b : Value) : ∀ j u, [a, b][j]? = some u → (w.alloc (.cells #[a, b] t)).cell? ((⟨w.heap.size, 0, none⟩ : Addr).add j) = some u := by
  intro j u h
  rw [addr_ad, Nat.zero_add]
  match j with
  | 0 => rw [← h]; exact (BxS.new w t #[a, b]).cell 0 (by show 0 < 2; decide)
  | 1 => rw [← h]; exact (BxS.new w t #[a, b]).cell 1 (by show 1 < 2; decide)
  | j + 2 => simp at h
theorem flE_rd {w : World} {a : Option Addr} {c : Nat} (h : w.ownsRow 0 68 2 (.slice a 7 c) 7 (flE 7)) : RdE w a 7 c (fun _ => er0) := by
  rcases h.2 with ⟨h1, _⟩ | ⟨g, cap, cur, hv, _, hh, h1, h2, h3, h4⟩
  · simp at h1
  · have hv' := hv
    simp only [Value.slice.injEq] at hv'
    obtain ⟨rfl, _, rfl⟩ := hv'
    refine ⟨h1, h2, fun _ => ⟨g, 0, rfl, (Array.getElem?_eq_some_iff.1 hh).1, fun i hi => ?_⟩, fun i hi => ⟨rfl, Nat.le_refl _, Nat.zero_le _, fun _ => rfl, (fun x hx => by cases hx), fun h => absurd h (by decide)⟩⟩
    have e1 := h.cells (g := g) rfl (i * 2) (.int .i64 (-1))
    have e2 := h.cells (g := g) rfl (i * 2 + 1) (.slice none 0 0)
    rw [addr_ad] at e1 e2
    rw [Nat.add_assoc]
    obtain (rfl | rfl | rfl | rfl | rfl | rfl | rfl) : i = 0 ∨ i = 1 ∨ i = 2 ∨ i = 3 ∨ i = 4 ∨ i = 5 ∨ i = 6 := by omega
    all_goals exact ⟨e1 rfl, e2 rfl⟩
set_option maxHeartbeats 8000000 in
theorem rlisten_any (cr sz : Int) (w : World) : Calls Try.prog 22 #[.int .i64 cr, .int .i64 sz] w fun e w' => ∃ a c, e = .returned (.tuple #[.agg (liA (opX cr sz cr) (opX cr sz sz) (opX cr sz (-1)) a (opN cr sz) c), .int .i64 (opE cr sz : Nat)]) ∧ RdE w' a (opN cr sz) c (fun _ => er0) ∧ w.grownBy w' none := by
  have h0 := fun wz => ropens_any cr sz wz
  have b0 := BxS.new w 43 (liA 0 0 0 none 0 0)
  have g0 := World.grownBy_alloc w (.cells (liA 0 0 0 none 0 0) 43) none
  have i4 := Try.info_li
  obtain ⟨i0, hi, hz0, hz1, hz2⟩ := info_parts Try.info_ea
  unfold opX opN
  unfold liA at b0 g0 ⊢
  generalize hw0 : w.alloc (.cells #[.int .i64 0, .int .i64 0, .int .i64 0, .slice none 0 0] 43) = w0 at b0 g0
  have t1 : True := trivial
  by_cases hE : opE cr sz = 0
  · rw [hE] at h0 ⊢
    rw [if_pos rfl, if_pos rfl, if_pos rfl, if_pos rfl]
    have p3 := BxS.new w0 43 #[.int .i64 cr, .int .i64 sz, .int .i64 (-1), .slice none 0 0]
    have gA := World.grownBy_alloc w0 (.cells #[.int .i64 cr, .int .i64 sz, .int .i64 (-1), .slice none 0 0] 43) none
    go_enter Try.func22, Try.ntmps22
    go_wp2_with (first
      | (go_at_call 50; have _t := t1; clear t1; refine (h0 _).mono ?_; rintro e wx ⟨rfl, hw⟩; have hw := hw.symm; subst hw))
    generalize w0.alloc (.cells #[.int .i64 cr, .int .i64 sz, .int .i64 (-1), .slice none 0 0] 43) = w3 at p3 gA ⊢
    have b3 := b0.keep gA (by simp)
    have l0 := b0.lt
    have l3 := p3.lt
    go_loopw [8] (fun i wr => ∃ (k : Nat) (a : Option Addr) (c : Nat), k ≤ 7 ∧ i = .int .i64 k ∧ BxS wr w0.heap.size 43 #[.int .i64 cr, .int .i64 sz, .int .i64 (-1), .slice a k c] ∧ wr.ownsRow 0 68 2 (.slice a k c) k (flE k) ∧ (∀ q, (Value.slice a k c).ownBlock = some q → w3.heap.size ≤ q) ∧ w3.grownBy wr (some w0.heap.size)) (fun i _ => 7 - (intOf i).toNat)
    case atStart => exact ⟨0, none, 0, by omega, rfl, p3, World.ownsRow_nil _ _ _ _, fun q h => by simp [Value.ownBlock] at h, World.grownBy.refl _ _⟩
    case round =>
      obtain ⟨k, a, c, hk, rfl, hq, ho, hn, hgr⟩ := hrel
      obtain ⟨c0, c1, c2, c3⟩ := hq.cell4
      by_cases hlt : k < 7
      · have l1 : (k : Int) ≤ 6 := by omega
        have gB := World.grownBy_alloc wr (.cells #[.int .i64 (-1), .slice none 0 0] 68) none
        have hoB := ho.alloc (.cells #[.int .i64 (-1), .slice none 0 0] 68)
        have hz := hgr.size
        go_wp2_with (first
          | (at_builtin; refine wpList_apS _ rfl _ _ 41 68 i0 ze 2 32 Try.underlying41 hi hz0 hz1 hz2 rfl (by decide) rfl (.slice a k c) k _ rfl hoB ⟨wr.heap.size, 0, none⟩ 1 1 [.int .i64 (-1), .slice none 0 0] rfl rfl (two_cellsE wr _ _ _) (by simp [Value.oneCell']) (by decide) (by unfold maxLen; omega) (by omega) ?_; intro gx cx w5 hgx hG5 hown5; have q5 := (hq.keep gB (by simp)).keep hG5 (by intro e; have := hn _ e.symm; omega); obtain ⟨x0, x1, x2, x3⟩ := q5.cell4; have f3 := q5.free 3; have q6 := q5.set 3 (.slice (some ⟨gx, 0, none⟩) (k + 1) cx)))
        have hx3 : w3.heap.size ≤ gx := by
          rcases hgx with h | h
          · exact hn gx h
          · have : wr.heap.size ≤ gx := Nat.le_trans gB.size h
            omega
        have hne : (Value.slice (some ⟨gx, 0, none⟩) (k + 1) cx).ownBlock ≠ some w0.heap.size := by simp [Value.ownBlock]; omega
        have GX := grown_trans (grown_mine (grown_mine hgr gB (fun q e => by cases e)) hG5 (fun q e => .inr (hn q e))) (grown_set w5 w0.heap.size 3 (.slice (some ⟨gx, 0, none⟩) (k + 1) cx))
        have ho6 := hown5.kept (grown_set w5 w0.heap.size 3 (.slice (some ⟨gx, 0, none⟩) (k + 1) cx)) (.inr hne)
        go_roundw
        case rel => exact ⟨k + 1, _, cx, by omega, by go_num, q6, ho6, fun q e => by have e' : gx = q := Option.some.inj e; omega, GX⟩
        case measure => simp [intOf]; omega
      · obtain rfl : k = 7 := by omega
        have b4 := b3.keep hgr (by simp; omega)
        have t3 : True := trivial
        go_wp2_with (first
          | (have _t := t3; refine wpList_stX _ rfl _ (.tmp 4) (.tmp 29) rfl w.heap.size _ _ rfl rfl b4 i4 rfl (by simp [Value.oneCell']) ?_; clear t3; intro w9 b9 g9))
        refine bodyPost_ret (results_cell1t rfl _ _ _ ⟨w.heap.size, 0, none⟩ _ (.int .i64 0) rfl (BxS.load (t := 43) b9 Try.underlying43 Try.info_li) rfl) rfl ?_
        exact ⟨_, _, rfl, flE_rd (ho.kept g9 (.inr (fun e => by have := hn _ e; omega))), grown_far (grown_far (grown_trans g0 gA) hgr (fun q e => by cases e; omega)) g9 (fun q e => by cases e; exact Nat.le_refl _)⟩
  · rw [if_neg hE, if_neg hE, if_neg hE, if_neg hE]
    generalize opE cr sz = E at h0 hE ⊢
    have hne : (((E : Int) != 0) : Bool) = true := by simp; omega
    go_enter Try.func22, Try.ntmps22
    go_wp2_with (first
      | (go_at_call 50; have _t := t1; clear t1; refine (h0 _).mono ?_; rintro e wx ⟨rfl, hw⟩; have hw := hw.symm; subst hw; have t2 : True := trivial)
      | (have _t := t2; refine wpList_stX _ rfl _ (.tmp 4) (.tmp 14) rfl w.heap.size _ _ rfl rfl b0 i4 rfl (by simp [Value.oneCell']) ?_; clear t2; intro w9 b9 g9))
    refine bodyPost_ret (results_cell1t rfl _ _ _ ⟨w.heap.size, 0, none⟩ _ (.int .i64 (E : Int)) rfl (BxS.load (t := 43) b9 Try.underlying43 Try.info_li) rfl) rfl ?_
    exact ⟨none, 0, rfl, ⟨Nat.le_refl _, Nat.zero_le _, fun h => absurd h (by decide), fun i h => absurd h (by omega)⟩, grown_far g0 g9 (fun q e => by cases e; exact Nat.le_refl _)⟩
end Go.Proofs.Ytlmddjkplnbadaa
