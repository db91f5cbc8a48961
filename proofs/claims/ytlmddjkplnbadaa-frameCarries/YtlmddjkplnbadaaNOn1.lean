import Derived.Test.YtlmddjkplnbadaaNSa2
namespace Go.Proofs.Ytlmddjkplnbadaa
open Go.RowKit
set_option maxRecDepth 100000
set_option linter.unusedVariables false
set_option linter.unusedSimpArgs false

/-- why there may be no frames of a craft and a size -/
def opE (cr sz : Int) : Nat := if wiB cr 1023 = true then (if siB sz = true then 0 else 1) else 2
theorem fwrong_any (cr sz : Int) (w : World) : Calls Try.prog 51 #[.int .i64 cr, .int .i64 sz] w fun e w' => e = .returned (.int .i64 (opE cr sz : Nat)) ∧ w' = w := by
  have h0 := fun wz => fwithin_any cr 1023 wz
  have h1 := fun wz => fsize_any sz wz
  unfold opE
  generalize wiB cr 1023 = x at h0 ⊢
  generalize siB sz = y at h1 ⊢
  have t1 : True := trivial
  cases x <;> cases y
  all_goals
    go_enter Try.func51, Try.ntmps51
    go_wp2_with (first
      | (go_at_call 43; have _t := t1; clear t1; refine (h0 _).mono ?_; rintro e wx ⟨rfl, hw⟩; have hw := hw.symm; subst hw; have t2 : True := trivial)
      | (go_at_call 44; have _t := t2; clear t2; refine (h1 _).mono ?_; rintro e wx ⟨rfl, hw⟩; have hw := hw.symm; subst hw))
    go_ret
    exact ⟨rfl, rfl⟩
theorem ropens_any (cr sz : Int) (w : World) : Calls Try.prog 50 #[.int .i64 cr, .int .i64 sz] w fun e w' => e = .returned (.int .i64 (opE cr sz : Nat)) ∧ w' = w := by
  by_cases h : 0 ≤ cr ∧ cr ≤ 1023
  · obtain ⟨h1, h2⟩ := h
    by_cases k : 13 ≤ sz ∧ sz ≤ 2048
    · rw [show opE cr sz = 0 by unfold opE; rw [wiB_t ⟨h1, h2⟩, if_pos rfl, show siB sz = true from decide_eq_true k, if_pos rfl]]
      obtain ⟨k1, k2⟩ := k
      go_enter Try.func50, Try.ntmps50
      go_wp2
      go_ret
      exact ⟨rfl, rfl⟩
    · rw [show opE cr sz = 1 by unfold opE; rw [wiB_t ⟨h1, h2⟩, if_pos rfl, show siB sz = false from decide_eq_false k, if_neg (by decide)]]
      by_cases k1 : 13 ≤ sz
      · have k2 : 2048 < sz := by omega
        go_enter Try.func50, Try.ntmps50
        go_wp2
        go_ret
        exact ⟨rfl, rfl⟩
      · go_enter Try.func50, Try.ntmps50
        go_wp2
        go_ret
        exact ⟨rfl, rfl⟩
  · rw [show opE cr sz = 2 by unfold opE; rw [wiB_f h, if_neg (by decide)]]
    by_cases h1 : 0 ≤ cr
    · have h2 : 1023 < cr := by omega
      go_enter Try.func50, Try.ntmps50
      go_wp2
      go_ret
      exact ⟨rfl, rfl⟩
    · go_enter Try.func50, Try.ntmps50
      go_wp2
      go_ret
      exact ⟨rfl, rfl⟩
def opX (cr sz z : Int) : Int := if opE cr sz = 0 then z else 0
def opN (cr sz : Int) : Nat := if opE cr sz = 0 then 7 else 0
def qu0 : Qu := ⟨0, none, 0, 0, 0, fun _ => ⟨none, 0, 0, []⟩⟩
def er0 : Er := ⟨-1, ⟨none, 0, 0, []⟩⟩
theorem Try.info_se : (Try.prog.info? 38).map (fun i => i.size) = some 5 := by kernel_rfl
theorem Try.info_li : (Try.prog.info? 43).map (fun i => i.size) = some 4 := by kernel_rfl
theorem qu0_rd {w : World} {g : Nat} (hb : g < w.heap.size) (hc : ∀ i, i < 7 → w.cell? ⟨g, i * 3, none⟩ = some (.int .i64 0) ∧ w.cell? ⟨g, i * 3 + 1, none⟩ = some (.slice none 0 0) ∧ w.cell? ⟨g, i * 3 + 2, none⟩ = some (.int .i64 0)) :
    RdQ w (some ⟨g, 0, none⟩) 7 7 (fun _ => qu0) := by
  refine ⟨Nat.le_refl _, by decide, fun _ => ⟨g, 0, rfl, hb, fun i hi => ?_⟩, fun i hi => ⟨Nat.le_refl _, Nat.zero_le _, fun h => absurd h (by decide), fun j hj => absurd hj (Nat.not_lt_zero _)⟩⟩
  obtain ⟨h1, h2, h3⟩ := hc i hi
  refine ⟨?_, ?_, ?_⟩
  · rw [Nat.zero_add]; exact h1
  · rw [Nat.zero_add]; exact h2
  · rw [Nat.zero_add]; exact h3
def zq : Value := .agg #[.int .i64 0, .slice none 0 0, .int .i64 0]
theorem Try.info_qu : (Try.prog.info? 83).map (fun i => (i.zero, i.size, i.bytes)) = some (some zq, 3, 40) := by kernel_rfl
theorem made_q : ∀ i, i < 7 → (madeCells zq.cells (7 * 3)).toList[i * 3]? = some (.int .i64 0) ∧ (madeCells zq.cells (7 * 3)).toList[i * 3 + 1]? = some (.slice none 0 0) ∧ (madeCells zq.cells (7 * 3)).toList[i * 3 + 2]? = some (.int .i64 0) := by
  intro i hi
  obtain (rfl | rfl | rfl | rfl | rfl | rfl | rfl) : i = 0 ∨ i = 1 ∨ i = 2 ∨ i = 3 ∨ i = 4 ∨ i = 5 ∨ i = 6 := by omega
  all_goals refine ⟨?_, ?_, ?_⟩ <;> kernel_rfl
theorem addr_ad (b off j : Nat) : (⟨b, off, none⟩ : Addr).add j = ⟨b, off + j, none⟩ := by unfold Addr.add; split <;> simp_all
/-- 'make([]api.Queue, 7)' -/
theorem wpList_mkQ (w : World) {ops : Array Oper} {rest : List Oper} {o : Oper} {a : Act} {Q : Exit → Act → World → Prop} (hg : o.guard = none) (l c : Operand)
    (hop : o.op = Op.makeSlice 36 l c) (hl : a.eval l = .int .i64 7) (hc : a.eval c = .int .i64 7)
    (hK : ∀ w', w.heap.size < w'.heap.size → (∀ i, i < 7 → w'.cell? ⟨w.heap.size, i * 3, none⟩ = some (.int .i64 0) ∧ w'.cell? ⟨w.heap.size, i * 3 + 1, none⟩ = some (.slice none 0 0) ∧ w'.cell? ⟨w.heap.size, i * 3 + 2, none⟩ = some (.int .i64 0)) → w.grownBy w' none → wpList Try.prog ops Q rest (a.put o.dst (.slice (some ⟨w.heap.size, 0, none⟩) 7 7)) w') :
    wpList Try.prog ops Q (o :: rest) a w := by
  obtain ⟨i0, hi, hz0, hz1, hz2⟩ := info_parts Try.info_qu
  refine wpList_make_full w hg l c 36 hop w.heap.size 83 i0 zq 3 Try.underlying36 hi hz0 hz1 .i64 .i64 7 7 7 hl hc rfl rfl (by rw [hz2]; omega) (by decide) (Nat.le_refl _) ?_
  intro w' hown hgr
  have hlt : w.heap.size < w'.heap.size := by
    rcases hown.2 with ⟨h, _⟩ | ⟨g, cap, cur, hv, _, hh, h1, _, h3, h4⟩
    · simp at h
    · simp only [Value.slice.injEq, Option.some.injEq, Addr.mk.injEq] at hv
      obtain ⟨⟨hgg, _⟩, _, hcap⟩ := hv
      subst hgg
      exact (Array.getElem?_eq_some_iff.1 hh).1
  refine hK w' hlt (fun i hi => ?_) hgr
  obtain ⟨m1, m2, m3⟩ := made_q i hi
  have n1 := hown.cells (g := w.heap.size) rfl _ _ m1
  have n2 := hown.cells (g := w.heap.size) rfl _ _ m2
  have n3 := hown.cells (g := w.heap.size) rfl _ _ m3
  rw [addr_ad, Nat.zero_add] at n1 n2 n3
  exact ⟨n1, n2, n3⟩
set_option maxHeartbeats 4000000 in
theorem open_any (cr sz : Int) (w : World) : Calls Try.prog 23 #[.int .i64 cr, .int .i64 sz] w fun e w' => ∃ a c, e = .returned (.tuple #[.agg (seA (opX cr sz cr) (opX cr sz sz) 0 0 a (opN cr sz) c), .int .i64 (opE cr sz : Nat)]) ∧ RdQ w' a (opN cr sz) c (fun _ => qu0) ∧ w.grownBy w' none := by
  have h0 := fun wz => fwrong_any cr sz wz
  have b0 := BxS.new w 38 (seA 0 0 0 0 none 0 0)
  have g0 := World.grownBy_alloc w (.cells (seA 0 0 0 0 none 0 0) 38) none
  have i5 := Try.info_se
  unfold opX opN
  unfold seA at b0 g0 ⊢
  generalize hw0 : w.alloc (.cells #[.int .i64 0, .int .i64 0, .int .i64 0, .int .i64 0, .slice none 0 0] 38) = w0 at b0 g0
  have t1 : True := trivial
  by_cases hE : opE cr sz = 0
  · rw [hE] at h0 ⊢
    rw [if_pos rfl, if_pos rfl, if_pos rfl]
    go_enter Try.func23, Try.ntmps23
    go_wp2_with (first
      | (go_at_call 51; have _t := t1; clear t1; refine (h0 _).mono ?_; rintro e wx ⟨rfl, hw⟩; have hw := hw.symm; subst hw; have t2 : True := trivial)
      | (at_make; have _t := t2; clear t2; refine wpList_mkQ _ rfl _ _ rfl rfl rfl ?_; intro w2 l2 q2 g2; have b2 := b0.keep g2 (by simp); have t3 : True := trivial)
      | (have _t := t3; refine wpList_stX _ rfl _ (.tmp 4) (.tmp 17) rfl w.heap.size _ _ rfl rfl b2 i5 rfl (by simp [Value.oneCell']) ?_; clear t3; intro w9 b9 g9))
    refine bodyPost_ret (results_cell1t rfl _ _ _ ⟨w.heap.size, 0, none⟩ _ (.int .i64 0) rfl (BxS.load (t := 38) b9 Try.underlying38 Try.info_se) rfl) rfl ?_
    have hne : some w0.heap.size ≠ some w.heap.size := by have := b0.lt; simp; omega
    exact ⟨_, _, rfl, qu0_rd (Nat.lt_of_lt_of_le l2 g9.size) (fun i hi => ⟨cell_grown (q2 i hi).1 g9 l2 hne, cell_grown (q2 i hi).2.1 g9 l2 hne, cell_grown (q2 i hi).2.2 g9 l2 hne⟩), grown_far (grown_trans g0 g2) g9 (fun q e => by cases e; exact Nat.le_refl _)⟩
  · rw [if_neg hE, if_neg hE, if_neg hE]
    generalize opE cr sz = E at h0 hE ⊢
    have hne : (((E : Int) != 0) : Bool) = true := by simp; omega
    go_enter Try.func23, Try.ntmps23
    go_wp2_with (first
      | (go_at_call 51; have _t := t1; clear t1; refine (h0 _).mono ?_; rintro e wx ⟨rfl, hw⟩; have hw := hw.symm; subst hw; have t2 : True := trivial)
      | (have _t := t2; refine wpList_stX _ rfl _ (.tmp 4) (.tmp 12) rfl w.heap.size _ _ rfl rfl b0 i5 rfl (by simp [Value.oneCell']) ?_; clear t2; intro w9 b9 g9))
    refine bodyPost_ret (results_cell1t rfl _ _ _ ⟨w.heap.size, 0, none⟩ _ (.int .i64 (E : Int)) rfl (BxS.load (t := 38) b9 Try.underlying38 Try.info_se) rfl) rfl ?_
    exact ⟨none, 0, rfl, ⟨Nat.le_refl _, Nat.zero_le _, fun h => absurd h (by decide), fun i h => absurd h (by omega)⟩, grown_far g0 g9 (fun q e => by cases e; exact Nat.le_refl _)⟩
set_option maxHeartbeats 4000000 in
theorem ropen_any (cr sz : Int) (w : World) : Calls Try.prog 21 #[.int .i64 cr, .int .i64 sz] w fun e w' => ∃ a c, e = .returned (.tuple #[.agg (seA (opX cr sz cr) (opX cr sz sz) 0 0 a (opN cr sz) c), .int .i64 (opE cr sz : Nat)]) ∧ RdQ w' a (opN cr sz) c (fun _ => qu0) ∧ w.grownBy w' none := by
  have h0 := fun wz => ropens_any cr sz wz
  have b0 := BxS.new w 38 (seA 0 0 0 0 none 0 0)
  have g0 := World.grownBy_alloc w (.cells (seA 0 0 0 0 none 0 0) 38) none
  have i5 := Try.info_se
  unfold opX opN
  unfold seA at b0 g0 ⊢
  generalize hw0 : w.alloc (.cells #[.int .i64 0, .int .i64 0, .int .i64 0, .int .i64 0, .slice none 0 0] 38) = w0 at b0 g0
  have t1 : True := trivial
  by_cases hE : opE cr sz = 0
  · rw [hE] at h0 ⊢
    rw [if_pos rfl, if_pos rfl, if_pos rfl]
    go_enter Try.func21, Try.ntmps21
    go_wp2_with (first
      | (go_at_call 50; have _t := t1; clear t1; refine (h0 _).mono ?_; rintro e wx ⟨rfl, hw⟩; have hw := hw.symm; subst hw; have t2 : True := trivial)
      | (at_make; have _t := t2; clear t2; refine wpList_mkQ _ rfl _ _ rfl rfl rfl ?_; intro w2 l2 q2 g2; have b2 := b0.keep g2 (by simp); have t3 : True := trivial)
      | (have _t := t3; refine wpList_stX _ rfl _ (.tmp 4) (.tmp 17) rfl w.heap.size _ _ rfl rfl b2 i5 rfl (by simp [Value.oneCell']) ?_; clear t3; intro w9 b9 g9))
    refine bodyPost_ret (results_cell1t rfl _ _ _ ⟨w.heap.size, 0, none⟩ _ (.int .i64 0) rfl (BxS.load (t := 38) b9 Try.underlying38 Try.info_se) rfl) rfl ?_
    have hne : some w0.heap.size ≠ some w.heap.size := by have := b0.lt; simp; omega
    exact ⟨_, _, rfl, qu0_rd (Nat.lt_of_lt_of_le l2 g9.size) (fun i hi => ⟨cell_grown (q2 i hi).1 g9 l2 hne, cell_grown (q2 i hi).2.1 g9 l2 hne, cell_grown (q2 i hi).2.2 g9 l2 hne⟩), grown_far (grown_trans g0 g2) g9 (fun q e => by cases e; exact Nat.le_refl _)⟩
  · rw [if_neg hE, if_neg hE, if_neg hE]
    generalize opE cr sz = E at h0 hE ⊢
    have hne : (((E : Int) != 0) : Bool) = true := by simp; omega
    go_enter Try.func21, Try.ntmps21
    go_wp2_with (first
      | (go_at_call 50; have _t := t1; clear t1; refine (h0 _).mono ?_; rintro e wx ⟨rfl, hw⟩; have hw := hw.symm; subst hw; have t2 : True := trivial)
      | (have _t := t2; refine wpList_stX _ rfl _ (.tmp 4) (.tmp 12) rfl w.heap.size _ _ rfl rfl b0 i5 rfl (by simp [Value.oneCell']) ?_; clear t2; intro w9 b9 g9))
    refine bodyPost_ret (results_cell1t rfl _ _ _ ⟨w.heap.size, 0, none⟩ _ (.int .i64 (E : Int)) rfl (BxS.load (t := 38) b9 Try.underlying38 Try.info_se) rfl) rfl ?_
    exact ⟨none, 0, rfl, ⟨Nat.le_refl _, Nat.zero_le _, fun h => absurd h (by decide), fun i h => absurd h (by omega)⟩, grown_far g0 g9 (fun q e => by cases e; exact Nat.le_refl _)⟩
end Go.Proofs.Ytlmddjkplnbadaa
