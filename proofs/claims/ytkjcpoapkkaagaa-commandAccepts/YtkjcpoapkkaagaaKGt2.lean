import Derived.Test.YtkjcpoapkkaagaaKGt1
namespace Go.Proofs.Ytkjcpoapkkaagaa
open Go.RowKit
set_option maxRecDepth 100000
set_option linter.unusedVariables false
set_option linter.unusedSimpArgs false

set_option maxHeartbeats 4000000 in
theorem rguard_any (cr ha : Int) (w : World) : Calls Try.prog 22 #[.int .i64 cr, .int .i64 ha] w fun e w' => e = .returned (.tuple #[.agg (gtA (guX cr ha cr) 0 (guX cr ha ha) false false false 0), .int .i64 (guE cr ha : Nat)]) ∧ w.grownBy w' none := by
  have b0 := BxS.new w 38 (gtA 0 0 0 false false false 0)
  have g0 := World.grownBy_alloc w (.cells (gtA 0 0 0 false false false 0) 38) none
  have i7 := Try.info_gt
  unfold gtA at b0 g0
  generalize hw0 : w.alloc (.cells #[.int .i64 0, .int .i64 0, .int .i64 0, .bool false, .bool false, .bool false, .int .i64 0] 38) = w0 at b0 g0
  have t2 : True := trivial
  have bad : ¬ ((0 ≤ cr ∧ cr ≤ 1023) ∧ 1 ≤ ha ∧ ha ≤ 127) → guX cr ha cr = 0 ∧ guX cr ha ha = 0 ∧ guE cr ha = 2 := by
    intro h
    have e : (kwB cr 0 1023 && kwB ha 1 127) = false := by
      by_cases h1 : 0 ≤ cr ∧ cr ≤ 1023
      · rw [kwB_f (n := ha) (fun h2 => h ⟨h1, h2⟩), Bool.and_false]
      · rw [kwB_f h1, Bool.false_and]
    unfold guX guE
    rw [e]
    exact ⟨rfl, rfl, rfl⟩
  by_cases k0 : 0 ≤ cr
  case neg =>
    obtain ⟨e1, e2, e3⟩ := bad (by omega)
    rw [e1, e2, e3]
    unfold gtA
    clear bad e1 e2 e3
    go_enter Try.func22, Try.ntmps22
    go_wp2_with (first
      | (have _t := t2; refine wpList_stX _ rfl _ (.tmp 4) (.tmp 20) rfl w.heap.size _ _ rfl rfl b0 i7 rfl (by simp [Value.oneCell']) ?_; clear t2; intro w9 b9 g9))
    refine bodyPost_ret (results_cell1t rfl _ _ _ ⟨w.heap.size, 0, none⟩ _ (.int .i64 2) rfl (BxS.load (t := 38) b9 Try.underlying38 Try.info_gt) rfl) rfl ?_
    exact ⟨rfl, grown_far g0 g9 (fun q e => by cases e; exact Nat.le_refl _)⟩
  by_cases k1 : cr ≤ 1023
  case neg =>
    obtain ⟨e1, e2, e3⟩ := bad (by omega)
    rw [e1, e2, e3]
    unfold gtA
    clear bad e1 e2 e3
    go_enter Try.func22, Try.ntmps22
    go_wp2_with (first
      | (have _t := t2; refine wpList_stX _ rfl _ (.tmp 4) (.tmp 20) rfl w.heap.size _ _ rfl rfl b0 i7 rfl (by simp [Value.oneCell']) ?_; clear t2; intro w9 b9 g9))
    refine bodyPost_ret (results_cell1t rfl _ _ _ ⟨w.heap.size, 0, none⟩ _ (.int .i64 2) rfl (BxS.load (t := 38) b9 Try.underlying38 Try.info_gt) rfl) rfl ?_
    exact ⟨rfl, grown_far g0 g9 (fun q e => by cases e; exact Nat.le_refl _)⟩
  by_cases k2 : 1 ≤ ha
  case neg =>
    obtain ⟨e1, e2, e3⟩ := bad (by omega)
    rw [e1, e2, e3]
    unfold gtA
    clear bad e1 e2 e3
    go_enter Try.func22, Try.ntmps22
    go_wp2_with (first
      | (have _t := t2; refine wpList_stX _ rfl _ (.tmp 4) (.tmp 20) rfl w.heap.size _ _ rfl rfl b0 i7 rfl (by simp [Value.oneCell']) ?_; clear t2; intro w9 b9 g9))
    refine bodyPost_ret (results_cell1t rfl _ _ _ ⟨w.heap.size, 0, none⟩ _ (.int .i64 2) rfl (BxS.load (t := 38) b9 Try.underlying38 Try.info_gt) rfl) rfl ?_
    exact ⟨rfl, grown_far g0 g9 (fun q e => by cases e; exact Nat.le_refl _)⟩
  by_cases k3 : ha ≤ 127
  case neg =>
    obtain ⟨e1, e2, e3⟩ := bad (by omega)
    rw [e1, e2, e3]
    unfold gtA
    clear bad e1 e2 e3
    go_enter Try.func22, Try.ntmps22
    go_wp2_with (first
      | (have _t := t2; refine wpList_stX _ rfl _ (.tmp 4) (.tmp 20) rfl w.heap.size _ _ rfl rfl b0 i7 rfl (by simp [Value.oneCell']) ?_; clear t2; intro w9 b9 g9))
    refine bodyPost_ret (results_cell1t rfl _ _ _ ⟨w.heap.size, 0, none⟩ _ (.int .i64 2) rfl (BxS.load (t := 38) b9 Try.underlying38 Try.info_gt) rfl) rfl ?_
    exact ⟨rfl, grown_far g0 g9 (fun q e => by cases e; exact Nat.le_refl _)⟩
  have e : (kwB cr 0 1023 && kwB ha 1 127) = true := by rw [kwB_t ⟨k0, k1⟩, kwB_t ⟨k2, k3⟩]; rfl
  unfold guX guE
  rw [e]
  unfold gtA
  clear bad e
  go_enter Try.func22, Try.ntmps22
  go_wp2_with (first
    | (have _t := t2; refine wpList_stX _ rfl _ (.tmp 4) (.tmp 23) rfl w.heap.size _ _ rfl rfl b0 i7 rfl (by simp [Value.oneCell']) ?_; clear t2; intro w9 b9 g9))
  refine bodyPost_ret (results_cell1t rfl _ _ _ ⟨w.heap.size, 0, none⟩ _ (.int .i64 0) rfl (BxS.load (t := 38) b9 Try.underlying38 Try.info_gt) rfl) rfl ?_
  exact ⟨rfl, grown_far g0 g9 (fun q e => by cases e; exact Nat.le_refl _)⟩
set_option maxHeartbeats 4000000 in
theorem rgmay_any (cr nx ha : Int) (sh wa ag : Bool) (ct : Int) (w : World) : Calls Try.prog 60 #[.agg (gtA cr nx ha sh wa ag ct)] w fun e w' => e = .returned (.bool (gtB cr nx ha ct)) ∧ w.grownBy w' none := by
  have h0 := fun wz => rguard_any cr ha wz
  have b0 := BxS.new w 38 (gtA cr nx ha sh wa ag ct)
  have g0 := World.grownBy_alloc w (.cells (gtA cr nx ha sh wa ag ct) 38) none
  unfold gtB
  unfold guX guE at h0
  generalize (kwB cr 0 1023 && kwB ha 1 127) = b at h0 ⊢
  unfold gtA at h0 b0 g0 ⊢
  generalize hw0 : w.alloc (.cells #[.int .i64 cr, .int .i64 nx, .int .i64 ha, .bool sh, .bool wa, .bool ag, .int .i64 ct] 38) = w0 at b0 g0
  obtain ⟨c0, c1, c2, c3, c4, c5, c6⟩ := b0.cell7
  have t1 : True := trivial
  cases b
  · generalize (if false = true then cr else 0) = x at h0
    generalize (if false = true then ha else 0) = y at h0
    rw [Bool.false_and, Bool.false_and]
    have gA := fun wz : World => World.grownBy_alloc wz (.cells #[.int .i64 x, .int .i64 0, .int .i64 y, .bool false, .bool false, .bool false, .int .i64 0] 38) none
    go_enter Try.func60, Try.ntmps60
    go_wp2_with (first
      | (go_at_call 22; have _t := t1; clear t1; refine (h0 _).mono ?_; rintro e w2 ⟨rfl, g2⟩; clear c0 c1 c2 c3 c4 c5 c6))
    go_ret
    exact ⟨rfl, grown_trans (grown_trans g0 g2) (gA w2)⟩
  · generalize (if true = true then cr else 0) = x at h0
    generalize (if true = true then ha else 0) = y at h0
    rw [Bool.true_and]
    have gA := fun wz : World => World.grownBy_alloc wz (.cells #[.int .i64 x, .int .i64 0, .int .i64 y, .bool false, .bool false, .bool false, .int .i64 0] 38) none
    have fin : ∀ z : Bool, (kwB nx 0 255 && kwB ct 0 3) = z → Calls Try.prog 60 #[.agg #[.int .i64 cr, .int .i64 nx, .int .i64 ha, .bool sh, .bool wa, .bool ag, .int .i64 ct]] w fun e w' => e = .returned (.bool z) ∧ w.grownBy w' none := by
      intro z hz
      by_cases k0 : 0 ≤ nx
      case neg =>
        rw [kwB_f (by omega)] at hz
        subst hz
        go_enter Try.func60, Try.ntmps60
        go_wp2_with (first
          | (go_at_call 22; have _t := t1; clear t1; refine (h0 _).mono ?_; rintro e w2 ⟨rfl, g2⟩; clear c0 c1 c2 c3 c4 c5 c6; obtain ⟨c0, c1, c2, c3, c4, c5, c6⟩ := ((b0.keep g2 (by simp)).keep (gA w2) (by simp)).cell7))
        go_ret
        exact ⟨rfl, grown_trans (grown_trans g0 g2) (gA w2)⟩
      by_cases k1 : nx ≤ 255
      case neg =>
        rw [kwB_f (by omega)] at hz
        subst hz
        go_enter Try.func60, Try.ntmps60
        go_wp2_with (first
          | (go_at_call 22; have _t := t1; clear t1; refine (h0 _).mono ?_; rintro e w2 ⟨rfl, g2⟩; clear c0 c1 c2 c3 c4 c5 c6; obtain ⟨c0, c1, c2, c3, c4, c5, c6⟩ := ((b0.keep g2 (by simp)).keep (gA w2) (by simp)).cell7))
        go_ret
        exact ⟨rfl, grown_trans (grown_trans g0 g2) (gA w2)⟩
      rw [kwB_t ⟨k0, k1⟩, Bool.true_and] at hz
      by_cases k2 : 0 ≤ ct
      case neg =>
        rw [kwB_f (by omega)] at hz
        subst hz
        go_enter Try.func60, Try.ntmps60
        go_wp2_with (first
          | (go_at_call 22; have _t := t1; clear t1; refine (h0 _).mono ?_; rintro e w2 ⟨rfl, g2⟩; clear c0 c1 c2 c3 c4 c5 c6; obtain ⟨c0, c1, c2, c3, c4, c5, c6⟩ := ((b0.keep g2 (by simp)).keep (gA w2) (by simp)).cell7))
        go_ret
        exact ⟨rfl, grown_trans (grown_trans g0 g2) (gA w2)⟩
      by_cases k3 : ct ≤ 3
      case neg =>
        rw [kwB_f (by omega)] at hz
        subst hz
        have d3 : decide (ct ≤ 3) = false := decide_eq_false k3
        go_enter Try.func60, Try.ntmps60
        go_wp2_with (first
          | (go_at_call 22; have _t := t1; clear t1; refine (h0 _).mono ?_; rintro e w2 ⟨rfl, g2⟩; clear c0 c1 c2 c3 c4 c5 c6; obtain ⟨c0, c1, c2, c3, c4, c5, c6⟩ := ((b0.keep g2 (by simp)).keep (gA w2) (by simp)).cell7))
        go_ret
        exact ⟨rfl, grown_trans (grown_trans g0 g2) (gA w2)⟩
      rw [kwB_t ⟨k2, k3⟩] at hz
      subst hz
      go_enter Try.func60, Try.ntmps60
      go_wp2_with (first
        | (go_at_call 22; have _t := t1; clear t1; refine (h0 _).mono ?_; rintro e w2 ⟨rfl, g2⟩; clear c0 c1 c2 c3 c4 c5 c6; obtain ⟨c0, c1, c2, c3, c4, c5, c6⟩ := ((b0.keep g2 (by simp)).keep (gA w2) (by simp)).cell7))
      go_ret
      exact ⟨rfl, grown_trans (grown_trans g0 g2) (gA w2)⟩
    exact fin _ rfl
end Go.Proofs.Ytkjcpoapkkaagaa
