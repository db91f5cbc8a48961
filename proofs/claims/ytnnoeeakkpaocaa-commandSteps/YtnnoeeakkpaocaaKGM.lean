import Derived.Test.YtnnoeeakkpaocaaKGt1
namespace Go.Proofs.Ytnnoeeakkpaocaa
open Go.RowKit
set_option maxRecDepth 100000
set_option linter.unusedVariables false
set_option linter.unusedSimpArgs false

set_option maxHeartbeats 4000000 in
theorem rguard_any (cr ha : Int) (w : World) : Calls Try.prog 22 #[.int .i64 cr, .int .i64 ha] w fun e w' => e = .returned (.tuple #[.agg (gtA (guX cr ha cr) 0 (guX cr ha ha) false false false 0), .int .i64 (guE cr ha : Nat)]) ∧ w.grownBy w' none := by
  have b0 := BxS.new w 38 (gtA 0 0 0 false false false 0)
  have g0 := World.grownBy_alloc w (.cells (gtA 0 0 0 false false false 0) 38) none
  have i7 := Try.info_gt
  unfold gtA at b0 g0
  generalize hw0 : w.alloc (.cells #[.int .i64 0, .int .i64 0, .int .i64 0, .bool false, .bool false, .bool false, .int .i64 0] 38) = w0 at b0 g0
  have t2 : True := trivial
  have bad : ¬ ((0 ≤ cr ∧ cr ≤ 1023) ∧ 1 ≤ ha ∧ ha ≤ 127) → guX cr ha cr = 0 ∧ guX cr ha ha = 0 ∧ guE cr ha = 2 := by
    intro h
    have e : (kwB cr 0 1023 && kwB ha 1 127) = false := by
      by_cases h1 : 0 ≤ cr ∧ cr ≤ 1023
      · rw [kwB_f (n := ha) (fun h2 => h ⟨h1, h2⟩), Bool.and_false]
      · rw [kwB_f h1, Bool.false_and]
    unfold guX guE
    rw [e]
    exact ⟨rfl, rfl, rfl⟩
  by_cases k0 : 0 ≤ cr
  case neg =>
    obtain ⟨e1, e2, e3⟩ := bad (by omega)
    rw [e1, e2, e3]
    unfold gtA
    clear bad e1 e2 e3
    go_enter Try.func22, Try.ntmps22
    go_wp2_with (first
      | (have _t := t2; refine wpList_stX _ rfl _ (.tmp 4) (.tmp 20) rfl w.heap.size _ _ rfl rfl b0 i7 rfl (by simp [Value.oneCell']) ?_; clear t2; intro w9 b9 g9))
    refine bodyPost_ret (results_cell1t rfl _ _ _ ⟨w.heap.size, 0, none⟩ _ (.int .i64 2) rfl (BxS.load (t := 38) b9 Try.underlying38 Try.info_gt) rfl) rfl ?_
    exact ⟨rfl, grown_far g0 g9 (fun q e => by cases e; exact Nat.le_refl _)⟩
  by_cases k1 : cr ≤ 1023
  case neg =>
    obtain ⟨e1, e2, e3⟩ := bad (by omega)
    rw [e1, e2, e3]
    unfold gtA
    clear bad e1 e2 e3
    go_enter Try.func22, Try.ntmps22
    go_wp2_with (first
      | (have _t := t2; refine wpList_stX _ rfl _ (.tmp 4) (.tmp 20) rfl w.heap.size _ _ rfl rfl b0 i7 rfl (by simp [Value.oneCell']) ?_; clear t2; intro w9 b9 g9))
    refine bodyPost_ret (results_cell1t rfl _ _ _ ⟨w.heap.size, 0, none⟩ _ (.int .i64 2) rfl (BxS.load (t := 38) b9 Try.underlying38 Try.info_gt) rfl) rfl ?_
    exact ⟨rfl, grown_far g0 g9 (fun q e => by cases e; exact Nat.le_refl _)⟩
  by_cases k2 : 1 ≤ ha
  case neg =>
    obtain ⟨e1, e2, e3⟩ := bad (by omega)
    rw [e1, e2, e3]
    unfold gtA
    clear bad e1 e2 e3
    go_enter Try.func22, Try.ntmps22
    go_wp2_with (first
      | (have _t := t2; refine wpList_stX _ rfl _ (.tmp 4) (.tmp 20) rfl w.heap.size _ _ rfl rfl b0 i7 rfl (by simp [Value.oneCell']) ?_; clear t2; intro w9 b9 g9))
    refine bodyPost_ret (results_cell1t rfl _ _ _ ⟨w.heap.size, 0, none⟩ _ (.int .i64 2) rfl (BxS.load (t := 38) b9 Try.underlying38 Try.info_gt) rfl) rfl ?_
    exact ⟨rfl, grown_far g0 g9 (fun q e => by cases e; exact Nat.le_refl _)⟩
  by_cases k3 : ha ≤ 127
  case neg =>
    obtain ⟨e1, e2, e3⟩ := bad (by omega)
    rw [e1, e2, e3]
    unfold gtA
    clear bad e1 e2 e3
    go_enter Try.func22, Try.ntmps22
    go_wp2_with (first
      | (have _t := t2; refine wpList_stX _ rfl _ (.tmp 4) (.tmp 20) rfl w.heap.size _ _ rfl rfl b0 i7 rfl (by simp [Value.oneCell']) ?_; clear t2; intro w9 b9 g9))
    refine bodyPost_ret (results_cell1t rfl _ _ _ ⟨w.heap.size, 0, none⟩ _ (.int .i64 2) rfl (BxS.load (t := 38) b9 Try.underlying38 Try.info_gt) rfl) rfl ?_
    exact ⟨rfl, grown_far g0 g9 (fun q e => by cases e; exact Nat.le_refl _)⟩
  have e : (kwB cr 0 1023 && kwB ha 1 127) = true := by rw [kwB_t ⟨k0, k1⟩, kwB_t ⟨k2, k3⟩]; rfl
  unfold guX guE
  rw [e]
  unfold gtA
  clear bad e
  go_enter Try.func22, Try.ntmps22
  go_wp2_with (first
    | (have _t := t2; refine wpList_stX _ rfl _ (.tmp 4) (.tmp 23) rfl w.heap.size _ _ rfl rfl b0 i7 rfl (by simp [Value.oneCell']) ?_; clear t2; intro w9 b9 g9))
  refine bodyPost_ret (results_cell1t rfl _ _ _ ⟨w.heap.size, 0, none⟩ _ (.int .i64 0) rfl (BxS.load (t := 38) b9 Try.underlying38 Try.info_gt) rfl) rfl ?_
  exact ⟨rfl, grown_far g0 g9 (fun q e => by cases e; exact Nat.le_refl _)⟩
set_option maxHeartbeats 4000000 in
theorem rgmay_any (cr nx ha : Int) (sh wa ag : Bool) (ct : Int) (w : World) : Calls Try.prog 60 #[.agg (gtA cr nx ha sh wa ag ct)] w fun e w' => e = .returned (.bool (gtB cr nx ha ct)) ∧ w.grownBy w' none := by
  have h0 := fun wz => rguard_any cr ha wz
  have b0 := BxS.new w 38 (gtA cr nx ha sh wa ag ct)
  have g0 := World.grownBy_alloc w (.cells (gtA cr nx ha sh wa ag ct) 38) none
  unfold gtB
  unfold guX guE at h0
  generalize (kwB cr 0 1023 && kwB ha 1 127) = b at h0 ⊢
  unfold gtA at h0 b0 g0 ⊢
  generalize hw0 : w.alloc (.cells #[.int .i64 cr, .int .i64 nx, .int .i64 ha, .bool sh, .bool wa, .bool ag, .int .i64 ct] 38) = w0 at b0 g0
  obtain ⟨c0, c1, c2, c3, c4, c5, c6⟩ := b0.cell7
  have t1 : True := trivial
  cases b
  · generalize (if false = true then cr else 0) = x at h0
    generalize (if false = true then ha else 0) = y at h0
    rw [Bool.false_and, Bool.false_and]
    have gA := fun wz : World => World.grownBy_alloc wz (.cells #[.int .i64 x, .int .i64 0, .int .i64 y, .bool false, .bool false, .bool false, .int .i64 0] 38) none
    go_enter Try.func60, Try.ntmps60
    go_wp2_with (first
      | (go_at_call 22; have _t := t1; clear t1; refine (h0 _).mono ?_; rintro e w2 ⟨rfl, g2⟩; clear c0 c1 c2 c3 c4 c5 c6))
    go_ret
    exact ⟨rfl, grown_trans (grown_trans g0 g2) (gA w2)⟩
  · generalize (if true = true then cr else 0) = x at h0
    generalize (if true = true then ha else 0) = y at h0
    rw [Bool.true_and]
    have gA := fun wz : World => World.grownBy_alloc wz (.cells #[.int .i64 x, .int .i64 0, .int .i64 y, .bool false, .bool false, .bool false, .int .i64 0] 38) none
    have fin : ∀ z : Bool, (kwB nx 0 255 && kwB ct 0 3) = z → Calls Try.prog 60 #[.agg #[.int .i64 cr, .int .i64 nx, .int .i64 ha, .bool sh, .bool wa, .bool ag, .int .i64 ct]] w fun e w' => e = .returned (.bool z) ∧ w.grownBy w' none := by
      intro z hz
      by_cases k0 : 0 ≤ nx
      case neg =>
        rw [kwB_f (by omega)] at hz
        subst hz
        go_enter Try.func60, Try.ntmps60
        go_wp2_with (first
          | (go_at_call 22; have _t := t1; clear t1; refine (h0 _).mono ?_; rintro e w2 ⟨rfl, g2⟩; clear c0 c1 c2 c3 c4 c5 c6; obtain ⟨c0, c1, c2, c3, c4, c5, c6⟩ := ((b0.keep g2 (by simp)).keep (gA w2) (by simp)).cell7))
        go_ret
        exact ⟨rfl, grown_trans (grown_trans g0 g2) (gA w2)⟩
      by_cases k1 : nx ≤ 255
      case neg =>
        rw [kwB_f (by omega)] at hz
        subst hz
        go_enter Try.func60, Try.ntmps60
        go_wp2_with (first
          | (go_at_call 22; have _t := t1; clear t1; refine (h0 _).mono ?_; rintro e w2 ⟨rfl, g2⟩; clear c0 c1 c2 c3 c4 c5 c6; obtain ⟨c0, c1, c2, c3, c4, c5, c6⟩ := ((b0.keep g2 (by simp)).keep (gA w2) (by simp)).cell7))
        go_ret
        exact ⟨rfl, grown_trans (grown_trans g0 g2) (gA w2)⟩
      rw [kwB_t ⟨k0, k1⟩, Bool.true_and] at hz
      by_cases k2 : 0 ≤ ct
      case neg =>
        rw [kwB_f (by omega)] at hz
        subst hz
        go_enter Try.func60, Try.ntmps60
        go_wp2_with (first
          | (go_at_call 22; have _t := t1; clear t1; refine (h0 _).mono ?_; rintro e w2 ⟨rfl, g2⟩; clear c0 c1 c2 c3 c4 c5 c6; obtain ⟨c0, c1, c2, c3, c4, c5, c6⟩ := ((b0.keep g2 (by simp)).keep (gA w2) (by simp)).cell7))
        go_ret
        exact ⟨rfl, grown_trans (grown_trans g0 g2) (gA w2)⟩
      by_cases k3 : ct ≤ 3
      case neg =>
        rw [kwB_f (by omega)] at hz
        subst hz
        have d3 : decide (ct ≤ 3) = false := decide_eq_false k3
        go_enter Try.func60, Try.ntmps60
        go_wp2_with (first
          | (go_at_call 22; have _t := t1; clear t1; refine (h0 _).mono ?_; rintro e w2 ⟨rfl, g2⟩; clear c0 c1 c2 c3 c4 c5 c6; obtain ⟨c0, c1, c2, c3, c4, c5, c6⟩ := ((b0.keep g2 (by simp)).keep (gA w2) (by simp)).cell7))
        go_ret
        exact ⟨rfl, grown_trans (grown_trans g0 g2) (gA w2)⟩
      rw [kwB_t ⟨k2, k3⟩] at hz
      subst hz
      go_enter Try.func60, Try.ntmps60
      go_wp2_with (first
        | (go_at_call 22; have _t := t1; clear t1; refine (h0 _).mono ?_; rintro e w2 ⟨rfl, g2⟩; clear c0 c1 c2 c3 c4 c5 c6; obtain ⟨c0, c1, c2, c3, c4, c5, c6⟩ := ((b0.keep g2 (by simp)).keep (gA w2) (by simp)).cell7))
      go_ret
      exact ⟨rfl, grown_trans (grown_trans g0 g2) (gA w2)⟩
    exact fin _ rfl

/-- what a gate reports -/
def rpN (nx : Nat) (sh wa ag : Bool) (ct : Nat) : Nat := 16777216 + sh.toNat * 8192 + wa.toNat * 4096 + ag.toNat * 2048 + ct * 512 + nx
def rpV (cr nx ha : Int) (sh wa ag : Bool) (ct : Int) : Nat := if gtB cr nx ha ct = true then rpN nx.toNat sh wa ag ct.toNat else 0
def rpE (cr nx ha ct : Int) : Nat := if gtB cr nx ha ct = true then 0 else 11
theorem gtB_ok {cr nx ha ct : Int} (h : gtB cr nx ha ct = true) : (0 ≤ cr ∧ cr ≤ 1023) ∧ (0 ≤ nx ∧ nx ≤ 255) ∧ (1 ≤ ha ∧ ha ≤ 127) ∧ (0 ≤ ct ∧ ct ≤ 3) := by
  unfold gtB at h
  simp only [Bool.and_eq_true_iff] at h
  obtain ⟨⟨⟨a1, a2⟩, a3⟩, a4⟩ := h
  exact ⟨kwB_ok a1, kwB_ok a3, kwB_ok a2, kwB_ok a4⟩
theorem or_mid (r B : Nat) (hr : r < 2 ^ 11) (hB : B < 8) : (16777216 + r) ||| (B * 2048) = 16777216 + B * 2048 + r := by
  have e1 : (16777216 : Nat) + r = (1 * 2 ^ 24) ||| r := (or_nat 1 r 24 (by omega)).symm
  rw [e1, Nat.or_assoc, Nat.or_comm r, show B * 2048 = B * 2 ^ 11 from rfl, or_nat B r 11 hr, or_nat 1 _ 24 (by omega)]
  omega
set_option maxHeartbeats 4000000 in
theorem report_any (cr nx ha : Int) (sh wa ag : Bool) (ct : Int) (w : World) : Calls Try.prog 25 #[.agg (gtA cr nx ha sh wa ag ct)] w fun e w' => e = .returned (.tuple #[.int .i64 (rpV cr nx ha sh wa ag ct : Nat), .int .i64 (rpE cr nx ha ct : Nat)]) ∧ w.grownBy w' none := by
  have h0 := fun wz => gmay_any cr nx ha sh wa ag ct wz
  have b0 := BxS.new w 38 (gtA cr nx ha sh wa ag ct)
  have g0 := World.grownBy_alloc w (.cells (gtA cr nx ha sh wa ag ct) 38) none
  unfold rpV rpE
  have hok := @gtB_ok cr nx ha ct
  generalize gtB cr nx ha ct = b at h0 hok ⊢
  unfold gtA at h0 b0 g0 ⊢
  have t1 : True := trivial
  cases b
  · generalize hw0 : w.alloc (.cells #[.int .i64 cr, .int .i64 nx, .int .i64 ha, .bool sh, .bool wa, .bool ag, .int .i64 ct] 38) = w0 at b0 g0
    obtain ⟨c0, c1, c2, c3, c4, c5, c6⟩ := b0.cell7
    go_enter Try.func25, Try.ntmps25
    go_wp2_with (first
      | (go_at_call 59; have _t := t1; clear t1; refine (h0 _).mono ?_; rintro e w2 ⟨rfl, g2⟩))
    go_ret2
    exact ⟨rfl, grown_trans g0 g2⟩
  · obtain ⟨_, ⟨n1, n2⟩, _, ⟨k1, k2⟩⟩ := hok rfl
    clear hok
    obtain ⟨x, rfl⟩ := Int.eq_ofNat_of_zero_le n1
    obtain ⟨y, rfl⟩ := Int.eq_ofNat_of_zero_le k1
    rw [if_pos rfl, if_pos rfl, Int.toNat_natCast, Int.toNat_natCast]
    generalize hw0 : w.alloc (.cells #[.int .i64 cr, .int .i64 (x : Int), .int .i64 ha, .bool sh, .bool wa, .bool ag, .int .i64 (y : Int)] 38) = w0 at b0 g0
    obtain ⟨c0, c1, c2, c3, c4, c5, c6⟩ := b0.cell7
    have p1 := toNat_le sh
    have p2 := toNat_le wa
    have p3 := toNat_le ag
    have HR : Hid (rpN x sh wa ag y = 16777216 + (sh.toNat * 4 + wa.toNat * 2 + ag.toNat) * 2048 + (y * 512 + x)) := by show _ = _; unfold rpN; omega
    have hA : bits .or .i64 (bits .or .i64 16777216 ((y : Int) * 512)) (x : Int) = ((16777216 + (y * 512 + x) : Nat) : Int) := by
      have e1 : (16777216 : Int) = ((8192 * 2 ^ 11 : Nat) : Int) := rfl
      have e2 : ((y : Int) * 512) = ((y * 512 : Nat) : Int) := by omega
      rw [e1, e2, or_put _ _ 11 (by omega) (by omega) (by omega), show 8192 * 2 ^ 11 + y * 512 = (32768 + y) * 2 ^ 9 by omega, or_put _ _ 9 (by omega) (by omega) (by omega)]
      omega
    have hB : bits .or .i64 (bits .or .i64 ((sh.toNat : Int) * 8192) ((wa.toNat : Int) * 4096)) ((ag.toNat : Int) * 2048) = (((sh.toNat * 4 + wa.toNat * 2 + ag.toNat) * 2048 : Nat) : Int) := by
      have e1 : ((sh.toNat : Int) * 8192) = ((sh.toNat * 2 ^ 13 : Nat) : Int) := by omega
      have e2 : ((wa.toNat : Int) * 4096) = ((wa.toNat * 4096 : Nat) : Int) := by omega
      have e3 : ((ag.toNat : Int) * 2048) = ((ag.toNat * 2048 : Nat) : Int) := by omega
      rw [e1, e2, e3, or_put _ _ 13 (by omega) (by omega) (by omega), show sh.toNat * 2 ^ 13 + wa.toNat * 4096 = (sh.toNat * 2 + wa.toNat) * 2 ^ 12 by omega, or_put _ _ 12 (by omega) (by omega) (by omega)]
      omega
    have hC : bits .or .i64 ((16777216 + (y * 512 + x) : Nat) : Int) (((sh.toNat * 4 + wa.toNat * 2 + ag.toNat) * 2048 : Nat) : Int) = ((rpN x sh wa ag y : Nat) : Int) := by
      rw [HR.out, i64_or_n _ _ (by omega) (by omega), or_mid _ _ (by omega) (by omega)]
    have hl : rpN x sh wa ag y < 4294967296 := by have := HR.out; omega
    generalize rpN x sh wa ag y = R at hC hl ⊢
    generalize (sh.toNat * 4 + wa.toNat * 2 + ag.toNat) * 2048 = B at hB hC
    generalize 16777216 + (y * 512 + x) = A at hA hC
    clear HR
    go_enter Try.func25, Try.ntmps25
    go_wp2_with (first
      | (go_at_call 59; have _t := t1; clear t1; refine (h0 _).mono ?_; rintro e w2 ⟨rfl, g2⟩; clear c0 c1 c2 c3 c4 c5 c6; obtain ⟨c0, c1, c2, c3, c4, c5, c6⟩ := (b0.keep g2 (by simp)).cell7))
    go_quiet ((go_at_call 61; exact Calls.quiet_of_same (bitIf_any _ _ _)))
    go_wp2
    go_ret2
    exact ⟨rfl, grown_trans (grown_trans g0 g2) (grown_drewN w2 _ none)⟩
set_option maxHeartbeats 4000000 in
theorem rreport_any (cr nx ha : Int) (sh wa ag : Bool) (ct : Int) (w : World) : Calls Try.prog 24 #[.agg (gtA cr nx ha sh wa ag ct)] w fun e w' => e = .returned (.tuple #[.int .i64 (rpV cr nx ha sh wa ag ct : Nat), .int .i64 (rpE cr nx ha ct : Nat)]) ∧ w.grownBy w' none := by
  have h0 := fun wz => rgmay_any cr nx ha sh wa ag ct wz
  have b0 := BxS.new w 38 (gtA cr nx ha sh wa ag ct)
  have g0 := World.grownBy_alloc w (.cells (gtA cr nx ha sh wa ag ct) 38) none
  unfold rpV rpE
  have hok := @gtB_ok cr nx ha ct
  generalize gtB cr nx ha ct = b at h0 hok ⊢
  unfold gtA at h0 b0 g0 ⊢
  have t1 : True := trivial
  cases b
  · generalize hw0 : w.alloc (.cells #[.int .i64 cr, .int .i64 nx, .int .i64 ha, .bool sh, .bool wa, .bool ag, .int .i64 ct] 38) = w0 at b0 g0
    obtain ⟨c0, c1, c2, c3, c4, c5, c6⟩ := b0.cell7
    go_enter Try.func24, Try.ntmps24
    go_wp2_with (first
      | (go_at_call 60; have _t := t1; clear t1; refine (h0 _).mono ?_; rintro e w2 ⟨rfl, g2⟩))
    go_ret2
    exact ⟨rfl, grown_trans g0 g2⟩
  · obtain ⟨_, ⟨n1, n2⟩, _, ⟨k1, k2⟩⟩ := hok rfl
    clear hok
    obtain ⟨x, rfl⟩ := Int.eq_ofNat_of_zero_le n1
    obtain ⟨y, rfl⟩ := Int.eq_ofNat_of_zero_le k1
    rw [if_pos rfl, if_pos rfl, Int.toNat_natCast, Int.toNat_natCast]
    generalize hw0 : w.alloc (.cells #[.int .i64 cr, .int .i64 (x : Int), .int .i64 ha, .bool sh, .bool wa, .bool ag, .int .i64 (y : Int)] 38) = w0 at b0 g0
    obtain ⟨c0, c1, c2, c3, c4, c5, c6⟩ := b0.cell7
    have p1 := toNat_le sh
    have p2 := toNat_le wa
    have p3 := toNat_le ag
    have hA : bits .or .i64 (bits .or .i64 (bits .or .i64 (bits .or .i64 (bits .or .i64 16777216 ((sh.toNat : Int) * 8192)) ((wa.toNat : Int) * 4096)) ((ag.toNat : Int) * 2048)) ((y : Int) * 512)) (x : Int) = ((rpN x sh wa ag y : Nat) : Int) := by
      have e0 : (16777216 : Int) = ((1024 * 2 ^ 14 : Nat) : Int) := rfl
      have e1 : ((sh.toNat : Int) * 8192) = ((sh.toNat * 8192 : Nat) : Int) := by omega
      have e2 : ((wa.toNat : Int) * 4096) = ((wa.toNat * 4096 : Nat) : Int) := by omega
      have e3 : ((ag.toNat : Int) * 2048) = ((ag.toNat * 2048 : Nat) : Int) := by omega
      have e4 : ((y : Int) * 512) = ((y * 512 : Nat) : Int) := by omega
      rw [e0, e1, e2, e3, e4, or_put _ _ 14 (by omega) (by omega) (by omega), show 1024 * 2 ^ 14 + sh.toNat * 8192 = (2048 + sh.toNat) * 2 ^ 13 by omega, or_put _ _ 13 (by omega) (by omega) (by omega),
        show (2048 + sh.toNat) * 2 ^ 13 + wa.toNat * 4096 = (4096 + sh.toNat * 2 + wa.toNat) * 2 ^ 12 by omega, or_put _ _ 12 (by omega) (by omega) (by omega),
        show (4096 + sh.toNat * 2 + wa.toNat) * 2 ^ 12 + ag.toNat * 2048 = (8192 + sh.toNat * 4 + wa.toNat * 2 + ag.toNat) * 2 ^ 11 by omega, or_put _ _ 11 (by omega) (by omega) (by omega),
        show (8192 + sh.toNat * 4 + wa.toNat * 2 + ag.toNat) * 2 ^ 11 + y * 512 = (32768 + sh.toNat * 16 + wa.toNat * 8 + ag.toNat * 4 + y) * 2 ^ 9 by omega, or_put _ _ 9 (by omega) (by omega) (by omega)]
      unfold rpN
      omega
    have hl : rpN x sh wa ag y < 4294967296 := by unfold rpN; omega
    generalize rpN x sh wa ag y = R at hA hl ⊢
    go_enter Try.func24, Try.ntmps24
    go_wp2_with (first
      | (go_at_call 60; have _t := t1; clear t1; refine (h0 _).mono ?_; rintro e w2 ⟨rfl, g2⟩; clear c0 c1 c2 c3 c4 c5 c6; obtain ⟨c0, c1, c2, c3, c4, c5, c6⟩ := (b0.keep g2 (by simp)).cell7))
    go_quiet ((go_at_call 47; exact Calls.quiet_of_same (bit_any _ _)))
    go_wp2
    go_ret2
    exact ⟨rfl, grown_trans (grown_trans g0 g2) (grown_drewN w2 _ none)⟩

/-- what Read answers -/
def stE (z : Int) : Nat := if kwB z 0 4294967295 = true then (if z.toNat / 16384 = 1024 ∧ z.toNat / 256 % 2 = 0 then 0 else 8) else 2
def stN (z : Int) : Nat := if stE z = 0 then z.toNat % 256 else 0
def stC (z : Int) : Nat := if stE z = 0 then z.toNat / 512 % 4 else 0
def stB (z : Int) (k : Nat) : Bool := decide (stE z = 0) && decide (z.toNat / 2 ^ k % 2 = 1)
theorem st_no {z : Int} (h : stE z ≠ 0) : stN z = 0 ∧ stC z = 0 ∧ ∀ k, stB z k = false := by
  unfold stN stC stB
  rw [if_neg h, if_neg h, decide_eq_false h]
  exact ⟨rfl, rfl, fun k => rfl⟩
theorem bit_two (x k : Nat) : x / 2 ^ k % 2 = 0 ∨ x / 2 ^ k % 2 = 1 := by omega
set_option maxHeartbeats 8000000 in
theorem read_any (z : Int) (w : World) : Calls Try.prog 27 #[.int .i64 z] w fun e w' => e = .returned (.tuple #[.agg (gtA 0 (stN z : Nat) 0 (stB z 13) (stB z 12) (stB z 11) (stC z : Nat)), .int .i64 (stE z : Nat)]) ∧ w.grownBy w' none := by
  have h0 := fun wz => kwithin_any z 0 4294967295 wz
  have B2 := BxS.new w 38 (gtA 0 0 0 false false false 0)
  have g0 := World.grownBy_alloc w (.cells (gtA 0 0 0 false false false 0) 38) none
  have i7 := Try.info_gt
  unfold gtA at B2 g0 ⊢
  generalize hw0 : w.alloc (.cells #[.int .i64 0, .int .i64 0, .int .i64 0, .bool false, .bool false, .bool false, .int .i64 0] 38) = w0 at B2 g0
  have t1 : True := trivial
  have t2 : True := trivial
  by_cases hk : 0 ≤ z ∧ z ≤ 4294967295
  · rw [kwB_t hk] at h0
    obtain ⟨k0, k1⟩ := hk
    obtain ⟨x, rfl⟩ := Int.eq_ofNat_of_zero_le k0
    have hN := andNot_form x (by omega)
    by_cases hf : x / 16384 = 1024 ∧ x / 256 % 2 = 0
    · have hE : stE (x : Int) = 0 := by unfold stE; rw [kwB_t ⟨k0, k1⟩, if_pos rfl, Int.toNat_natCast, if_pos hf]
      rw [hf.1, hf.2] at hN
      have hN : bits .andNot .i64 (x : Int) 16127 = 16777216 := hN
      have h8 : bits .and .i64 (x : Int) 255 = ((stN (x : Int) : Nat) : Int) := by
        unfold stN; rw [if_pos hE, Int.toNat_natCast]
        exact i64_low x 8 (by omega) (by decide)
      have h9 : bits .and .i64 ((x : Int) / 512) 3 = ((stC (x : Int) : Nat) : Int) := by
        unfold stC; rw [if_pos hE, Int.toNat_natCast, show ((x : Int) / 512) = ((x / 512 : Nat) : Int) by omega]
        exact i64_low (x / 512) 2 (by omega) (by decide)
      have sb : ∀ k, stB (x : Int) k = decide (x / 2 ^ k % 2 = 1) := fun k => by unfold stB; rw [decide_eq_true hE, Int.toNat_natCast]; rfl
      have fb : ∀ k, k < 32 → (bits .and .i64 (x : Int) ((2 ^ k : Nat) : Int) != 0) = stB (x : Int) k := fun k hk => by
        rw [i64_and_p2 x k (by omega) (by omega), sb]
        rcases bit_two x k with e | e
        · rw [e, Nat.zero_mul]; rfl
        · rw [e, Nat.one_mul]
          have := Nat.two_pow_pos k
          exact bne_iff_ne.2 (fun h => by have h2 := Int.ofNat_eq_zero.1 h; omega)
      have F13 : Hid ((bits .and .i64 (x : Int) 8192 != 0) = stB (x : Int) 13) := fb 13 (by decide)
      have F12 : Hid ((bits .and .i64 (x : Int) 4096 != 0) = stB (x : Int) 12) := fb 12 (by decide)
      have F11 : Hid ((bits .and .i64 (x : Int) 2048 != 0) = stB (x : Int) 11) := fb 11 (by decide)
      rw [hE]
      generalize stN (x : Int) = N at h8 ⊢
      generalize stC (x : Int) = C at h9 ⊢
      clear sb hf hE fb
      go_enter Try.func27, Try.ntmps27
      go_wp2_with (first
        | (go_at_call 62; have _t := t1; clear t1; refine (h0 _).mono ?_; rintro e wx ⟨rfl, hw⟩; have hw := hw.symm; subst hw)
        | (have _t := t2; refine wpList_stX _ rfl _ (.tmp 2) (.tmp 26) rfl w.heap.size _ _ rfl rfl B2 i7 rfl (by simp [Value.oneCell']) ?_; clear t2; intro w9 b9 g9))
      refine bodyPost_ret (results_cell1t rfl _ _ _ ⟨w.heap.size, 0, none⟩ _ (.int .i64 0) rfl (BxS.load (t := 38) b9 Try.underlying38 Try.info_gt) rfl) rfl ?_
      exact ⟨by rw [← F13.out, ← F12.out, ← F11.out]; rfl, grown_far g0 g9 (fun q e => by cases e; exact Nat.le_refl _)⟩
    · have hE : stE (x : Int) = 8 := by unfold stE; rw [kwB_t ⟨k0, k1⟩, if_pos rfl, Int.toNat_natCast, if_neg hf]
      obtain ⟨e1, e2, e3⟩ := st_no (z := (x : Int)) (by rw [hE]; decide)
      rw [e1, e2, e3, e3, e3, hE]
      obtain ⟨M, hM⟩ : ∃ M, M = x / 16384 * 16384 + x / 256 % 2 * 256 := ⟨_, rfl⟩
      rw [← hM] at hN
      have hne : (((M : Int) != 16777216) : Bool) = true := by simp; omega
      clear hM hf e1 e2 e3 hE
      go_enter Try.func27, Try.ntmps27
      go_wp2_with (first
        | (go_at_call 62; have _t := t1; clear t1; refine (h0 _).mono ?_; rintro e wx ⟨rfl, hw⟩; have hw := hw.symm; subst hw)
        | (have _t := t2; refine wpList_stX _ rfl _ (.tmp 2) (.tmp 11) rfl w.heap.size _ _ rfl rfl B2 i7 rfl (by simp [Value.oneCell']) ?_; clear t2; intro w9 b9 g9))
      refine bodyPost_ret (results_cell1t rfl _ _ _ ⟨w.heap.size, 0, none⟩ _ (.int .i64 8) rfl (BxS.load (t := 38) b9 Try.underlying38 Try.info_gt) rfl) rfl ?_
      exact ⟨rfl, grown_far g0 g9 (fun q e => by cases e; exact Nat.le_refl _)⟩
  · rw [kwB_f hk] at h0
    have hE : stE z = 2 := by unfold stE; rw [kwB_f hk, if_neg (by decide)]
    obtain ⟨e1, e2, e3⟩ := st_no (z := z) (by rw [hE]; decide)
    rw [e1, e2, e3, e3, e3, hE]
    clear hk
    go_enter Try.func27, Try.ntmps27
    go_wp2_with (first
      | (go_at_call 62; have _t := t1; clear t1; refine (h0 _).mono ?_; rintro e wx ⟨rfl, hw⟩; have hw := hw.symm; subst hw)
      | (have _t := t2; refine wpList_stX _ rfl _ (.tmp 2) (.tmp 7) rfl w.heap.size _ _ rfl rfl B2 i7 rfl (by simp [Value.oneCell']) ?_; clear t2; intro w9 b9 g9))
    refine bodyPost_ret (results_cell1t rfl _ _ _ ⟨w.heap.size, 0, none⟩ _ (.int .i64 2) rfl (BxS.load (t := 38) b9 Try.underlying38 Try.info_gt) rfl) rfl ?_
    exact ⟨rfl, grown_far g0 g9 (fun q e => by cases e; exact Nat.le_refl _)⟩
set_option maxHeartbeats 8000000 in
theorem rread_any (z : Int) (w : World) : Calls Try.prog 26 #[.int .i64 z] w fun e w' => e = .returned (.tuple #[.agg (gtA 0 (stN z : Nat) 0 (stB z 13) (stB z 12) (stB z 11) (stC z : Nat)), .int .i64 (stE z : Nat)]) ∧ w.grownBy w' none := by
  have B0 := BxS.new w 38 (gtA 0 0 0 false false false 0)
  have g0 := World.grownBy_alloc w (.cells (gtA 0 0 0 false false false 0) 38) none
  have i7 := Try.info_gt
  unfold gtA at B0 g0 ⊢
  generalize hw0 : w.alloc (.cells #[.int .i64 0, .int .i64 0, .int .i64 0, .bool false, .bool false, .bool false, .int .i64 0] 38) = w0 at B0 g0
  have t2 : True := trivial
  by_cases hk : 0 ≤ z ∧ z ≤ 4294967295
  · obtain ⟨k0, k1⟩ := hk
    obtain ⟨x, rfl⟩ := Int.eq_ofNat_of_zero_le k0
    have h8 : bits .and .i64 (x : Int) 255 = ((x % 256 : Nat) : Int) := i64_low x 8 (by omega) (by decide)
    have h9 : bits .and .i64 ((x : Int) / 512) 3 = ((x / 512 % 4 : Nat) : Int) := by
      rw [show ((x : Int) / 512) = ((x / 512 : Nat) : Int) by omega]
      exact i64_low (x / 512) 2 (by omega) (by decide)
    have fk : ∀ k, k < 32 → bits .and .i64 (((x / 2 ^ k : Nat) : Int)) 1 = ((x / 2 ^ k % 2 : Nat) : Int) := fun k hk => i64_low (x / 2 ^ k) 1 (Nat.lt_of_le_of_lt (Nat.div_le_self _ _) (by omega)) (by decide)
    have f8 : bits .and .i64 ((x : Int) / 256) 1 = ((x / 2 ^ 8 % 2 : Nat) : Int) := by rw [show ((x : Int) / 256) = ((x / 2 ^ 8 : Nat) : Int) by omega]; exact fk 8 (by decide)
    by_cases hf : x / 16384 = 1024 ∧ x / 256 % 2 = 0
    · have hE : stE (x : Int) = 0 := by unfold stE; rw [kwB_t ⟨k0, k1⟩, if_pos rfl, Int.toNat_natCast, if_pos hf]
      have sb : ∀ k, stB (x : Int) k = decide (x / 2 ^ k % 2 = 1) := fun k => by unfold stB; rw [decide_eq_true hE, Int.toNat_natCast]; rfl
      have sn : stN (x : Int) = x % 256 := by unfold stN; rw [if_pos hE, Int.toNat_natCast]
      have sc : stC (x : Int) = x / 512 % 4 := by unfold stC; rw [if_pos hE, Int.toNat_natCast]
      rw [hE, sn, sc]
      have h14 : (x : Int) / 16384 = 1024 := by omega
      have f8 : bits .and .i64 ((x : Int) / 256) 1 = 0 := by rw [f8]; show ((x / 256 % 2 : Nat) : Int) = _; rw [hf.2]; rfl
      generalize x % 256 = N at h8 ⊢
      generalize x / 512 % 4 = C at h9 ⊢
      have fb : ∀ k, k < 32 → (bits .and .i64 ((x / 2 ^ k : Nat) : Int) 1 == 1) = stB (x : Int) k := fun k hk => by
        rw [fk k hk, sb]
        rcases bit_two x k with e | e
        · rw [e]; rfl
        · rw [e]; rfl
      have F13 : Hid ((bits .and .i64 ((x : Int) / 8192) 1 == 1) = stB (x : Int) 13) := by rw [show ((x : Int) / 8192) = ((x / 2 ^ 13 : Nat) : Int) by omega]; exact fb 13 (by decide)
      have F12 : Hid ((bits .and .i64 ((x : Int) / 4096) 1 == 1) = stB (x : Int) 12) := by rw [show ((x : Int) / 4096) = ((x / 2 ^ 12 : Nat) : Int) by omega]; exact fb 12 (by decide)
      have F11 : Hid ((bits .and .i64 ((x : Int) / 2048) 1 == 1) = stB (x : Int) 11) := by rw [show ((x : Int) / 2048) = ((x / 2 ^ 11 : Nat) : Int) by omega]; exact fb 11 (by decide)
      clear sb hf hE sn sc fb fk
      have gA := fun (p q r : Bool) => World.grownBy_alloc w0 (.cells #[.int .i64 0, .int .i64 N, .int .i64 0, .bool p, .bool q, .bool r, .int .i64 C] 38) none
      go_enter Try.func26, Try.ntmps26
      go_wp2_with (first
        | (have _t := t2; refine wpList_stX _ rfl _ (.tmp 2) (.tmp 40) rfl w.heap.size _ _ rfl rfl (B0.keep (gA _ _ _) (by simp)) i7 rfl (by simp [Value.oneCell']) ?_; clear t2; intro w9 b9 g9))
      refine bodyPost_ret (results_cell1t rfl _ _ _ ⟨w.heap.size, 0, none⟩ _ (.int .i64 0) rfl (BxS.load (t := 38) b9 Try.underlying38 Try.info_gt) rfl) rfl ?_
      exact ⟨by rw [← F13.out, ← F12.out, ← F11.out]; rfl, grown_far (grown_trans g0 (gA _ _ _)) g9 (fun q e => by cases e; exact Nat.le_refl _)⟩
    · have hE : stE (x : Int) = 8 := by unfold stE; rw [kwB_t ⟨k0, k1⟩, if_pos rfl, Int.toNat_natCast, if_neg hf]
      obtain ⟨e1, e2, e3⟩ := st_no (z := (x : Int)) (by rw [hE]; decide)
      rw [e1, e2, e3, e3, e3, hE]
      clear e1 e2 e3 hE
      have gA := fun (N C : Nat) (p q r : Bool) => World.grownBy_alloc w0 (.cells #[.int .i64 0, .int .i64 N, .int .i64 0, .bool p, .bool q, .bool r, .int .i64 C] 38) none
      generalize x % 256 = N at h8
      generalize x / 512 % 4 = C at h9
      clear fk
      by_cases h14 : x / 16384 = 1024
      · have h14' : (x : Int) / 16384 = 1024 := by omega
        have f8 : bits .and .i64 ((x : Int) / 256) 1 = 1 := by rw [f8]; show ((x / 256 % 2 : Nat) : Int) = _; rw [show x / 256 % 2 = 1 by omega]; rfl
        clear hf h14
        go_enter Try.func26, Try.ntmps26
        go_wp2_with (first
          | (have _t := t2; refine wpList_stX _ rfl _ (.tmp 2) (.tmp 39) rfl w.heap.size _ _ rfl rfl (B0.keep (gA _ _ _ _ _) (by simp)) i7 rfl (by simp [Value.oneCell']) ?_; clear t2; intro w9 b9 g9))
        refine bodyPost_ret (results_cell1t rfl _ _ _ ⟨w.heap.size, 0, none⟩ _ (.int .i64 8) rfl (BxS.load (t := 38) b9 Try.underlying38 Try.info_gt) rfl) rfl ?_
        exact ⟨rfl, grown_far (grown_trans g0 (gA _ _ _ _ _)) g9 (fun q e => by cases e; exact Nat.le_refl _)⟩
      · have h14' : (((x : Int) / 16384 != 1024) : Bool) = true := by simp; omega
        clear hf h14 f8
        go_enter Try.func26, Try.ntmps26
        go_wp2_with (first
          | (have _t := t2; refine wpList_stX _ rfl _ (.tmp 2) (.tmp 39) rfl w.heap.size _ _ rfl rfl (B0.keep (gA _ _ _ _ _) (by simp)) i7 rfl (by simp [Value.oneCell']) ?_; clear t2; intro w9 b9 g9))
        refine bodyPost_ret (results_cell1t rfl _ _ _ ⟨w.heap.size, 0, none⟩ _ (.int .i64 8) rfl (BxS.load (t := 38) b9 Try.underlying38 Try.info_gt) rfl) rfl ?_
        exact ⟨rfl, grown_far (grown_trans g0 (gA _ _ _ _ _)) g9 (fun q e => by cases e; exact Nat.le_refl _)⟩
  · have hE : stE z = 2 := by unfold stE; rw [kwB_f hk, if_neg (by decide)]
    obtain ⟨e1, e2, e3⟩ := st_no (z := z) (by rw [hE]; decide)
    rw [e1, e2, e3, e3, e3, hE]
    clear e1 e2 e3 hE
    by_cases k0 : z < 0
    · clear hk
      go_enter Try.func26, Try.ntmps26
      go_wp2_with (first
        | (have _t := t2; refine wpList_stX _ rfl _ (.tmp 2) (.tmp 11) rfl w.heap.size _ _ rfl rfl B0 i7 rfl (by simp [Value.oneCell']) ?_; clear t2; intro w9 b9 g9))
      refine bodyPost_ret (results_cell1t rfl _ _ _ ⟨w.heap.size, 0, none⟩ _ (.int .i64 2) rfl (BxS.load (t := 38) b9 Try.underlying38 Try.info_gt) rfl) rfl ?_
      exact ⟨rfl, grown_far g0 g9 (fun q e => by cases e; exact Nat.le_refl _)⟩
    · have k1 : 4294967295 < z := by omega
      clear hk
      go_enter Try.func26, Try.ntmps26
      go_wp2_with (first
        | (have _t := t2; refine wpList_stX _ rfl _ (.tmp 2) (.tmp 11) rfl w.heap.size _ _ rfl rfl B0 i7 rfl (by simp [Value.oneCell']) ?_; clear t2; intro w9 b9 g9))
      refine bodyPost_ret (results_cell1t rfl _ _ _ ⟨w.heap.size, 0, none⟩ _ (.int .i64 2) rfl (BxS.load (t := 38) b9 Try.underlying38 Try.info_gt) rfl) rfl ?_
      exact ⟨rfl, grown_far g0 g9 (fun q e => by cases e; exact Nat.le_refl _)⟩
end Go.Proofs.Ytnnoeeakkpaocaa
