import Derived.Test.YtnnoeeakkpaocaaKHm1
import Derived.Test.YtnnoeeakkpaocaaPOp
namespace Go.Proofs.Ytnnoeeakkpaocaa
open Go.RowKit
set_option maxRecDepth 100000
set_option linter.unusedVariables false
set_option linter.unusedSimpArgs false

def reB (cr ah pa pu li : Int) : Bool := kwB cr 0 1023 && kwB ah 1 127 && kwB pa 1 1000 && kwB pu 0 1000 && kwB li 1 100
def reX (cr ah pa pu li z : Int) : Int := if reB cr ah pa pu li = true then z else 0
def reE (cr ah pa pu li : Int) : Nat := if reB cr ah pa pu li = true then 0 else 2
def rw0 : Rw := ⟨none, 0, 0, []⟩
theorem rdr_nil (w : World) (F : Nat → Rw) : RdR w none 0 0 F := ⟨Nat.le_refl _, Nat.zero_le _, fun h => absurd h (by decide), fun i h => absurd h (by omega)⟩
theorem hn_re (cr ah pa pu li : Int) : hnB cr 0 ah 0 (fun _ => rw0) 0 (fun _ => rw0) 0 pa 0 li pu pu 0 = reB cr ah pa pu li := by
  unfold hnB reB cmB
  rw [show kwB 0 0 255 = true from rfl, show hlB 0 = true from rfl, show alC (fun _ => rw0) 0 = true from rfl, show decide (((0 : Nat) : Int) ≤ 100) = true from rfl]
  cases e1 : kwB cr 0 1023 <;> simp
  cases e2 : kwB ah 1 127 <;> simp
  cases e3 : kwB pa 1 1000 <;> simp
  cases e4 : kwB pu 0 1000 <;> simp
  cases e5 : kwB li 1 100 <;> simp
  have h2 := kwB_ok e2
  have h3 := kwB_ok e3
  have h4 := kwB_ok e4
  have h5 := kwB_ok e5
  refine ⟨⟨⟨by omega, kwB_t (by omega)⟩, kwB_t (by omega)⟩, kwB_t (by omega)⟩
set_option maxHeartbeats 8000000 in
theorem ready_any (cr ah pa pu li : Int) (w : World) : Calls Try.prog 31 #[.int .i64 cr, .int .i64 ah, .int .i64 pa, .int .i64 pu, .int .i64 li] w fun e w' => e = .returned (.tuple #[.agg (hnA (reX cr ah pa pu li cr) 0 (reX cr ah pa pu li ah) (.slice none 0 0) (.slice none 0 0) 0 (reX cr ah pa pu li pa) 0 (reX cr ah pa pu li li) (reX cr ah pa pu li pu) (reX cr ah pa pu li pu) 0), .int .i64 (reE cr ah pa pu li : Nat)]) ∧ w.grownBy w' none := by
  have h0 := fun wz => hmay_any cr 0 ah none 0 0 (fun _ => rw0) none 0 0 (fun _ => rw0) 0 pa 0 li pu pu 0 wz (rdr_nil _ _) (rdr_nil _ _)
  rw [hn_re] at h0
  have b0 := BxS.new w 50 #[.int .i64 0, .int .i64 0, .int .i64 0, .slice none 0 0, .slice none 0 0, .int .i64 0, .int .i64 0, .int .i64 0, .int .i64 0, .int .i64 0, .int .i64 0, .int .i64 0]
  have g0 := World.grownBy_alloc w (.cells #[.int .i64 0, .int .i64 0, .int .i64 0, .slice none 0 0, .slice none 0 0, .int .i64 0, .int .i64 0, .int .i64 0, .int .i64 0, .int .i64 0, .int .i64 0, .int .i64 0] 50) none
  have i12 := Try.info_hn
  unfold reX reE
  generalize reB cr ah pa pu li = b at h0 ⊢
  unfold hnA at h0 ⊢
  generalize hw0 : w.alloc (.cells #[.int .i64 0, .int .i64 0, .int .i64 0, .slice none 0 0, .slice none 0 0, .int .i64 0, .int .i64 0, .int .i64 0, .int .i64 0, .int .i64 0, .int .i64 0, .int .i64 0] 50) = w0 at b0 g0
  have b1 := BxS.new w0 50 #[.int .i64 cr, .int .i64 0, .int .i64 ah, .slice none 0 0, .slice none 0 0, .int .i64 0, .int .i64 pa, .int .i64 0, .int .i64 li, .int .i64 pu, .int .i64 pu, .int .i64 0]
  have g1 := World.grownBy_alloc w0 (.cells #[.int .i64 cr, .int .i64 0, .int .i64 ah, .slice none 0 0, .slice none 0 0, .int .i64 0, .int .i64 pa, .int .i64 0, .int .i64 li, .int .i64 pu, .int .i64 pu, .int .i64 0] 50) none
  have t1 : True := trivial
  cases b
  · go_enter Try.func31, Try.ntmps31
    go_wp2_with (first
      | (go_at_call 64; have _t := t1; clear t1; refine (h0 _).mono ?_; rintro e w2 ⟨rfl, g2⟩; have b2 := (b0.keep g1 (by simp)).keep g2 (by simp); have t2 : True := trivial)
      | (have _t := t2; refine wpList_stX _ rfl _ (.tmp 10) (.tmp 23) rfl w.heap.size _ _ rfl rfl b2 i12 rfl (by simp [Value.oneCell']) ?_; clear t2; intro w9 b9 g9))
    refine bodyPost_ret (results_cell1t rfl _ _ _ ⟨w.heap.size, 0, none⟩ _ (.int .i64 2) rfl (BxS.load (t := 50) b9 Try.underlying50 Try.info_hn) rfl) rfl ?_
    exact ⟨rfl, grown_far (grown_trans (grown_trans g0 g1) g2) g9 (fun q e => by cases e; exact Nat.le_refl _)⟩
  · go_enter Try.func31, Try.ntmps31
    go_wp2_with (first
      | (go_at_call 64; have _t := t1; clear t1; refine (h0 _).mono ?_; rintro e w2 ⟨rfl, g2⟩; have b2 := (b0.keep g1 (by simp)).keep g2 (by simp); obtain ⟨d0, d1, d2, d3, d4, d5, d6, d7, d8, d9, d10, d11⟩ := (b1.keep g2 (by simp)).cell12; have t2 : True := trivial)
      | (have _t := t2; refine wpList_stX _ rfl _ (.tmp 10) (.tmp 24) rfl w.heap.size _ _ rfl rfl b2 i12 rfl (by simp [Value.oneCell']) ?_; clear t2; intro w9 b9 g9))
    refine bodyPost_ret (results_cell1t rfl _ _ _ ⟨w.heap.size, 0, none⟩ _ (.int .i64 0) rfl (BxS.load (t := 50) b9 Try.underlying50 Try.info_hn) rfl) rfl ?_
    exact ⟨rfl, grown_far (grown_trans (grown_trans g0 g1) g2) g9 (fun q e => by cases e; exact Nat.le_refl _)⟩
theorem reB_no {cr ah pa pu li : Int} (h : ¬ ((0 ≤ cr ∧ cr ≤ 1023) ∧ (1 ≤ ah ∧ ah ≤ 127) ∧ (1 ≤ pa ∧ pa ≤ 1000) ∧ (0 ≤ pu ∧ pu ≤ 1000) ∧ (1 ≤ li ∧ li ≤ 100))) : reB cr ah pa pu li = false := by
  cases e : reB cr ah pa pu li with
  | false => rfl
  | true =>
    exfalso
    unfold reB at e
    simp only [Bool.and_eq_true_iff] at e
    obtain ⟨⟨⟨⟨a1, a2⟩, a3⟩, a4⟩, a5⟩ := e
    exact h ⟨kwB_ok a1, kwB_ok a2, kwB_ok a3, kwB_ok a4, kwB_ok a5⟩
set_option maxHeartbeats 16000000 in
theorem rready_any (cr ah pa pu li : Int) (w : World) : Calls Try.prog 30 #[.int .i64 cr, .int .i64 ah, .int .i64 pa, .int .i64 pu, .int .i64 li] w fun e w' => e = .returned (.tuple #[.agg (hnA (reX cr ah pa pu li cr) 0 (reX cr ah pa pu li ah) (.slice none 0 0) (.slice none 0 0) 0 (reX cr ah pa pu li pa) 0 (reX cr ah pa pu li li) (reX cr ah pa pu li pu) (reX cr ah pa pu li pu) 0), .int .i64 (reE cr ah pa pu li : Nat)]) ∧ w.grownBy w' none := by
  have b0 := BxS.new w 50 #[.int .i64 0, .int .i64 0, .int .i64 0, .slice none 0 0, .slice none 0 0, .int .i64 0, .int .i64 0, .int .i64 0, .int .i64 0, .int .i64 0, .int .i64 0, .int .i64 0]
  have g0 := World.grownBy_alloc w (.cells #[.int .i64 0, .int .i64 0, .int .i64 0, .slice none 0 0, .slice none 0 0, .int .i64 0, .int .i64 0, .int .i64 0, .int .i64 0, .int .i64 0, .int .i64 0, .int .i64 0] 50) none
  have i12 := Try.info_hn
  have hno := @reB_no cr ah pa pu li
  unfold reX reE
  unfold hnA
  generalize hw0 : w.alloc (.cells #[.int .i64 0, .int .i64 0, .int .i64 0, .slice none 0 0, .slice none 0 0, .int .i64 0, .int .i64 0, .int .i64 0, .int .i64 0, .int .i64 0, .int .i64 0, .int .i64 0] 50) = w0 at b0 g0
  have t2 : True := trivial
  by_cases k0 : 0 ≤ cr
  case neg =>
    rw [hno (by omega)]
    clear hno
    go_enter Try.func30, Try.ntmps30
    go_wp2_with (first
      | (have _t := t2; refine wpList_stX _ rfl _ (.tmp 10) (.tmp 50) rfl w.heap.size _ _ rfl rfl b0 i12 rfl (by simp [Value.oneCell']) ?_; clear t2; intro w9 b9 g9))
    refine bodyPost_ret (results_cell1t rfl _ _ _ ⟨w.heap.size, 0, none⟩ _ (.int .i64 2) rfl (BxS.load (t := 50) b9 Try.underlying50 Try.info_hn) rfl) rfl ?_
    exact ⟨rfl, grown_far g0 g9 (fun q e => by cases e; exact Nat.le_refl _)⟩
  by_cases k1 : cr ≤ 1023
  case neg =>
    rw [hno (by omega)]
    clear hno
    go_enter Try.func30, Try.ntmps30
    go_wp2_with (first
      | (have _t := t2; refine wpList_stX _ rfl _ (.tmp 10) (.tmp 50) rfl w.heap.size _ _ rfl rfl b0 i12 rfl (by simp [Value.oneCell']) ?_; clear t2; intro w9 b9 g9))
    refine bodyPost_ret (results_cell1t rfl _ _ _ ⟨w.heap.size, 0, none⟩ _ (.int .i64 2) rfl (BxS.load (t := 50) b9 Try.underlying50 Try.info_hn) rfl) rfl ?_
    exact ⟨rfl, grown_far g0 g9 (fun q e => by cases e; exact Nat.le_refl _)⟩
  by_cases k2 : 1 ≤ ah
  case neg =>
    rw [hno (by omega)]
    clear hno
    go_enter Try.func30, Try.ntmps30
    go_wp2_with (first
      | (have _t := t2; refine wpList_stX _ rfl _ (.tmp 10) (.tmp 50) rfl w.heap.size _ _ rfl rfl b0 i12 rfl (by simp [Value.oneCell']) ?_; clear t2; intro w9 b9 g9))
    refine bodyPost_ret (results_cell1t rfl _ _ _ ⟨w.heap.size, 0, none⟩ _ (.int .i64 2) rfl (BxS.load (t := 50) b9 Try.underlying50 Try.info_hn) rfl) rfl ?_
    exact ⟨rfl, grown_far g0 g9 (fun q e => by cases e; exact Nat.le_refl _)⟩
  by_cases k3 : ah ≤ 127
  case neg =>
    rw [hno (by omega)]
    clear hno
    go_enter Try.func30, Try.ntmps30
    go_wp2_with (first
      | (have _t := t2; refine wpList_stX _ rfl _ (.tmp 10) (.tmp 50) rfl w.heap.size _ _ rfl rfl b0 i12 rfl (by simp [Value.oneCell']) ?_; clear t2; intro w9 b9 g9))
    refine bodyPost_ret (results_cell1t rfl _ _ _ ⟨w.heap.size, 0, none⟩ _ (.int .i64 2) rfl (BxS.load (t := 50) b9 Try.underlying50 Try.info_hn) rfl) rfl ?_
    exact ⟨rfl, grown_far g0 g9 (fun q e => by cases e; exact Nat.le_refl _)⟩
  by_cases k4 : 1 ≤ pa
  case neg =>
    rw [hno (by omega)]
    clear hno
    go_enter Try.func30, Try.ntmps30
    go_wp2_with (first
      | (have _t := t2; refine wpList_stX _ rfl _ (.tmp 10) (.tmp 50) rfl w.heap.size _ _ rfl rfl b0 i12 rfl (by simp [Value.oneCell']) ?_; clear t2; intro w9 b9 g9))
    refine bodyPost_ret (results_cell1t rfl _ _ _ ⟨w.heap.size, 0, none⟩ _ (.int .i64 2) rfl (BxS.load (t := 50) b9 Try.underlying50 Try.info_hn) rfl) rfl ?_
    exact ⟨rfl, grown_far g0 g9 (fun q e => by cases e; exact Nat.le_refl _)⟩
  by_cases k5 : pa ≤ 1000
  case neg =>
    rw [hno (by omega)]
    clear hno
    go_enter Try.func30, Try.ntmps30
    go_wp2_with (first
      | (have _t := t2; refine wpList_stX _ rfl _ (.tmp 10) (.tmp 50) rfl w.heap.size _ _ rfl rfl b0 i12 rfl (by simp [Value.oneCell']) ?_; clear t2; intro w9 b9 g9))
    refine bodyPost_ret (results_cell1t rfl _ _ _ ⟨w.heap.size, 0, none⟩ _ (.int .i64 2) rfl (BxS.load (t := 50) b9 Try.underlying50 Try.info_hn) rfl) rfl ?_
    exact ⟨rfl, grown_far g0 g9 (fun q e => by cases e; exact Nat.le_refl _)⟩
  by_cases k6 : 0 ≤ pu
  case neg =>
    rw [hno (by omega)]
    clear hno
    go_enter Try.func30, Try.ntmps30
    go_wp2_with (first
      | (have _t := t2; refine wpList_stX _ rfl _ (.tmp 10) (.tmp 50) rfl w.heap.size _ _ rfl rfl b0 i12 rfl (by simp [Value.oneCell']) ?_; clear t2; intro w9 b9 g9))
    refine bodyPost_ret (results_cell1t rfl _ _ _ ⟨w.heap.size, 0, none⟩ _ (.int .i64 2) rfl (BxS.load (t := 50) b9 Try.underlying50 Try.info_hn) rfl) rfl ?_
    exact ⟨rfl, grown_far g0 g9 (fun q e => by cases e; exact Nat.le_refl _)⟩
  by_cases k7 : pu ≤ 1000
  case neg =>
    rw [hno (by omega)]
    clear hno
    go_enter Try.func30, Try.ntmps30
    go_wp2_with (first
      | (have _t := t2; refine wpList_stX _ rfl _ (.tmp 10) (.tmp 50) rfl w.heap.size _ _ rfl rfl b0 i12 rfl (by simp [Value.oneCell']) ?_; clear t2; intro w9 b9 g9))
    refine bodyPost_ret (results_cell1t rfl _ _ _ ⟨w.heap.size, 0, none⟩ _ (.int .i64 2) rfl (BxS.load (t := 50) b9 Try.underlying50 Try.info_hn) rfl) rfl ?_
    exact ⟨rfl, grown_far g0 g9 (fun q e => by cases e; exact Nat.le_refl _)⟩
  by_cases k8 : 1 ≤ li
  case neg =>
    rw [hno (by omega)]
    clear hno
    go_enter Try.func30, Try.ntmps30
    go_wp2_with (first
      | (have _t := t2; refine wpList_stX _ rfl _ (.tmp 10) (.tmp 50) rfl w.heap.size _ _ rfl rfl b0 i12 rfl (by simp [Value.oneCell']) ?_; clear t2; intro w9 b9 g9))
    refine bodyPost_ret (results_cell1t rfl _ _ _ ⟨w.heap.size, 0, none⟩ _ (.int .i64 2) rfl (BxS.load (t := 50) b9 Try.underlying50 Try.info_hn) rfl) rfl ?_
    exact ⟨rfl, grown_far g0 g9 (fun q e => by cases e; exact Nat.le_refl _)⟩
  by_cases k9 : li ≤ 100
  case neg =>
    rw [hno (by omega)]
    clear hno
    go_enter Try.func30, Try.ntmps30
    go_wp2_with (first
      | (have _t := t2; refine wpList_stX _ rfl _ (.tmp 10) (.tmp 50) rfl w.heap.size _ _ rfl rfl b0 i12 rfl (by simp [Value.oneCell']) ?_; clear t2; intro w9 b9 g9))
    refine bodyPost_ret (results_cell1t rfl _ _ _ ⟨w.heap.size, 0, none⟩ _ (.int .i64 2) rfl (BxS.load (t := 50) b9 Try.underlying50 Try.info_hn) rfl) rfl ?_
    exact ⟨rfl, grown_far g0 g9 (fun q e => by cases e; exact Nat.le_refl _)⟩
  have e : reB cr ah pa pu li = true := by unfold reB; rw [kwB_t ⟨k0, k1⟩, kwB_t ⟨k2, k3⟩, kwB_t ⟨k4, k5⟩, kwB_t ⟨k6, k7⟩, kwB_t ⟨k8, k9⟩]; rfl
  rw [e]
  clear hno e
  go_enter Try.func30, Try.ntmps30
  go_wp2_with (first
    | (have _t := t2; refine wpList_stX _ rfl _ (.tmp 10) (.tmp 57) rfl w.heap.size _ _ rfl rfl b0 i12 rfl (by simp [Value.oneCell']) ?_; clear t2; intro w9 b9 g9))
  refine bodyPost_ret (results_cell1t rfl _ _ _ ⟨w.heap.size, 0, none⟩ _ (.int .i64 0) rfl (BxS.load (t := 50) b9 Try.underlying50 Try.info_hn) rfl) rfl ?_
  exact ⟨rfl, grown_far g0 g9 (fun q e => by cases e; exact Nat.le_refl _)⟩
end Go.Proofs.Ytnnoeeakkpaocaa
