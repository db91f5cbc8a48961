import Derived.Test.YtnnoeeakkpaocaaKHm1
import Derived.Test.YtnnoeeakkpaocaaPOp
namespace Go.Proofs.Ytnnoeeakkpaocaa
open Go.RowKit
set_option maxRecDepth 100000
set_option linter.unusedVariables false
set_option linter.unusedSimpArgs false

set_option maxHeartbeats 4000000 in
/-- the document's 'ordered': are all of them of a size that may be? -/
theorem ordered_any (a : Option Addr) (n cap : Nat) (F : Nat → Rw) (w : World) (h : RdR w a n cap F) :
    Calls Try.prog 84 #[.slice a n cap] w fun e w' => e = .returned (.bool (alC F n)) ∧ w.grownBy w' none := by
  have hle := h.le
  have hmx := h.max
  unfold maxLen at hmx
  generalize hZ : alC F n = Z
  have HZ : Hid (alC F n = Z) := hZ
  clear hZ
  go_enter Try.func84, Try.ntmps84
  go_wp2
  go_loopw [3] (fun i wr => ∃ k : Nat, k ≤ n ∧ i = .int .i64 k ∧ Hid (alC F k = true) ∧ w.grownBy wr none) (fun i _ => n - (intOf i).toNat)
  case atStart => exact ⟨0, by omega, rfl, show alC F 0 = true from rfl, World.grownBy.refl _ _⟩
  case round =>
    obtain ⟨k, hk, rfl, HK, hgr⟩ := hrel
    by_cases hlt : k < n
    · have h2 := h.keep hgr
      obtain ⟨ba, oa, rfl, hba, ca⟩ := h2.at' (by omega)
      have d1 := ca k hlt
      have l1 : (k : Int) < (n : Int) := by omega
      have hr := (h2.data k hlt).le
      have hr2 := (h2.data k hlt).max
      unfold maxLen at hr2
      by_cases hv : 1 ≤ (F k).n ∧ (F k).n ≤ 1017
      · have HK1 : Hid (alC F (k + 1) = true) := show (alC F k && kwB (F k).n 1 1017) = true by rw [HK.out, kwB_t (by omega)]; rfl
        have m0 : decide (((F k).n : Int) < 1) = false := decide_eq_false (by omega)
        have m1 : decide ((1017 : Int) < ((F k).n : Int)) = false := decide_eq_false (by omega)
        clear ca h2
        go_wp2
        go_roundw
        case rel => exact ⟨k + 1, by omega, by go_num, HK1, hgr⟩
        case measure => simp [intOf]; omega
      · have hZ : Z = false := by rw [← HZ.out]; exact alC_no F k (kwB_f (by omega)) n hlt
        subst hZ
        by_cases hv0 : (F k).n < 1
        · have m0 : decide (((F k).n : Int) < 1) = true := decide_eq_true (by omega)
          clear ca h2
          go_wp2
          go_ret
          exact ⟨rfl, hgr⟩
        · have m0 : decide (((F k).n : Int) < 1) = false := decide_eq_false (by omega)
          have m1 : decide ((1017 : Int) < ((F k).n : Int)) = true := decide_eq_true (by omega)
          clear ca h2
          go_wp2
          go_ret
          exact ⟨rfl, hgr⟩
    · obtain rfl : k = n := by omega
      have hZ : Z = true := HZ.out.symm.trans HK.out
      subst hZ
      go_wp2
      go_ret
      exact ⟨rfl, hgr⟩

def reB (cr ah pa pu li : Int) : Bool := kwB cr 0 1023 && kwB ah 1 127 && kwB pa 1 1000 && kwB pu 0 1000 && kwB li 1 100
def reX (cr ah pa pu li z : Int) : Int := if reB cr ah pa pu li = true then z else 0
def reE (cr ah pa pu li : Int) : Nat := if reB cr ah pa pu li = true then 0 else 2
def rw0 : Rw := ⟨none, 0, 0, []⟩
theorem rdr_nil (w : World) (F : Nat → Rw) : RdR w none 0 0 F := ⟨Nat.le_refl _, Nat.zero_le _, fun h => absurd h (by decide), fun i h => absurd h (by omega)⟩
theorem hn_re (cr ah pa pu li : Int) : hnB cr 0 ah 0 (fun _ => rw0) 0 (fun _ => rw0) 0 pa 0 li pu pu 0 = reB cr ah pa pu li := by
  unfold hnB reB cmB
  rw [show kwB 0 0 255 = true from rfl, show hlB 0 = true from rfl, show alC (fun _ => rw0) 0 = true from rfl, show decide (((0 : Nat) : Int) ≤ 100) = true from rfl]
  cases e1 : kwB cr 0 1023 <;> simp
  cases e2 : kwB ah 1 127 <;> simp
  cases e3 : kwB pa 1 1000 <;> simp
  cases e4 : kwB pu 0 1000 <;> simp
  cases e5 : kwB li 1 100 <;> simp
  have h2 := kwB_ok e2
  have h3 := kwB_ok e3
  have h4 := kwB_ok e4
  have h5 := kwB_ok e5
  refine ⟨⟨⟨by omega, kwB_t (by omega)⟩, kwB_t (by omega)⟩, kwB_t (by omega)⟩
set_option maxHeartbeats 8000000 in
theorem ready_any (cr ah pa pu li : Int) (w : World) : Calls Try.prog 31 #[.int .i64 cr, .int .i64 ah, .int .i64 pa, .int .i64 pu, .int .i64 li] w fun e w' => e = .returned (.tuple #[.agg (hnA (reX cr ah pa pu li cr) 0 (reX cr ah pa pu li ah) (.slice none 0 0) (.slice none 0 0) 0 (reX cr ah pa pu li pa) 0 (reX cr ah pa pu li li) (reX cr ah pa pu li pu) (reX cr ah pa pu li pu) 0), .int .i64 (reE cr ah pa pu li : Nat)]) ∧ w.grownBy w' none := by
  have h0 := fun wz => hmay_any cr 0 ah none 0 0 (fun _ => rw0) none 0 0 (fun _ => rw0) 0 pa 0 li pu pu 0 wz (rdr_nil _ _) (rdr_nil _ _)
  rw [hn_re] at h0
  have b0 := BxS.new w 50 #[.int .i64 0, .int .i64 0, .int .i64 0, .slice none 0 0, .slice none 0 0, .int .i64 0, .int .i64 0, .int .i64 0, .int .i64 0, .int .i64 0, .int .i64 0, .int .i64 0]
  have g0 := World.grownBy_alloc w (.cells #[.int .i64 0, .int .i64 0, .int .i64 0, .slice none 0 0, .slice none 0 0, .int .i64 0, .int .i64 0, .int .i64 0, .int .i64 0, .int .i64 0, .int .i64 0, .int .i64 0] 50) none
  have i12 := Try.info_hn
  unfold reX reE
  generalize reB cr ah pa pu li = b at h0 ⊢
  unfold hnA at h0 ⊢
  generalize hw0 : w.alloc (.cells #[.int .i64 0, .int .i64 0, .int .i64 0, .slice none 0 0, .slice none 0 0, .int .i64 0, .int .i64 0, .int .i64 0, .int .i64 0, .int .i64 0, .int .i64 0, .int .i64 0] 50) = w0 at b0 g0
  have b1 := BxS.new w0 50 #[.int .i64 cr, .int .i64 0, .int .i64 ah, .slice none 0 0, .slice none 0 0, .int .i64 0, .int .i64 pa, .int .i64 0, .int .i64 li, .int .i64 pu, .int .i64 pu, .int .i64 0]
  have g1 := World.grownBy_alloc w0 (.cells #[.int .i64 cr, .int .i64 0, .int .i64 ah, .slice none 0 0, .slice none 0 0, .int .i64 0, .int .i64 pa, .int .i64 0, .int .i64 li, .int .i64 pu, .int .i64 pu, .int .i64 0] 50) none
  have t1 : True := trivial
  cases b
  · go_enter Try.func31, Try.ntmps31
    go_wp2_with (first
      | (go_at_call 64; have _t := t1; clear t1; refine (h0 _).mono ?_; rintro e w2 ⟨rfl, g2⟩; have b2 := (b0.keep g1 (by simp)).keep g2 (by simp); have t2 : True := trivial)
      | (have _t := t2; refine wpList_stX _ rfl _ (.tmp 10) (.tmp 23) rfl w.heap.size _ _ rfl rfl b2 i12 rfl (by simp [Value.oneCell']) ?_; clear t2; intro w9 b9 g9))
    refine bodyPost_ret (results_cell1t rfl _ _ _ ⟨w.heap.size, 0, none⟩ _ (.int .i64 2) rfl (BxS.load (t := 50) b9 Try.underlying50 Try.info_hn) rfl) rfl ?_
    exact ⟨rfl, grown_far (grown_trans (grown_trans g0 g1) g2) g9 (fun q e => by cases e; exact Nat.le_refl _)⟩
  · go_enter Try.func31, Try.ntmps31
    go_wp2_with (first
      | (go_at_call 64; have _t := t1; clear t1; refine (h0 _).mono ?_; rintro e w2 ⟨rfl, g2⟩; have b2 := (b0.keep g1 (by simp)).keep g2 (by simp); obtain ⟨d0, d1, d2, d3, d4, d5, d6, d7, d8, d9, d10, d11⟩ := (b1.keep g2 (by simp)).cell12; have t2 : True := trivial)
      | (have _t := t2; refine wpList_stX _ rfl _ (.tmp 10) (.tmp 24) rfl w.heap.size _ _ rfl rfl b2 i12 rfl (by simp [Value.oneCell']) ?_; clear t2; intro w9 b9 g9))
    refine bodyPost_ret (results_cell1t rfl _ _ _ ⟨w.heap.size, 0, none⟩ _ (.int .i64 0) rfl (BxS.load (t := 50) b9 Try.underlying50 Try.info_hn) rfl) rfl ?_
    exact ⟨rfl, grown_far (grown_trans (grown_trans g0 g1) g2) g9 (fun q e => by cases e; exact Nat.le_refl _)⟩
theorem reB_no {cr ah pa pu li : Int} (h : ¬ ((0 ≤ cr ∧ cr ≤ 1023) ∧ (1 ≤ ah ∧ ah ≤ 127) ∧ (1 ≤ pa ∧ pa ≤ 1000) ∧ (0 ≤ pu ∧ pu ≤ 1000) ∧ (1 ≤ li ∧ li ≤ 100))) : reB cr ah pa pu li = false := by
  cases e : reB cr ah pa pu li with
  | false => rfl
  | true =>
    exfalso
    unfold reB at e
    simp only [Bool.and_eq_true_iff] at e
    obtain ⟨⟨⟨⟨a1, a2⟩, a3⟩, a4⟩, a5⟩ := e
    exact h ⟨kwB_ok a1, kwB_ok a2, kwB_ok a3, kwB_ok a4, kwB_ok a5⟩
set_option maxHeartbeats 16000000 in
theorem rready_any (cr ah pa pu li : Int) (w : World) : Calls Try.prog 30 #[.int .i64 cr, .int .i64 ah, .int .i64 pa, .int .i64 pu, .int .i64 li] w fun e w' => e = .returned (.tuple #[.agg (hnA (reX cr ah pa pu li cr) 0 (reX cr ah pa pu li ah) (.slice none 0 0) (.slice none 0 0) 0 (reX cr ah pa pu li pa) 0 (reX cr ah pa pu li li) (reX cr ah pa pu li pu) (reX cr ah pa pu li pu) 0), .int .i64 (reE cr ah pa pu li : Nat)]) ∧ w.grownBy w' none := by
  have b0 := BxS.new w 50 #[.int .i64 0, .int .i64 0, .int .i64 0, .slice none 0 0, .slice none 0 0, .int .i64 0, .int .i64 0, .int .i64 0, .int .i64 0, .int .i64 0, .int .i64 0, .int .i64 0]
  have g0 := World.grownBy_alloc w (.cells #[.int .i64 0, .int .i64 0, .int .i64 0, .slice none 0 0, .slice none 0 0, .int .i64 0, .int .i64 0, .int .i64 0, .int .i64 0, .int .i64 0, .int .i64 0, .int .i64 0] 50) none
  have i12 := Try.info_hn
  have hno := @reB_no cr ah pa pu li
  unfold reX reE
  unfold hnA
  generalize hw0 : w.alloc (.cells #[.int .i64 0, .int .i64 0, .int .i64 0, .slice none 0 0, .slice none 0 0, .int .i64 0, .int .i64 0, .int .i64 0, .int .i64 0, .int .i64 0, .int .i64 0, .int .i64 0] 50) = w0 at b0 g0
  have t2 : True := trivial
  by_cases k0 : 0 ≤ cr
  case neg =>
    rw [hno (by omega)]
    clear hno
    go_enter Try.func30, Try.ntmps30
    go_wp2_with (first
      | (have _t := t2; refine wpList_stX _ rfl _ (.tmp 10) (.tmp 50) rfl w.heap.size _ _ rfl rfl b0 i12 rfl (by simp [Value.oneCell']) ?_; clear t2; intro w9 b9 g9))
    refine bodyPost_ret (results_cell1t rfl _ _ _ ⟨w.heap.size, 0, none⟩ _ (.int .i64 2) rfl (BxS.load (t := 50) b9 Try.underlying50 Try.info_hn) rfl) rfl ?_
    exact ⟨rfl, grown_far g0 g9 (fun q e => by cases e; exact Nat.le_refl _)⟩
  by_cases k1 : cr ≤ 1023
  case neg =>
    rw [hno (by omega)]
    clear hno
    go_enter Try.func30, Try.ntmps30
    go_wp2_with (first
      | (have _t := t2; refine wpList_stX _ rfl _ (.tmp 10) (.tmp 50) rfl w.heap.size _ _ rfl rfl b0 i12 rfl (by simp [Value.oneCell']) ?_; clear t2; intro w9 b9 g9))
    refine bodyPost_ret (results_cell1t rfl _ _ _ ⟨w.heap.size, 0, none⟩ _ (.int .i64 2) rfl (BxS.load (t := 50) b9 Try.underlying50 Try.info_hn) rfl) rfl ?_
    exact ⟨rfl, grown_far g0 g9 (fun q e => by cases e; exact Nat.le_refl _)⟩
  by_cases k2 : 1 ≤ ah
  case neg =>
    rw [hno (by omega)]
    clear hno
    go_enter Try.func30, Try.ntmps30
    go_wp2_with (first
      | (have _t := t2; refine wpList_stX _ rfl _ (.tmp 10) (.tmp 50) rfl w.heap.size _ _ rfl rfl b0 i12 rfl (by simp [Value.oneCell']) ?_; clear t2; intro w9 b9 g9))
    refine bodyPost_ret (results_cell1t rfl _ _ _ ⟨w.heap.size, 0, none⟩ _ (.int .i64 2) rfl (BxS.load (t := 50) b9 Try.underlying50 Try.info_hn) rfl) rfl ?_
    exact ⟨rfl, grown_far g0 g9 (fun q e => by cases e; exact Nat.le_refl _)⟩
  by_cases k3 : ah ≤ 127
  case neg =>
    rw [hno (by omega)]
    clear hno
    go_enter Try.func30, Try.ntmps30
    go_wp2_with (first
      | (have _t := t2; refine wpList_stX _ rfl _ (.tmp 10) (.tmp 50) rfl w.heap.size _ _ rfl rfl b0 i12 rfl (by simp [Value.oneCell']) ?_; clear t2; intro w9 b9 g9))
    refine bodyPost_ret (results_cell1t rfl _ _ _ ⟨w.heap.size, 0, none⟩ _ (.int .i64 2) rfl (BxS.load (t := 50) b9 Try.underlying50 Try.info_hn) rfl) rfl ?_
    exact ⟨rfl, grown_far g0 g9 (fun q e => by cases e; exact Nat.le_refl _)⟩
  by_cases k4 : 1 ≤ pa
  case neg =>
    rw [hno (by omega)]
    clear hno
    go_enter Try.func30, Try.ntmps30
    go_wp2_with (first
      | (have _t := t2; refine wpList_stX _ rfl _ (.tmp 10) (.tmp 50) rfl w.heap.size _ _ rfl rfl b0 i12 rfl (by simp [Value.oneCell']) ?_; clear t2; intro w9 b9 g9))
    refine bodyPost_ret (results_cell1t rfl _ _ _ ⟨w.heap.size, 0, none⟩ _ (.int .i64 2) rfl (BxS.load (t := 50) b9 Try.underlying50 Try.info_hn) rfl) rfl ?_
    exact ⟨rfl, grown_far g0 g9 (fun q e => by cases e; exact Nat.le_refl _)⟩
  by_cases k5 : pa ≤ 1000
  case neg =>
    rw [hno (by omega)]
    clear hno
    go_enter Try.func30, Try.ntmps30
    go_wp2_with (first
      | (have _t := t2; refine wpList_stX _ rfl _ (.tmp 10) (.tmp 50) rfl w.heap.size _ _ rfl rfl b0 i12 rfl (by simp [Value.oneCell']) ?_; clear t2; intro w9 b9 g9))
    refine bodyPost_ret (results_cell1t rfl _ _ _ ⟨w.heap.size, 0, none⟩ _ (.int .i64 2) rfl (BxS.load (t := 50) b9 Try.underlying50 Try.info_hn) rfl) rfl ?_
    exact ⟨rfl, grown_far g0 g9 (fun q e => by cases e; exact Nat.le_refl _)⟩
  by_cases k6 : 0 ≤ pu
  case neg =>
    rw [hno (by omega)]
    clear hno
    go_enter Try.func30, Try.ntmps30
    go_wp2_with (first
      | (have _t := t2; refine wpList_stX _ rfl _ (.tmp 10) (.tmp 50) rfl w.heap.size _ _ rfl rfl b0 i12 rfl (by simp [Value.oneCell']) ?_; clear t2; intro w9 b9 g9))
    refine bodyPost_ret (results_cell1t rfl _ _ _ ⟨w.heap.size, 0, none⟩ _ (.int .i64 2) rfl (BxS.load (t := 50) b9 Try.underlying50 Try.info_hn) rfl) rfl ?_
    exact ⟨rfl, grown_far g0 g9 (fun q e => by cases e; exact Nat.le_refl _)⟩
  by_cases k7 : pu ≤ 1000
  case neg =>
    rw [hno (by omega)]
    clear hno
    go_enter Try.func30, Try.ntmps30
    go_wp2_with (first
      | (have _t := t2; refine wpList_stX _ rfl _ (.tmp 10) (.tmp 50) rfl w.heap.size _ _ rfl rfl b0 i12 rfl (by simp [Value.oneCell']) ?_; clear t2; intro w9 b9 g9))
    refine bodyPost_ret (results_cell1t rfl _ _ _ ⟨w.heap.size, 0, none⟩ _ (.int .i64 2) rfl (BxS.load (t := 50) b9 Try.underlying50 Try.info_hn) rfl) rfl ?_
    exact ⟨rfl, grown_far g0 g9 (fun q e => by cases e; exact Nat.le_refl _)⟩
  by_cases k8 : 1 ≤ li
  case neg =>
    rw [hno (by omega)]
    clear hno
    go_enter Try.func30, Try.ntmps30
    go_wp2_with (first
      | (have _t := t2; refine wpList_stX _ rfl _ (.tmp 10) (.tmp 50) rfl w.heap.size _ _ rfl rfl b0 i12 rfl (by simp [Value.oneCell']) ?_; clear t2; intro w9 b9 g9))
    refine bodyPost_ret (results_cell1t rfl _ _ _ ⟨w.heap.size, 0, none⟩ _ (.int .i64 2) rfl (BxS.load (t := 50) b9 Try.underlying50 Try.info_hn) rfl) rfl ?_
    exact ⟨rfl, grown_far g0 g9 (fun q e => by cases e; exact Nat.le_refl _)⟩
  by_cases k9 : li ≤ 100
  case neg =>
    rw [hno (by omega)]
    clear hno
    go_enter Try.func30, Try.ntmps30
    go_wp2_with (first
      | (have _t := t2; refine wpList_stX _ rfl _ (.tmp 10) (.tmp 50) rfl w.heap.size _ _ rfl rfl b0 i12 rfl (by simp [Value.oneCell']) ?_; clear t2; intro w9 b9 g9))
    refine bodyPost_ret (results_cell1t rfl _ _ _ ⟨w.heap.size, 0, none⟩ _ (.int .i64 2) rfl (BxS.load (t := 50) b9 Try.underlying50 Try.info_hn) rfl) rfl ?_
    exact ⟨rfl, grown_far g0 g9 (fun q e => by cases e; exact Nat.le_refl _)⟩
  have e : reB cr ah pa pu li = true := by unfold reB; rw [kwB_t ⟨k0, k1⟩, kwB_t ⟨k2, k3⟩, kwB_t ⟨k4, k5⟩, kwB_t ⟨k6, k7⟩, kwB_t ⟨k8, k9⟩]; rfl
  rw [e]
  clear hno e
  go_enter Try.func30, Try.ntmps30
  go_wp2_with (first
    | (have _t := t2; refine wpList_stX _ rfl _ (.tmp 10) (.tmp 57) rfl w.heap.size _ _ rfl rfl b0 i12 rfl (by simp [Value.oneCell']) ?_; clear t2; intro w9 b9 g9))
  refine bodyPost_ret (results_cell1t rfl _ _ _ ⟨w.heap.size, 0, none⟩ _ (.int .i64 0) rfl (BxS.load (t := 50) b9 Try.underlying50 Try.info_hn) rfl) rfl ?_
  exact ⟨rfl, grown_far g0 g9 (fun q e => by cases e; exact Nat.le_refl _)⟩

set_option maxHeartbeats 64000000 in
/-- the document's HandMay -/
theorem rhmay_any (cr nx ah : Int) (sa : Option Addr) (sn sc : Nat) (F : Nat → Rw) (qa : Option Addr) (qn qc : Nat) (K : Nat → Rw) (ti pa tr li si pu hl : Int) (w : World) (hS : RdR w sa sn sc F) (hQ : RdR w qa qn qc K) :
    Calls Try.prog 66 #[.agg (hnA cr nx ah (.slice sa sn sc) (.slice qa qn qc) ti pa tr li si pu hl)] w fun e w' => e = .returned (.bool (hnB cr nx ah sn F qn K ti pa tr li si pu hl)) ∧ w.grownBy w' none := by
  have h0 := fun wz => rready_any cr ah pa pu li wz
  have hS1 := fun wz hz => ordered_any sa sn sc F wz hz
  have hQ1 := fun wz hz => ordered_any qa qn qc K wz hz
  have HB : Hid (hnB cr nx ah sn F qn K ti pa tr li si pu hl = (reB cr ah pa pu li && (kwB nx 0 255 && (decide ((sn : Int) ≤ ah) && alC F sn && (decide ((qn : Int) ≤ 100) && alC K qn && (kwB ti 0 (pa - 1) && (kwB tr 0 li && (kwB si 0 pu && hlB hl)))))))) := by
    show _ = _
    unfold hnB reB cmB
    simp only [Bool.and_assoc]
  have hE : reE cr ah pa pu li = if reB cr ah pa pu li = true then 0 else 2 := rfl
  generalize reX cr ah pa pu li cr = x0 at h0
  generalize reX cr ah pa pu li ah = x1 at h0
  generalize reX cr ah pa pu li pa = x2 at h0
  generalize reX cr ah pa pu li li = x3 at h0
  generalize reX cr ah pa pu li pu = x4 at h0
  rw [hE] at h0
  clear hE
  generalize hnB cr nx ah sn F qn K ti pa tr li si pu hl = Z at HB ⊢
  generalize reB cr ah pa pu li = bR at h0 HB
  generalize alC F sn = bS at hS1 HB
  generalize alC K qn = bQ at hQ1 HB
  unfold hnA at h0 ⊢
  have b0 := BxS.new w 50 #[.int .i64 cr, .int .i64 nx, .int .i64 ah, .slice sa sn sc, .slice qa qn qc, .int .i64 ti, .int .i64 pa, .int .i64 tr, .int .i64 li, .int .i64 si, .int .i64 pu, .int .i64 hl]
  have g0 := World.grownBy_alloc w (.cells #[.int .i64 cr, .int .i64 nx, .int .i64 ah, .slice sa sn sc, .slice qa qn qc, .int .i64 ti, .int .i64 pa, .int .i64 tr, .int .i64 li, .int .i64 si, .int .i64 pu, .int .i64 hl] 50) none
  generalize hw0 : w.alloc (.cells #[.int .i64 cr, .int .i64 nx, .int .i64 ah, .slice sa sn sc, .slice qa qn qc, .int .i64 ti, .int .i64 pa, .int .i64 tr, .int .i64 li, .int .i64 si, .int .i64 pu, .int .i64 hl] 50) = w0 at b0 g0
  have GA := fun wz : World => World.grownBy_alloc wz (.cells #[.int .i64 x0, .int .i64 0, .int .i64 x1, .slice none 0 0, .slice none 0 0, .int .i64 0, .int .i64 x2, .int .i64 0, .int .i64 x3, .int .i64 x4, .int .i64 x4, .int .i64 0] 50) none
  obtain ⟨c0, c1, c2, c3, c4, c5, c6, c7, c8, c9, c10, c11⟩ := b0.cell12
  have hle1 := hS.le; have hmx1 := hS.max; have hle2 := hQ.le; have hmx2 := hQ.max
  unfold maxLen at hmx1 hmx2
  cases bR
  case false =>
    have hZ : Z = false := by rw [HB.out]; rfl
    subst hZ
    clear HB
    go_enter Try.func66, Try.ntmps66
    go_wp2_with (first
      | (go_at_call 30; with_reducible refine (h0 _).mono ?_; rintro e w1 ⟨rfl, g1⟩; clear c0 c1 c2 c3 c4 c5 c6 c7 c8 c9 c10 c11; have k1 := grown_trans g1 (GA w1); have B1 := b0.keep k1 (by simp); obtain ⟨c0, c1, c2, c3, c4, c5, c6, c7, c8, c9, c10, c11⟩ := B1.cell12; have t1 : True := trivial))
    go_ret
    exact ⟨rfl, grown_trans g0 k1⟩
  by_cases n0 : 0 ≤ nx
  case neg =>
    have hZ : Z = false := by rw [HB.out, kwB_f (n := nx) (by omega)]; simp
    subst hZ
    clear HB
    have l0 : decide (nx < 0) = true := decide_eq_true (by omega)
    go_enter Try.func66, Try.ntmps66
    go_wp2_with (first
      | (go_at_call 30; with_reducible refine (h0 _).mono ?_; rintro e w1 ⟨rfl, g1⟩; clear c0 c1 c2 c3 c4 c5 c6 c7 c8 c9 c10 c11; have k1 := grown_trans g1 (GA w1); have B1 := b0.keep k1 (by simp); obtain ⟨c0, c1, c2, c3, c4, c5, c6, c7, c8, c9, c10, c11⟩ := B1.cell12; have t1 : True := trivial))
    go_ret
    exact ⟨rfl, grown_trans g0 k1⟩
  have l0 : decide (nx < 0) = false := decide_eq_false (by omega)
  by_cases n1 : nx ≤ 255
  case neg =>
    have hZ : Z = false := by rw [HB.out, kwB_f (n := nx) (by omega)]; simp
    subst hZ
    clear HB
    have l1 : decide (255 < nx) = true := decide_eq_true (by omega)
    go_enter Try.func66, Try.ntmps66
    go_wp2_with (first
      | (go_at_call 30; with_reducible refine (h0 _).mono ?_; rintro e w1 ⟨rfl, g1⟩; clear c0 c1 c2 c3 c4 c5 c6 c7 c8 c9 c10 c11; have k1 := grown_trans g1 (GA w1); have B1 := b0.keep k1 (by simp); obtain ⟨c0, c1, c2, c3, c4, c5, c6, c7, c8, c9, c10, c11⟩ := B1.cell12; have t1 : True := trivial))
    go_ret
    exact ⟨rfl, grown_trans g0 k1⟩
  have l1 : decide (255 < nx) = false := decide_eq_false (by omega)
  rw [kwB_t (n := nx) ⟨n0, n1⟩] at HB
  by_cases n2 : (sn : Int) ≤ ah
  case neg =>
    have hZ : Z = false := by rw [HB.out, decide_eq_false n2]; simp
    subst hZ
    clear HB
    have l2 : decide (ah < (sn : Int)) = true := decide_eq_true (by omega)
    go_enter Try.func66, Try.ntmps66
    go_wp2_with (first
      | (go_at_call 30; with_reducible refine (h0 _).mono ?_; rintro e w1 ⟨rfl, g1⟩; clear c0 c1 c2 c3 c4 c5 c6 c7 c8 c9 c10 c11; have k1 := grown_trans g1 (GA w1); have B1 := b0.keep k1 (by simp); obtain ⟨c0, c1, c2, c3, c4, c5, c6, c7, c8, c9, c10, c11⟩ := B1.cell12; have t1 : True := trivial))
    go_ret
    exact ⟨rfl, grown_trans g0 k1⟩
  have l2 : decide (ah < (sn : Int)) = false := decide_eq_false (by omega)
  rw [decide_eq_true n2] at HB
  by_cases n3 : (qn : Int) ≤ 100
  case neg =>
    have hZ : Z = false := by rw [HB.out, decide_eq_false n3]; simp
    subst hZ
    clear HB
    have l3 : decide (100 < (qn : Int)) = true := decide_eq_true (by omega)
    go_enter Try.func66, Try.ntmps66
    go_wp2_with (first
      | (go_at_call 30; with_reducible refine (h0 _).mono ?_; rintro e w1 ⟨rfl, g1⟩; clear c0 c1 c2 c3 c4 c5 c6 c7 c8 c9 c10 c11; have k1 := grown_trans g1 (GA w1); have B1 := b0.keep k1 (by simp); obtain ⟨c0, c1, c2, c3, c4, c5, c6, c7, c8, c9, c10, c11⟩ := B1.cell12; have t1 : True := trivial))
    go_ret
    exact ⟨rfl, grown_trans g0 k1⟩
  have l3 : decide (100 < (qn : Int)) = false := decide_eq_false (by omega)
  rw [decide_eq_true n3] at HB
  cases bS
  case false =>
    have hZ : Z = false := by rw [HB.out]; simp
    subst hZ
    clear HB
    go_enter Try.func66, Try.ntmps66
    go_wp2_with (first
      | (go_at_call 30; with_reducible refine (h0 _).mono ?_; rintro e w1 ⟨rfl, g1⟩; clear c0 c1 c2 c3 c4 c5 c6 c7 c8 c9 c10 c11; have k1 := grown_trans g1 (GA w1); have B1 := b0.keep k1 (by simp); obtain ⟨c0, c1, c2, c3, c4, c5, c6, c7, c8, c9, c10, c11⟩ := B1.cell12; have t1 : True := trivial)
      | (go_at_call 84; have _t := t1; clear t1; with_reducible refine (hS1 _ ((hS.keep g0).keep k1)).mono ?_; rintro e w2 ⟨rfl, g2⟩; clear c0 c1 c2 c3 c4 c5 c6 c7 c8 c9 c10 c11; have k2 := grown_trans k1 g2; obtain ⟨c0, c1, c2, c3, c4, c5, c6, c7, c8, c9, c10, c11⟩ := (b0.keep k2 (by simp)).cell12; have t2 : True := trivial))
    go_ret
    exact ⟨rfl, grown_trans g0 k2⟩
  cases bQ
  case false =>
    have hZ : Z = false := by rw [HB.out]; simp
    subst hZ
    clear HB
    go_enter Try.func66, Try.ntmps66
    go_wp2_with (first
      | (go_at_call 30; with_reducible refine (h0 _).mono ?_; rintro e w1 ⟨rfl, g1⟩; clear c0 c1 c2 c3 c4 c5 c6 c7 c8 c9 c10 c11; have k1 := grown_trans g1 (GA w1); have B1 := b0.keep k1 (by simp); obtain ⟨c0, c1, c2, c3, c4, c5, c6, c7, c8, c9, c10, c11⟩ := B1.cell12; have t1 : True := trivial)
      | (go_at_call 84; have _t := t1; clear t1; with_reducible refine (hS1 _ ((hS.keep g0).keep k1)).mono ?_; rintro e w2 ⟨rfl, g2⟩; clear c0 c1 c2 c3 c4 c5 c6 c7 c8 c9 c10 c11; have k2 := grown_trans k1 g2; obtain ⟨c0, c1, c2, c3, c4, c5, c6, c7, c8, c9, c10, c11⟩ := (b0.keep k2 (by simp)).cell12; have t2 : True := trivial)
      | (go_at_call 84; have _t := t2; clear t2; with_reducible refine (hQ1 _ ((hQ.keep g0).keep k2)).mono ?_; rintro e w3 ⟨rfl, g3⟩; clear c0 c1 c2 c3 c4 c5 c6 c7 c8 c9 c10 c11; have k3 := grown_trans k2 g3; obtain ⟨c0, c1, c2, c3, c4, c5, c6, c7, c8, c9, c10, c11⟩ := (b0.keep k3 (by simp)).cell12))
    go_ret
    exact ⟨rfl, grown_trans g0 k3⟩
  by_cases hh : hl = 0 ∨ hl = 15 ∨ hl = 11 ∨ hl = 19
  case neg =>
    have hZ : Z = false := by rw [HB.out, show hlB hl = false from decide_eq_false hh]; simp
    subst hZ
    clear HB
    have e0 : ((hl == 0) : Bool) = false := by simp; omega
    have e1 : ((hl == 15) : Bool) = false := by simp; omega
    have e2 : ((hl == 11) : Bool) = false := by simp; omega
    have e3 : ((hl == 19) : Bool) = false := by simp; omega
    clear hh
    go_enter Try.func66, Try.ntmps66
    go_wp2_with (first
      | (go_at_call 30; with_reducible refine (h0 _).mono ?_; rintro e w1 ⟨rfl, g1⟩; clear c0 c1 c2 c3 c4 c5 c6 c7 c8 c9 c10 c11; have k1 := grown_trans g1 (GA w1); have B1 := b0.keep k1 (by simp); obtain ⟨c0, c1, c2, c3, c4, c5, c6, c7, c8, c9, c10, c11⟩ := B1.cell12; have t1 : True := trivial)
      | (go_at_call 84; have _t := t1; clear t1; with_reducible refine (hS1 _ ((hS.keep g0).keep k1)).mono ?_; rintro e w2 ⟨rfl, g2⟩; clear c0 c1 c2 c3 c4 c5 c6 c7 c8 c9 c10 c11; have k2 := grown_trans k1 g2; obtain ⟨c0, c1, c2, c3, c4, c5, c6, c7, c8, c9, c10, c11⟩ := (b0.keep k2 (by simp)).cell12; have t2 : True := trivial)
      | (go_at_call 84; have _t := t2; clear t2; with_reducible refine (hQ1 _ ((hQ.keep g0).keep k2)).mono ?_; rintro e w3 ⟨rfl, g3⟩; clear c0 c1 c2 c3 c4 c5 c6 c7 c8 c9 c10 c11; have k3 := grown_trans k2 g3; obtain ⟨c0, c1, c2, c3, c4, c5, c6, c7, c8, c9, c10, c11⟩ := (b0.keep k3 (by simp)).cell12))
    go_ret
    exact ⟨rfl, grown_trans g0 k3⟩
  rw [show hlB hl = true from decide_eq_true hh, Bool.and_true] at HB
  have HB : Hid (Z = (kwB ti 0 (pa - 1) && (kwB tr 0 li && kwB si 0 pu))) := by show _ = _; rw [HB.out]; simp
  rcases hh with rfl | rfl | rfl | rfl
  all_goals
    by_cases m0 : 0 ≤ ti ∧ ti ≤ pa - 1
    · by_cases m1 : 0 ≤ tr ∧ tr ≤ li
      · by_cases m2 : 0 ≤ si ∧ si ≤ pu
        · have hZ : Z = true := by rw [HB.out, kwB_t m0, kwB_t m1, kwB_t m2]; rfl
          subst hZ
          obtain ⟨p0, p1⟩ := m0
          obtain ⟨p2, p3⟩ := m1
          obtain ⟨p4, p5⟩ := m2
          have p1' : ti < pa := by omega
          have d5 : decide (si ≤ pu) = true := decide_eq_true p5
          go_enter Try.func66, Try.ntmps66
          go_wp2_with (first
            | (go_at_call 30; with_reducible refine (h0 _).mono ?_; rintro e w1 ⟨rfl, g1⟩; clear c0 c1 c2 c3 c4 c5 c6 c7 c8 c9 c10 c11; have k1 := grown_trans g1 (GA w1); have B1 := b0.keep k1 (by simp); obtain ⟨c0, c1, c2, c3, c4, c5, c6, c7, c8, c9, c10, c11⟩ := B1.cell12; have t1 : True := trivial)
            | (go_at_call 84; have _t := t1; clear t1; with_reducible refine (hS1 _ ((hS.keep g0).keep k1)).mono ?_; rintro e w2 ⟨rfl, g2⟩; clear c0 c1 c2 c3 c4 c5 c6 c7 c8 c9 c10 c11; have k2 := grown_trans k1 g2; obtain ⟨c0, c1, c2, c3, c4, c5, c6, c7, c8, c9, c10, c11⟩ := (b0.keep k2 (by simp)).cell12; have t2 : True := trivial)
            | (go_at_call 84; have _t := t2; clear t2; with_reducible refine (hQ1 _ ((hQ.keep g0).keep k2)).mono ?_; rintro e w3 ⟨rfl, g3⟩; clear c0 c1 c2 c3 c4 c5 c6 c7 c8 c9 c10 c11; have k3 := grown_trans k2 g3; obtain ⟨c0, c1, c2, c3, c4, c5, c6, c7, c8, c9, c10, c11⟩ := (b0.keep k3 (by simp)).cell12))
          go_ret
          exact ⟨rfl, grown_trans g0 k3⟩
        · have hZ : Z = false := by rw [HB.out, kwB_f m2]; simp
          subst hZ
          obtain ⟨p0, p1⟩ := m0
          obtain ⟨p2, p3⟩ := m1
          have p1' : ti < pa := by omega
          by_cases p4 : 0 ≤ si
          · have d5 : decide (si ≤ pu) = false := decide_eq_false (by omega)
            go_enter Try.func66, Try.ntmps66
            go_wp2_with (first
              | (go_at_call 30; with_reducible refine (h0 _).mono ?_; rintro e w1 ⟨rfl, g1⟩; clear c0 c1 c2 c3 c4 c5 c6 c7 c8 c9 c10 c11; have k1 := grown_trans g1 (GA w1); have B1 := b0.keep k1 (by simp); obtain ⟨c0, c1, c2, c3, c4, c5, c6, c7, c8, c9, c10, c11⟩ := B1.cell12; have t1 : True := trivial)
              | (go_at_call 84; have _t := t1; clear t1; with_reducible refine (hS1 _ ((hS.keep g0).keep k1)).mono ?_; rintro e w2 ⟨rfl, g2⟩; clear c0 c1 c2 c3 c4 c5 c6 c7 c8 c9 c10 c11; have k2 := grown_trans k1 g2; obtain ⟨c0, c1, c2, c3, c4, c5, c6, c7, c8, c9, c10, c11⟩ := (b0.keep k2 (by simp)).cell12; have t2 : True := trivial)
              | (go_at_call 84; have _t := t2; clear t2; with_reducible refine (hQ1 _ ((hQ.keep g0).keep k2)).mono ?_; rintro e w3 ⟨rfl, g3⟩; clear c0 c1 c2 c3 c4 c5 c6 c7 c8 c9 c10 c11; have k3 := grown_trans k2 g3; obtain ⟨c0, c1, c2, c3, c4, c5, c6, c7, c8, c9, c10, c11⟩ := (b0.keep k3 (by simp)).cell12))
            go_ret
            exact ⟨rfl, grown_trans g0 k3⟩
          · have d4 : decide (0 ≤ si) = false := decide_eq_false p4
            go_enter Try.func66, Try.ntmps66
            go_wp2_with (first
              | (go_at_call 30; with_reducible refine (h0 _).mono ?_; rintro e w1 ⟨rfl, g1⟩; clear c0 c1 c2 c3 c4 c5 c6 c7 c8 c9 c10 c11; have k1 := grown_trans g1 (GA w1); have B1 := b0.keep k1 (by simp); obtain ⟨c0, c1, c2, c3, c4, c5, c6, c7, c8, c9, c10, c11⟩ := B1.cell12; have t1 : True := trivial)
              | (go_at_call 84; have _t := t1; clear t1; with_reducible refine (hS1 _ ((hS.keep g0).keep k1)).mono ?_; rintro e w2 ⟨rfl, g2⟩; clear c0 c1 c2 c3 c4 c5 c6 c7 c8 c9 c10 c11; have k2 := grown_trans k1 g2; obtain ⟨c0, c1, c2, c3, c4, c5, c6, c7, c8, c9, c10, c11⟩ := (b0.keep k2 (by simp)).cell12; have t2 : True := trivial)
              | (go_at_call 84; have _t := t2; clear t2; with_reducible refine (hQ1 _ ((hQ.keep g0).keep k2)).mono ?_; rintro e w3 ⟨rfl, g3⟩; clear c0 c1 c2 c3 c4 c5 c6 c7 c8 c9 c10 c11; have k3 := grown_trans k2 g3; obtain ⟨c0, c1, c2, c3, c4, c5, c6, c7, c8, c9, c10, c11⟩ := (b0.keep k3 (by simp)).cell12))
            go_ret
            exact ⟨rfl, grown_trans g0 k3⟩
      · have hZ : Z = false := by rw [HB.out, kwB_f m1]; simp
        subst hZ
        obtain ⟨p0, p1⟩ := m0
        have p1' : ti < pa := by omega
        by_cases p2 : 0 ≤ tr
        · have d3 : decide (tr ≤ li) = false := decide_eq_false (by omega)
          go_enter Try.func66, Try.ntmps66
          go_wp2_with (first
            | (go_at_call 30; with_reducible refine (h0 _).mono ?_; rintro e w1 ⟨rfl, g1⟩; clear c0 c1 c2 c3 c4 c5 c6 c7 c8 c9 c10 c11; have k1 := grown_trans g1 (GA w1); have B1 := b0.keep k1 (by simp); obtain ⟨c0, c1, c2, c3, c4, c5, c6, c7, c8, c9, c10, c11⟩ := B1.cell12; have t1 : True := trivial)
            | (go_at_call 84; have _t := t1; clear t1; with_reducible refine (hS1 _ ((hS.keep g0).keep k1)).mono ?_; rintro e w2 ⟨rfl, g2⟩; clear c0 c1 c2 c3 c4 c5 c6 c7 c8 c9 c10 c11; have k2 := grown_trans k1 g2; obtain ⟨c0, c1, c2, c3, c4, c5, c6, c7, c8, c9, c10, c11⟩ := (b0.keep k2 (by simp)).cell12; have t2 : True := trivial)
            | (go_at_call 84; have _t := t2; clear t2; with_reducible refine (hQ1 _ ((hQ.keep g0).keep k2)).mono ?_; rintro e w3 ⟨rfl, g3⟩; clear c0 c1 c2 c3 c4 c5 c6 c7 c8 c9 c10 c11; have k3 := grown_trans k2 g3; obtain ⟨c0, c1, c2, c3, c4, c5, c6, c7, c8, c9, c10, c11⟩ := (b0.keep k3 (by simp)).cell12))
          go_ret
          exact ⟨rfl, grown_trans g0 k3⟩
        · have d2 : decide (0 ≤ tr) = false := decide_eq_false p2
          go_enter Try.func66, Try.ntmps66
          go_wp2_with (first
            | (go_at_call 30; with_reducible refine (h0 _).mono ?_; rintro e w1 ⟨rfl, g1⟩; clear c0 c1 c2 c3 c4 c5 c6 c7 c8 c9 c10 c11; have k1 := grown_trans g1 (GA w1); have B1 := b0.keep k1 (by simp); obtain ⟨c0, c1, c2, c3, c4, c5, c6, c7, c8, c9, c10, c11⟩ := B1.cell12; have t1 : True := trivial)
            | (go_at_call 84; have _t := t1; clear t1; with_reducible refine (hS1 _ ((hS.keep g0).keep k1)).mono ?_; rintro e w2 ⟨rfl, g2⟩; clear c0 c1 c2 c3 c4 c5 c6 c7 c8 c9 c10 c11; have k2 := grown_trans k1 g2; obtain ⟨c0, c1, c2, c3, c4, c5, c6, c7, c8, c9, c10, c11⟩ := (b0.keep k2 (by simp)).cell12; have t2 : True := trivial)
            | (go_at_call 84; have _t := t2; clear t2; with_reducible refine (hQ1 _ ((hQ.keep g0).keep k2)).mono ?_; rintro e w3 ⟨rfl, g3⟩; clear c0 c1 c2 c3 c4 c5 c6 c7 c8 c9 c10 c11; have k3 := grown_trans k2 g3; obtain ⟨c0, c1, c2, c3, c4, c5, c6, c7, c8, c9, c10, c11⟩ := (b0.keep k3 (by simp)).cell12))
          go_ret
          exact ⟨rfl, grown_trans g0 k3⟩
    · have hZ : Z = false := by rw [HB.out, kwB_f m0]; simp
      subst hZ
      by_cases p0 : 0 ≤ ti
      · have d1 : decide (ti < pa) = false := decide_eq_false (by omega)
        go_enter Try.func66, Try.ntmps66
        go_wp2_with (first
          | (go_at_call 30; with_reducible refine (h0 _).mono ?_; rintro e w1 ⟨rfl, g1⟩; clear c0 c1 c2 c3 c4 c5 c6 c7 c8 c9 c10 c11; have k1 := grown_trans g1 (GA w1); have B1 := b0.keep k1 (by simp); obtain ⟨c0, c1, c2, c3, c4, c5, c6, c7, c8, c9, c10, c11⟩ := B1.cell12; have t1 : True := trivial)
          | (go_at_call 84; have _t := t1; clear t1; with_reducible refine (hS1 _ ((hS.keep g0).keep k1)).mono ?_; rintro e w2 ⟨rfl, g2⟩; clear c0 c1 c2 c3 c4 c5 c6 c7 c8 c9 c10 c11; have k2 := grown_trans k1 g2; obtain ⟨c0, c1, c2, c3, c4, c5, c6, c7, c8, c9, c10, c11⟩ := (b0.keep k2 (by simp)).cell12; have t2 : True := trivial)
          | (go_at_call 84; have _t := t2; clear t2; with_reducible refine (hQ1 _ ((hQ.keep g0).keep k2)).mono ?_; rintro e w3 ⟨rfl, g3⟩; clear c0 c1 c2 c3 c4 c5 c6 c7 c8 c9 c10 c11; have k3 := grown_trans k2 g3; obtain ⟨c0, c1, c2, c3, c4, c5, c6, c7, c8, c9, c10, c11⟩ := (b0.keep k3 (by simp)).cell12))
        go_ret
        exact ⟨rfl, grown_trans g0 k3⟩
      · have d0 : decide (0 ≤ ti) = false := decide_eq_false p0
        go_enter Try.func66, Try.ntmps66
        go_wp2_with (first
          | (go_at_call 30; with_reducible refine (h0 _).mono ?_; rintro e w1 ⟨rfl, g1⟩; clear c0 c1 c2 c3 c4 c5 c6 c7 c8 c9 c10 c11; have k1 := grown_trans g1 (GA w1); have B1 := b0.keep k1 (by simp); obtain ⟨c0, c1, c2, c3, c4, c5, c6, c7, c8, c9, c10, c11⟩ := B1.cell12; have t1 : True := trivial)
          | (go_at_call 84; have _t := t1; clear t1; with_reducible refine (hS1 _ ((hS.keep g0).keep k1)).mono ?_; rintro e w2 ⟨rfl, g2⟩; clear c0 c1 c2 c3 c4 c5 c6 c7 c8 c9 c10 c11; have k2 := grown_trans k1 g2; obtain ⟨c0, c1, c2, c3, c4, c5, c6, c7, c8, c9, c10, c11⟩ := (b0.keep k2 (by simp)).cell12; have t2 : True := trivial)
          | (go_at_call 84; have _t := t2; clear t2; with_reducible refine (hQ1 _ ((hQ.keep g0).keep k2)).mono ?_; rintro e w3 ⟨rfl, g3⟩; clear c0 c1 c2 c3 c4 c5 c6 c7 c8 c9 c10 c11; have k3 := grown_trans k2 g3; obtain ⟨c0, c1, c2, c3, c4, c5, c6, c7, c8, c9, c10, c11⟩ := (b0.keep k3 (by simp)).cell12))
        go_ret
        exact ⟨rfl, grown_trans g0 k3⟩
end Go.Proofs.Ytnnoeeakkpaocaa
