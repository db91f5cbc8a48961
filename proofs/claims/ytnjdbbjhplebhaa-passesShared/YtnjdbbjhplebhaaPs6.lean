import Derived.Test.YtnjdbbjhplebhaaPs5
namespace Go.Proofs.Ytnjdbbjhplebhaa
open Go.RowKit
set_option maxRecDepth 100000
set_option linter.unusedVariables false
set_option linter.unusedSimpArgs false

section
/-- a window or a job: three numbers -/
structure T3 where
  x : Int
  y : Int
  z : Int
def T3.cells (p : T3) : List Value := [.int .i64 p.x, .int .i64 p.y, .int .i64 p.z]
def T3.arr (p : T3) : Array Value := #[.int .i64 p.x, .int .i64 p.y, .int .i64 p.z]
/-- may it be? -/
def t3B (p : T3) : Bool := ((decide (0 ≤ p.x) && decide (p.x ≤ 20000)) && (decide (p.x ≤ p.y) && decide (p.y ≤ 20000))) && (decide (0 ≤ p.z) && decide (p.z ≤ 1000000))
theorem t3B_iff (p : T3) : t3B p = true ↔ (0 ≤ p.x ∧ p.x ≤ p.y ∧ p.y ≤ 20000 ∧ 0 ≤ p.z ∧ p.z ≤ 1000000) := by
  unfold t3B
  simp only [Bool.and_eq_true, decide_eq_true_iff]
  omega
/-- such rows as they are read -/
structure RdT (w : World) (a : Option Addr) (n cap : Nat) (F : Nat → T3) : Prop where
  le : n ≤ cap
  max : cap ≤ maxLen
  at' : 0 < n → ∃ b off, a = some ⟨b, off, none⟩ ∧ b < w.heap.size ∧ ∀ i, i < n → w.rangeAt b (off + i * 3) (F i).cells
theorem range_keepT {w w' : World} {b o : Nat} {cs : List Value} (h : w.rangeAt b o cs) (hb : b < w.heap.size) {r : Option Nat} (hg : w.grownBy w' r) (hr : some b ≠ r) : w'.rangeAt b o cs := by
  intro j v hv
  have := h j v hv
  unfold World.cell? at this ⊢
  rw [hg.block b hb hr]
  exact this
theorem RdT.keep {w w' : World} {a : Option Addr} {n cap : Nat} {F : Nat → T3} (h : RdT w a n cap F) (hg : w.grownBy w' none) : RdT w' a n cap F :=
  ⟨h.le, h.max, fun h0 => by
    obtain ⟨b, off, e, hb, hc⟩ := h.at' h0
    exact ⟨b, off, e, Nat.lt_of_lt_of_le hb hg.size, fun i hi => range_keepT (hc i hi) hb hg (by simp)⟩⟩
theorem withinG_any (n a b : Int) (w : World) : Calls Try.prog 28 #[.int .i64 n, .int .i64 a, .int .i64 b] w fun e w' => e = .returned (.bool (decide (a ≤ n) && decide (n ≤ b))) ∧ w' = w := by
  by_cases h1 : a ≤ n
  · rw [decide_eq_true h1, Bool.true_and]
    go_enter Try.func28, Try.ntmps28
    go_wp2
    first | go_ret | skip
    exact ⟨rfl, rfl⟩
  · rw [decide_eq_false h1, Bool.false_and]
    go_enter Try.func28, Try.ntmps28
    go_wp2
    first | go_ret | skip
    exact ⟨rfl, rfl⟩
theorem spanG_any (x y : Int) (w : World) : Calls Try.prog 27 #[.int .i64 x, .int .i64 y] w fun e w' => e = .returned (.bool ((decide (0 ≤ x) && decide (x ≤ 20000)) && (decide (x ≤ y) && decide (y ≤ 20000)))) ∧ w' = w := by
  have HA := fun wz => withinG_any x 0 20000 wz
  have HB := fun wz => withinG_any y x 20000 wz
  obtain ⟨a, ha⟩ : ∃ a, (decide (0 ≤ x) && decide (x ≤ 20000)) = a := ⟨_, rfl⟩
  obtain ⟨b, hb⟩ : ∃ b, (decide (x ≤ y) && decide (y ≤ 20000)) = b := ⟨_, rfl⟩
  rw [ha, hb]
  rw [ha] at HA
  rw [hb] at HB
  clear ha hb
  cases a with
  | false =>
    go_enter Try.func27, Try.ntmps27
    have s1 : True := trivial
    go_wp2_with (first
      | (have _t := s1; clear s1; go_at_call 28; refine (HA _).mono ?_; rintro e wx ⟨rfl, hwx⟩; rw [hwx]; clear hwx; have s2 : True := trivial))
    first | go_ret | skip
    exact ⟨rfl, rfl⟩
  | true =>
    go_enter Try.func27, Try.ntmps27
    have s1 : True := trivial
    go_wp2_with (first
      | (have _t := s1; clear s1; go_at_call 28; refine (HA _).mono ?_; rintro e wx ⟨rfl, hwx⟩; rw [hwx]; clear hwx; have s2 : True := trivial)
      | (have _t := s2; clear s2; go_at_call 28; refine (HB _).mono ?_; rintro e wx ⟨rfl, hwx⟩; rw [hwx]; clear hwx; have s3 : True := trivial))
    first | go_ret | skip
    exact ⟨rfl, rfl⟩

theorem Try.info_Wd : (Try.prog.info? 32).map (·.size) = some 3 := by kernel_rfl
set_option maxHeartbeats 16000000 in
theorem wrongWd_any (p : T3) (w : World) : Calls Try.prog 19 #[.agg p.arr] w fun e w' => e = .returned (.bool (!t3B p)) ∧ w.grownBy w' none := by
  obtain ⟨p0, p1, p2⟩ := p
  unfold t3B
  dsimp only [T3.arr] at *
  have G := World.grownBy_alloc w (.cells #[.int .i64 p0, .int .i64 p1, .int .i64 p2] 32) none
  have HA := fun wz => spanG_any p0 p1 wz
  have HB := fun wz => withinG_any p2 0 1000000 wz
  obtain ⟨a, ha⟩ : ∃ a, ((decide (0 ≤ p0) && decide (p0 ≤ 20000)) && (decide (p0 ≤ p1) && decide (p1 ≤ 20000))) = a := ⟨_, rfl⟩
  obtain ⟨b, hb⟩ : ∃ b, (decide (0 ≤ p2) && decide (p2 ≤ 1000000)) = b := ⟨_, rfl⟩
  rw [ha, hb]
  rw [ha] at HA
  rw [hb] at HB
  clear ha hb
  cases a with
  | false =>
    go_enter Try.func19, Try.ntmps19
    have s1 : True := trivial
    go_wp2_with (first
      | (have _t := s1; clear s1; go_at_call 27; refine (HA _).mono ?_; rintro e wx ⟨rfl, hwx⟩; rw [hwx]; clear hwx; have s2 : True := trivial))
    first | go_ret | skip
    exact ⟨rfl, G⟩
  | true =>
    go_enter Try.func19, Try.ntmps19
    have s1 : True := trivial
    go_wp2_with (first
      | (have _t := s1; clear s1; go_at_call 27; refine (HA _).mono ?_; rintro e wx ⟨rfl, hwx⟩; rw [hwx]; clear hwx; have s2 : True := trivial)
      | (have _t := s2; clear s2; go_at_call 28; refine (HB _).mono ?_; rintro e wx ⟨rfl, hwx⟩; rw [hwx]; clear hwx; have s3 : True := trivial))
    first | go_ret | skip
    exact ⟨by cases b <;> rfl, G⟩
set_option maxHeartbeats 8000000 in
theorem indexWd_any (w : World) (la : Option Addr) (ln lc : Nat) (F : Nat → T3) (hP : RdT w la ln lc F) :
    Calls Try.prog 26 #[.slice la ln lc, .func (.func 19) #[] #[]] w fun e w' => ∃ z : Int, e = .returned (.int .i64 z) ∧ (0 ≤ z ↔ ∃ i, i < ln ∧ t3B (F i) = false) ∧ w.grownBy w' none := by
  have hmx := hP.max
  have hple := hP.le
  unfold maxLen at hmx
  go_enter Try.func26, Try.ntmps26
  go_wp2
  go_loopw [8, 5] (fun v8 v5 wr => ∃ k : Nat, k ≤ ln ∧ v8 = .int .i64 k ∧ Hid (∀ i, i < k → t3B (F i) = true) ∧ w.grownBy wr none) (fun v8 v5 _ => ln - (intOf v8).toNat)
  case atStart => exact ⟨0, Nat.zero_le _, rfl, (fun i h => absurd h (by omega)), World.grownBy.refl _ _⟩
  case round =>
    obtain ⟨k, hk, rfl, HK, GR⟩ := hrel
    by_cases hlt : k < ln
    · have lk : (k : Int) < (ln : Int) := by omega
      obtain ⟨lb, lf, hla, _, hlr⟩ := (hP.keep GR).at' (by omega)
      have hrk := hlr k hlt
      have HWp := fun wz => wrongWd_any (F k) wz
      obtain ⟨b, hb⟩ : ∃ b, t3B (F k) = b := ⟨_, rfl⟩
      rw [hb] at HWp
      have HB : Hid _ := hb
      subst hla
      clear hlr hb
      cases b with
      | true =>
        have s1 : True := trivial
        go_wp2_with (first
          | (have _t := s1; clear s1; refine wpList_load_mid rfl _ (.tmp 14) rfl lb (lf + k * 3) rfl (F k).cells _ hrk Try.underlying32 rfl Try.info_Wd ?_; have s2 : True := trivial)
          | (have _t := s2; clear s2; go_at_call 19; refine (HWp _).mono ?_; rintro e w6 ⟨rfl, y6⟩))
        go_roundw
        case rel => exact ⟨k + 1, by omega, by go_num, (fun i h => by by_cases e : i = k; (rw [e]; exact HB.out); exact HK.out i (by omega)), grown_trans GR y6⟩
        case measure => simp [intOf] <;> omega
      | false =>
        have s1 : True := trivial
        go_wp2_with (first
          | (have _t := s1; clear s1; refine wpList_load_mid rfl _ (.tmp 14) rfl lb (lf + k * 3) rfl (F k).cells _ hrk Try.underlying32 rfl Try.info_Wd ?_; have s2 : True := trivial)
          | (have _t := s2; clear s2; go_at_call 19; refine (HWp _).mono ?_; rintro e w6 ⟨rfl, y6⟩))
        first | go_ret | skip
        exact ⟨(k : Int), rfl, ⟨fun _ => ⟨k, hlt, HB.out⟩, fun _ => by omega⟩, grown_trans GR y6⟩
    · obtain rfl : k = ln := by omega
      have lk : ¬ (k : Int) < (k : Int) := by omega
      go_wp2
      first | go_ret | skip
      exact ⟨-1, rfl, ⟨fun h => absurd h (by decide), fun h => by obtain ⟨i, h1, h2⟩ := h; rw [HK.out i h1] at h2; cases h2⟩, GR⟩
theorem containsWd_any (w : World) (la : Option Addr) (ln lc : Nat) (F : Nat → T3) (hP : RdT w la ln lc F) :
    Calls Try.prog 18 #[.slice la ln lc, .func (.func 19) #[] #[]] w fun e w' => ∃ b : Bool, e = .returned (.bool b) ∧ (b = true ↔ ∃ i, i < ln ∧ t3B (F i) = false) ∧ w.grownBy w' none := by
  have HIx := indexWd_any w la ln lc F hP
  go_enter Try.func18, Try.ntmps18
  go_wp2_with (go_at_call 26; refine HIx.mono ?_; rintro e w6 ⟨z, rfl, hz, y6⟩; have HZ : Hid _ := hz; clear hz)
  first | go_ret | skip
  exact ⟨decide (0 ≤ z), rfl, by rw [decide_eq_true_iff]; exact HZ.out, y6⟩

theorem Try.info_Jo : (Try.prog.info? 34).map (·.size) = some 3 := by kernel_rfl
set_option maxHeartbeats 16000000 in
theorem wrongJo_any (p : T3) (w : World) : Calls Try.prog 21 #[.agg p.arr] w fun e w' => e = .returned (.bool (!t3B p)) ∧ w.grownBy w' none := by
  obtain ⟨p0, p1, p2⟩ := p
  unfold t3B
  dsimp only [T3.arr] at *
  have G := World.grownBy_alloc w (.cells #[.int .i64 p0, .int .i64 p1, .int .i64 p2] 34) none
  have HA := fun wz => spanG_any p0 p1 wz
  have HB := fun wz => withinG_any p2 0 1000000 wz
  obtain ⟨a, ha⟩ : ∃ a, ((decide (0 ≤ p0) && decide (p0 ≤ 20000)) && (decide (p0 ≤ p1) && decide (p1 ≤ 20000))) = a := ⟨_, rfl⟩
  obtain ⟨b, hb⟩ : ∃ b, (decide (0 ≤ p2) && decide (p2 ≤ 1000000)) = b := ⟨_, rfl⟩
  rw [ha, hb]
  rw [ha] at HA
  rw [hb] at HB
  clear ha hb
  cases a with
  | false =>
    go_enter Try.func21, Try.ntmps21
    have s1 : True := trivial
    go_wp2_with (first
      | (have _t := s1; clear s1; go_at_call 27; refine (HA _).mono ?_; rintro e wx ⟨rfl, hwx⟩; rw [hwx]; clear hwx; have s2 : True := trivial))
    first | go_ret | skip
    exact ⟨rfl, G⟩
  | true =>
    go_enter Try.func21, Try.ntmps21
    have s1 : True := trivial
    go_wp2_with (first
      | (have _t := s1; clear s1; go_at_call 27; refine (HA _).mono ?_; rintro e wx ⟨rfl, hwx⟩; rw [hwx]; clear hwx; have s2 : True := trivial)
      | (have _t := s2; clear s2; go_at_call 28; refine (HB _).mono ?_; rintro e wx ⟨rfl, hwx⟩; rw [hwx]; clear hwx; have s3 : True := trivial))
    first | go_ret | skip
    exact ⟨by cases b <;> rfl, G⟩
set_option maxHeartbeats 8000000 in
theorem indexJo_any (w : World) (la : Option Addr) (ln lc : Nat) (F : Nat → T3) (hP : RdT w la ln lc F) :
    Calls Try.prog 29 #[.slice la ln lc, .func (.func 21) #[] #[]] w fun e w' => ∃ z : Int, e = .returned (.int .i64 z) ∧ (0 ≤ z ↔ ∃ i, i < ln ∧ t3B (F i) = false) ∧ w.grownBy w' none := by
  have hmx := hP.max
  have hple := hP.le
  unfold maxLen at hmx
  go_enter Try.func29, Try.ntmps29
  go_wp2
  go_loopw [8, 5] (fun v8 v5 wr => ∃ k : Nat, k ≤ ln ∧ v8 = .int .i64 k ∧ Hid (∀ i, i < k → t3B (F i) = true) ∧ w.grownBy wr none) (fun v8 v5 _ => ln - (intOf v8).toNat)
  case atStart => exact ⟨0, Nat.zero_le _, rfl, (fun i h => absurd h (by omega)), World.grownBy.refl _ _⟩
  case round =>
    obtain ⟨k, hk, rfl, HK, GR⟩ := hrel
    by_cases hlt : k < ln
    · have lk : (k : Int) < (ln : Int) := by omega
      obtain ⟨lb, lf, hla, _, hlr⟩ := (hP.keep GR).at' (by omega)
      have hrk := hlr k hlt
      have HWp := fun wz => wrongJo_any (F k) wz
      obtain ⟨b, hb⟩ : ∃ b, t3B (F k) = b := ⟨_, rfl⟩
      rw [hb] at HWp
      have HB : Hid _ := hb
      subst hla
      clear hlr hb
      cases b with
      | true =>
        have s1 : True := trivial
        go_wp2_with (first
          | (have _t := s1; clear s1; refine wpList_load_mid rfl _ (.tmp 14) rfl lb (lf + k * 3) rfl (F k).cells _ hrk Try.underlying34 rfl Try.info_Jo ?_; have s2 : True := trivial)
          | (have _t := s2; clear s2; go_at_call 21; refine (HWp _).mono ?_; rintro e w6 ⟨rfl, y6⟩))
        go_roundw
        case rel => exact ⟨k + 1, by omega, by go_num, (fun i h => by by_cases e : i = k; (rw [e]; exact HB.out); exact HK.out i (by omega)), grown_trans GR y6⟩
        case measure => simp [intOf] <;> omega
      | false =>
        have s1 : True := trivial
        go_wp2_with (first
          | (have _t := s1; clear s1; refine wpList_load_mid rfl _ (.tmp 14) rfl lb (lf + k * 3) rfl (F k).cells _ hrk Try.underlying34 rfl Try.info_Jo ?_; have s2 : True := trivial)
          | (have _t := s2; clear s2; go_at_call 21; refine (HWp _).mono ?_; rintro e w6 ⟨rfl, y6⟩))
        first | go_ret | skip
        exact ⟨(k : Int), rfl, ⟨fun _ => ⟨k, hlt, HB.out⟩, fun _ => by omega⟩, grown_trans GR y6⟩
    · obtain rfl : k = ln := by omega
      have lk : ¬ (k : Int) < (k : Int) := by omega
      go_wp2
      first | go_ret | skip
      exact ⟨-1, rfl, ⟨fun h => absurd h (by decide), fun h => by obtain ⟨i, h1, h2⟩ := h; rw [HK.out i h1] at h2; cases h2⟩, GR⟩
theorem containsJo_any (w : World) (la : Option Addr) (ln lc : Nat) (F : Nat → T3) (hP : RdT w la ln lc F) :
    Calls Try.prog 20 #[.slice la ln lc, .func (.func 21) #[] #[]] w fun e w' => ∃ b : Bool, e = .returned (.bool b) ∧ (b = true ↔ ∃ i, i < ln ∧ t3B (F i) = false) ∧ w.grownBy w' none := by
  have HIx := indexJo_any w la ln lc F hP
  go_enter Try.func20, Try.ntmps20
  go_wp2_with (go_at_call 29; refine HIx.mono ?_; rintro e w6 ⟨z, rfl, hz, y6⟩; have HZ : Hid _ := hz; clear hz)
  first | go_ret | skip
  exact ⟨decide (0 ≤ z), rfl, by rw [decide_eq_true_iff]; exact HZ.out, y6⟩

/-- why of such windows and jobs none can be shared (0: they can) -/
def shE (wn jn : Nat) (F K : Nat → T3) (z : Int) : Prop :=
  ((200 < wn ∨ 100 < jn) → z = 1) ∧ (¬ (200 < wn ∨ 100 < jn) → ((∃ i, i < wn ∧ t3B (F i) = false) ∨ ∃ i, i < jn ∧ t3B (K i) = false) → z = 2) ∧
  (¬ (200 < wn ∨ 100 < jn) → ¬ ((∃ i, i < wn ∧ t3B (F i) = false) ∨ ∃ i, i < jn ∧ t3B (K i) = false) → z = 0)
set_option maxHeartbeats 8000000 in
theorem wrongShare_any (w : World) (wa ja : Option Addr) (wn wc jn jc : Nat) (F K : Nat → T3) (hW : RdT w wa wn wc F) (hJ : RdT w ja jn jc K) :
    Calls Try.prog 14 #[.slice wa wn wc, .slice ja jn jc] w fun e w' => ∃ z : Int, e = .returned (.int .i64 z) ∧ shE wn jn F K z ∧ w.grownBy w' none := by
  have HW := containsWd_any w wa wn wc F hW
  have HJ : ∀ w1, w.grownBy w1 none → _ := fun w1 g => containsJo_any w1 ja jn jc K (hJ.keep g)
  clear hW hJ
  by_cases h1 : 200 < wn
  · have l1 : (200 : Int) < (wn : Int) := by omega
    go_enter Try.func14, Try.ntmps14
    go_wp2
    first | go_ret | skip
    exact ⟨1, rfl, ⟨fun _ => rfl, fun h => absurd (.inl h1) h, fun h => absurd (.inl h1) h⟩, World.grownBy.refl _ _⟩
  · have l1 : ¬ (200 : Int) < (wn : Int) := by omega
    by_cases h2 : 100 < jn
    · have l2 : (100 : Int) < (jn : Int) := by omega
      go_enter Try.func14, Try.ntmps14
      go_wp2
      first | go_ret | skip
      exact ⟨1, rfl, ⟨fun _ => rfl, fun h => absurd (.inr h2) h, fun h => absurd (.inr h2) h⟩, World.grownBy.refl _ _⟩
    · have l2 : ¬ (100 : Int) < (jn : Int) := by omega
      have hno : ¬ (200 < wn ∨ 100 < jn) := by omega
      have HNO : Hid _ := hno
      clear hno h1 h2
      go_enter Try.func14, Try.ntmps14
      refine wp_seq_k fun K0 hK0 => ?_
      have HK0 : Hid _ := hK0
      clear hK0
      go_wp2
      refine HK0.out _ _ ?_
      clear HK0
      refine wp_seq_k fun K1 hK1 => ?_
      have HK1 : Hid _ := hK1
      clear hK1
      refine wp_block ?_
      refine wp_seq_k fun K2 hK2 => ?_
      have HK2 : Hid _ := hK2
      clear hK2
      go_wp2
      refine HK2.out _ _ ?_
      clear HK2
      refine wp_cond_false (by show Value.bool (decide ((200 : Int) < (wn : Int)) || decide ((100 : Int) < (jn : Int))) = .bool false; rw [decide_eq_false (show ¬ (200 : Int) < (wn : Int) by omega), decide_eq_false (show ¬ (100 : Int) < (jn : Int) by omega)]; rfl) ?_
      refine wp_seq_k fun K3 hK3 => ?_
      have HK3 : Hid _ := hK3
      clear hK3
      by_cases hw : ∃ i, i < wn ∧ t3B (F i) = false
      · have HW1 : Calls Try.prog 18 #[.slice wa wn wc, .func (.func 19) #[] #[]] w fun e w' => e = .returned (.bool true) ∧ w.grownBy w' none := HW.mono (fun e w' h => by
          obtain ⟨b, h1, h2, h3⟩ := h
          rw [h2.2 hw] at h1
          exact ⟨h1, h3⟩)
        have HX : Hid _ := hw
        clear HW HJ hw
        go_wp2_with (go_at_call 18; refine HW1.mono ?_; rintro e w1 ⟨rfl, y1⟩)
        refine HK3.out _ _ ?_
        clear HK3
        go_wp2
        (try simp only [Exit.inBlock, Exit.then])
        refine bodyPost_ret (results_tmp rfl _ _ _) rfl ?_
        exact ⟨2, rfl, ⟨fun h => absurd h HNO.out, fun _ _ => rfl, fun _ h => absurd (.inl HX.out) h⟩, y1⟩
      · have HW1 : Calls Try.prog 18 #[.slice wa wn wc, .func (.func 19) #[] #[]] w fun e w' => e = .returned (.bool false) ∧ w.grownBy w' none := HW.mono (fun e w' h => by
          obtain ⟨b, h1, h2, h3⟩ := h
          cases b with
          | false => exact ⟨h1, h3⟩
          | true => exact absurd (h2.1 rfl) hw)
        by_cases hj : ∃ i, i < jn ∧ t3B (K i) = false
        · have HJ1 : ∀ w1, w.grownBy w1 none → Calls Try.prog 20 #[.slice ja jn jc, .func (.func 21) #[] #[]] w1 fun e w' => e = .returned (.bool true) ∧ w1.grownBy w' none := fun w1 g => (HJ w1 g).mono (fun e w' h => by
            obtain ⟨b, h1, h2, h3⟩ := h
            rw [h2.2 hj] at h1
            exact ⟨h1, h3⟩)
          have HX : Hid _ := hw
          have HY : Hid _ := hj
          clear HW HJ hw hj
          have s1 : True := trivial
          go_wp2_with (first
            | (have _t := s1; clear s1; go_at_call 18; refine HW1.mono ?_; rintro e w1 ⟨rfl, y1⟩; have s2 : True := trivial)
            | (have _t := s2; clear s2; go_at_call 20; refine (HJ1 w1 y1).mono ?_; rintro e w2 ⟨rfl, y2⟩))
          refine HK3.out _ _ ?_
          clear HK3
          go_wp2
          (try simp only [Exit.inBlock, Exit.then])
          refine bodyPost_ret (results_tmp rfl _ _ _) rfl ?_
          exact ⟨2, rfl, ⟨fun h => absurd h HNO.out, fun _ _ => rfl, fun _ h => absurd (.inr HY.out) h⟩, grown_trans y1 y2⟩
        · have HJ1 : ∀ w1, w.grownBy w1 none → Calls Try.prog 20 #[.slice ja jn jc, .func (.func 21) #[] #[]] w1 fun e w' => e = .returned (.bool false) ∧ w1.grownBy w' none := fun w1 g => (HJ w1 g).mono (fun e w' h => by
            obtain ⟨b, h1, h2, h3⟩ := h
            cases b with
            | false => exact ⟨h1, h3⟩
            | true => exact absurd (h2.1 rfl) hj)
          have HX : Hid _ := hw
          have HY : Hid _ := hj
          clear HW HJ hw hj
          have s1 : True := trivial
          go_wp2_with (first
            | (have _t := s1; clear s1; go_at_call 18; refine HW1.mono ?_; rintro e w1 ⟨rfl, y1⟩; have s2 : True := trivial)
            | (have _t := s2; clear s2; go_at_call 20; refine (HJ1 w1 y1).mono ?_; rintro e w2 ⟨rfl, y2⟩))
          refine HK3.out _ _ ?_
          clear HK3
          go_wp2
          (try simp only [Exit.inBlock, Exit.then])
          refine HK1.out _ _ ?_
          clear HK1
          go_wp2
          first | go_ret | skip
          exact ⟨0, rfl, ⟨fun h => absurd h HNO.out, fun _ h => by
            rcases h with h | h
            · exact absurd h HX.out
            · exact absurd h HY.out, fun _ _ => rfl⟩, grown_trans y1 y2⟩
end
end Go.Proofs.Ytnjdbbjhplebhaa
