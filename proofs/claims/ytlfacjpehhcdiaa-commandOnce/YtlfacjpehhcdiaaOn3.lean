import Derived.Test.YtlfacjpehhcdiaaOn2
namespace Go.Proofs.Ytlfacjpehhcdiaa
open Go.RowKit
set_option maxRecDepth 100000
set_option linter.unusedVariables false
set_option linter.unusedSimpArgs false

section
/-- a hand, cell by cell -/
def hnA (cr nx ah : Int) (sv qv : Value) (ti pa tr li si pu hl : Int) : Array Value := #[.int .i64 cr, .int .i64 nx, .int .i64 ah, sv, qv, .int .i64 ti, .int .i64 pa, .int .i64 tr, .int .i64 li, .int .i64 si, .int .i64 pu, .int .i64 hl]
theorem BxS.cell12 {w : World} {g : Nat} {t : TypeId} {a0 a1 a2 a3 a4 a5 a6 a7 a8 a9 aa ab : Value} (k : BxS w g t #[a0, a1, a2, a3, a4, a5, a6, a7, a8, a9, aa, ab]) : w.cell? ⟨g, 0, none⟩ = some a0 ∧ w.cell? ⟨g, 1, none⟩ = some a1 ∧ w.cell? ⟨g, 2, none⟩ = some a2 ∧ w.cell? ⟨g, 3, none⟩ = some a3 ∧ w.cell? ⟨g, 4, none⟩ = some a4 ∧ w.cell? ⟨g, 5, none⟩ = some a5 ∧ w.cell? ⟨g, 6, none⟩ = some a6 ∧ w.cell? ⟨g, 7, none⟩ = some a7 ∧ w.cell? ⟨g, 8, none⟩ = some a8 ∧ w.cell? ⟨g, 9, none⟩ = some a9 ∧ w.cell? ⟨g, 10, none⟩ = some aa ∧ w.cell? ⟨g, 11, none⟩ = some ab := by
  simp [World.cell?, show w.heap[g]? = _ from k]
theorem Try.info_hn : (Try.prog.info? 26).map (fun i => i.size) = some 12 := by kernel_rfl
def alC (F : Nat → Rw) : Nat → Bool
  | 0 => true
  | k + 1 => alC F k && kwB (F k).n 1 1017
theorem alC_no (F : Nat → Rw) (k : Nat) (h : kwB (F k).n 1 1017 = false) (n : Nat) (hk : k < n) : alC F n = false := by
  induction n with
  | zero => omega
  | succ n ih =>
    show (alC F n && kwB (F n).n 1 1017) = false
    by_cases e : k = n
    · subst e; rw [h, Bool.and_false]
    · rw [ih (by omega), Bool.false_and]
theorem alC_ok {F : Nat → Rw} {n : Nat} (h : alC F n = true) : ∀ i, i < n → 1 ≤ (F i).n ∧ (F i).n ≤ 1017 := by
  intro i hi
  cases e : kwB (F i).n 1 1017 with
  | false => rw [alC_no F i e n hi] at h; cases h
  | true => have := kwB_ok e; omega
/-- may these commands be? -/
def cmB (n : Nat) (F : Nat → Rw) (m : Int) : Bool := decide ((n : Int) ≤ m) && alC F n
def hlB (h : Int) : Bool := decide (h = 0 ∨ h = 15 ∨ h = 11 ∨ h = 19)
set_option maxHeartbeats 4000000 in
theorem halt_any (h : Int) (w : World) : Calls Try.prog 27 #[.int .i64 h] w fun e w' => e = .returned (.bool (hlB h)) ∧ w' = w := by
  unfold hlB
  by_cases h0 : h = 0
  · subst h0
    go_enter Try.func27, Try.ntmps27
    go_wp2
    go_ret
    exact ⟨rfl, rfl⟩
  have l0 : ((h == 0) : Bool) = false := by simp; omega
  by_cases h1 : h = 15
  · subst h1
    go_enter Try.func27, Try.ntmps27
    go_wp2
    go_ret
    exact ⟨rfl, rfl⟩
  have l1 : ((h == 15) : Bool) = false := by simp; omega
  by_cases h2 : h = 11
  · subst h2
    go_enter Try.func27, Try.ntmps27
    go_wp2
    go_ret
    exact ⟨rfl, rfl⟩
  have l2 : ((h == 11) : Bool) = false := by simp; omega
  by_cases h3 : h = 19
  · subst h3
    go_enter Try.func27, Try.ntmps27
    go_wp2
    go_ret
    exact ⟨rfl, rfl⟩
  have l3 : ((h == 19) : Bool) = false := by simp; omega
  rw [decide_eq_false (by omega)]
  go_enter Try.func27, Try.ntmps27
  go_wp2
  go_ret
  exact ⟨rfl, rfl⟩
set_option maxHeartbeats 4000000 in
theorem cmds_any (a : Option Addr) (n cap : Nat) (F : Nat → Rw) (m : Int) (w : World) (h : RdR w a n cap F) :
    Calls Try.prog 26 #[.slice a n cap, .int .i64 m] w fun e w' => e = .returned (.bool (cmB n F m)) ∧ w.grownBy w' none := by
  have hle := h.le
  have hmx := h.max
  unfold maxLen at hmx
  unfold cmB
  by_cases hm : (n : Int) ≤ m
  case neg =>
    rw [decide_eq_false hm, Bool.false_and]
    have l0 : m < (n : Int) := by omega
    go_enter Try.func26, Try.ntmps26
    go_wp2
    go_ret
    exact ⟨rfl, World.grownBy.refl _ _⟩
  rw [decide_eq_true hm, Bool.true_and]
  have l0 : ¬ m < (n : Int) := by omega
  have HQ : Hid (alC F n = alC F n) := show _ = _ from rfl
  generalize hZ : alC F n = Z
  have HZ : Hid (alC F n = Z) := hZ
  clear hZ HQ
  go_enter Try.func26, Try.ntmps26
  go_wp2
  go_loopw [13] (fun i wr => ∃ k : Nat, k ≤ n ∧ i = .int .i64 k ∧ Hid (alC F k = true) ∧ w.grownBy wr none) (fun i _ => n - (intOf i).toNat)
  case atStart => exact ⟨0, by omega, rfl, show alC F 0 = true from rfl, World.grownBy.refl _ _⟩
  case round =>
    obtain ⟨k, hk, rfl, HK, hgr⟩ := hrel
    by_cases hlt : k < n
    · obtain ⟨ba, oa, rfl, hba, ca⟩ := (h.keep hgr).at' (by omega)
      have d1 := ca k hlt
      have l1 : (k : Int) < (n : Int) := by omega
      have ho := fun wz => size_any (F k).a (F k).n (F k).c wz
      cases hv : kwB (F k).n 1 1017 with
      | true =>
        rw [hv] at ho
        have HK1 : Hid (alC F (k + 1) = true) := show (alC F k && kwB (F k).n 1 1017) = true by rw [HK.out, hv]; rfl
        clear ca hv
        go_wp2_with (go_at_call 18; refine (ho _).mono ?_; rintro e w2 ⟨rfl, hw⟩; have hw := hw.symm; subst hw)
        go_roundw
        case rel => exact ⟨k + 1, by omega, by go_num, HK1, hgr⟩
        case measure => simp [intOf]; omega
      | false =>
        rw [hv] at ho
        have hZ : Z = false := by rw [← HZ.out]; exact alC_no F k hv n hlt
        subst hZ
        clear ca hv
        go_wp2_with (go_at_call 18; refine (ho _).mono ?_; rintro e w2 ⟨rfl, hw⟩; have hw := hw.symm; subst hw)
        go_ret
        exact ⟨rfl, hgr⟩
    · obtain rfl : k = n := by omega
      have hZ : Z = true := HZ.out.symm.trans HK.out
      subst hZ
      go_wp2
      go_ret
      exact ⟨rfl, hgr⟩
/-- may a hand be? -/
def hnB (cr nx ah : Int) (sn : Nat) (F : Nat → Rw) (qn : Nat) (H : Nat → Rw) (ti pa tr li si pu hl : Int) : Bool := kwB cr 0 1023 && kwB ah 1 127 && kwB pa 1 1000 && kwB pu 0 1000 && kwB li 1 100 && kwB nx 0 255 && cmB sn F ah && cmB qn H 100 && kwB ti 0 (pa - 1) && kwB tr 0 li && kwB si 0 pu && hlB hl
set_option maxHeartbeats 32000000 in
theorem hmay_any (cr nx ah : Int) (sa : Option Addr) (sn sc : Nat) (F : Nat → Rw) (qa : Option Addr) (qn qc : Nat) (H : Nat → Rw) (ti pa tr li si pu hl : Int) (w : World) (hS : RdR w sa sn sc F) (hQ : RdR w qa qn qc H) :
    Calls Try.prog 14 #[.agg (hnA cr nx ah (.slice sa sn sc) (.slice qa qn qc) ti pa tr li si pu hl)] w fun e w' => e = .returned (.bool (hnB cr nx ah sn F qn H ti pa tr li si pu hl)) ∧ w.grownBy w' none := by
  have b0 := BxS.new w 26 #[.int .i64 cr, .int .i64 nx, .int .i64 ah, .slice sa sn sc, .slice qa qn qc, .int .i64 ti, .int .i64 pa, .int .i64 tr, .int .i64 li, .int .i64 si, .int .i64 pu, .int .i64 hl]
  have g0 := World.grownBy_alloc w (.cells #[.int .i64 cr, .int .i64 nx, .int .i64 ah, .slice sa sn sc, .slice qa qn qc, .int .i64 ti, .int .i64 pa, .int .i64 tr, .int .i64 li, .int .i64 si, .int .i64 pu, .int .i64 hl] 26) none
  unfold hnA
  generalize hw0 : w.alloc (.cells #[.int .i64 cr, .int .i64 nx, .int .i64 ah, .slice sa sn sc, .slice qa qn qc, .int .i64 ti, .int .i64 pa, .int .i64 tr, .int .i64 li, .int .i64 si, .int .i64 pu, .int .i64 hl] 26) = w0 at b0 g0
  obtain ⟨c0, c1, c2, c3, c4, c5, c6, c7, c8, c9, c10, c11⟩ := b0.cell12
  have hS0 := hS.keep g0
  have hQ0 := hQ.keep g0
  have HB : Hid (hnB cr nx ah sn F qn H ti pa tr li si pu hl = (kwB cr 0 1023 && kwB ah 1 127 && kwB pa 1 1000 && kwB pu 0 1000 && kwB li 1 100 && kwB nx 0 255 && cmB sn F ah && cmB qn H 100 && kwB ti 0 (pa - 1) && kwB tr 0 li && kwB si 0 pu && hlB hl)) := show _ = _ from rfl
  generalize hnB cr nx ah sn F qn H ti pa tr li si pu hl = Z at HB ⊢
  have t0 : True := trivial
  have h0 := fun wz => kwithin_any cr 0 1023 wz
  have h1 := fun wz => kwithin_any ah 1 127 wz
  have h2 := fun wz => kwithin_any pa 1 1000 wz
  have h3 := fun wz => kwithin_any pu 0 1000 wz
  have h4 := fun wz => kwithin_any li 1 100 wz
  have h5 := fun wz => kwithin_any nx 0 255 wz
  have h6 := fun wz hz => cmds_any sa sn sc F ah wz hz
  have h7 := fun wz hz => cmds_any qa qn qc H 100 wz hz
  have h8 := fun wz => kwithin_any ti 0 (pa - 1) wz
  have h9 := fun wz => kwithin_any tr 0 li wz
  have h10 := fun wz => kwithin_any si 0 pu wz
  have h11 := fun wz => halt_any hl wz
  cases e0 : kwB cr 0 1023
  case false =>
    rw [e0] at h0 HB
    have hZ : Z = false := by rw [HB.out]; simp only [Bool.and_false, Bool.false_and]
    subst hZ
    clear HB
    go_enter Try.func14, Try.ntmps14
    go_wp2_with (first
      | (go_at_call 25; have _t := t0; clear t0; refine (h0 _).mono ?_; rintro e wx ⟨rfl, hw⟩; have hw := hw.symm; subst hw; have t1 : True := trivial))
    go_ret
    exact ⟨rfl, g0⟩
  rw [e0] at h0 HB
  cases e1 : kwB ah 1 127
  case false =>
    rw [e1] at h1 HB
    have hZ : Z = false := by rw [HB.out]; simp only [Bool.and_false, Bool.false_and]
    subst hZ
    clear HB
    go_enter Try.func14, Try.ntmps14
    go_wp2_with (first
      | (go_at_call 25; have _t := t0; clear t0; refine (h0 _).mono ?_; rintro e wx ⟨rfl, hw⟩; have hw := hw.symm; subst hw; have t1 : True := trivial)
      | (go_at_call 25; have _t := t1; clear t1; refine (h1 _).mono ?_; rintro e wx ⟨rfl, hw⟩; have hw := hw.symm; subst hw; have t2 : True := trivial))
    go_ret
    exact ⟨rfl, g0⟩
  rw [e1] at h1 HB
  cases e2 : kwB pa 1 1000
  case false =>
    rw [e2] at h2 HB
    have hZ : Z = false := by rw [HB.out]; simp only [Bool.and_false, Bool.false_and]
    subst hZ
    clear HB
    go_enter Try.func14, Try.ntmps14
    go_wp2_with (first
      | (go_at_call 25; have _t := t0; clear t0; refine (h0 _).mono ?_; rintro e wx ⟨rfl, hw⟩; have hw := hw.symm; subst hw; have t1 : True := trivial)
      | (go_at_call 25; have _t := t1; clear t1; refine (h1 _).mono ?_; rintro e wx ⟨rfl, hw⟩; have hw := hw.symm; subst hw; have t2 : True := trivial)
      | (go_at_call 25; have _t := t2; clear t2; refine (h2 _).mono ?_; rintro e wx ⟨rfl, hw⟩; have hw := hw.symm; subst hw; have t3 : True := trivial))
    go_ret
    exact ⟨rfl, g0⟩
  rw [e2] at h2 HB
  have hpa := kwB_ok e2
  cases e3 : kwB pu 0 1000
  case false =>
    rw [e3] at h3 HB
    have hZ : Z = false := by rw [HB.out]; simp only [Bool.and_false, Bool.false_and]
    subst hZ
    clear HB
    go_enter Try.func14, Try.ntmps14
    go_wp2_with (first
      | (go_at_call 25; have _t := t0; clear t0; refine (h0 _).mono ?_; rintro e wx ⟨rfl, hw⟩; have hw := hw.symm; subst hw; have t1 : True := trivial)
      | (go_at_call 25; have _t := t1; clear t1; refine (h1 _).mono ?_; rintro e wx ⟨rfl, hw⟩; have hw := hw.symm; subst hw; have t2 : True := trivial)
      | (go_at_call 25; have _t := t2; clear t2; refine (h2 _).mono ?_; rintro e wx ⟨rfl, hw⟩; have hw := hw.symm; subst hw; have t3 : True := trivial)
      | (go_at_call 25; have _t := t3; clear t3; refine (h3 _).mono ?_; rintro e wx ⟨rfl, hw⟩; have hw := hw.symm; subst hw; have t4 : True := trivial))
    go_ret
    exact ⟨rfl, g0⟩
  rw [e3] at h3 HB
  cases e4 : kwB li 1 100
  case false =>
    rw [e4] at h4 HB
    have hZ : Z = false := by rw [HB.out]; simp only [Bool.and_false, Bool.false_and]
    subst hZ
    clear HB
    go_enter Try.func14, Try.ntmps14
    go_wp2_with (first
      | (go_at_call 25; have _t := t0; clear t0; refine (h0 _).mono ?_; rintro e wx ⟨rfl, hw⟩; have hw := hw.symm; subst hw; have t1 : True := trivial)
      | (go_at_call 25; have _t := t1; clear t1; refine (h1 _).mono ?_; rintro e wx ⟨rfl, hw⟩; have hw := hw.symm; subst hw; have t2 : True := trivial)
      | (go_at_call 25; have _t := t2; clear t2; refine (h2 _).mono ?_; rintro e wx ⟨rfl, hw⟩; have hw := hw.symm; subst hw; have t3 : True := trivial)
      | (go_at_call 25; have _t := t3; clear t3; refine (h3 _).mono ?_; rintro e wx ⟨rfl, hw⟩; have hw := hw.symm; subst hw; have t4 : True := trivial)
      | (go_at_call 25; have _t := t4; clear t4; refine (h4 _).mono ?_; rintro e wx ⟨rfl, hw⟩; have hw := hw.symm; subst hw; have t5 : True := trivial))
    go_ret
    exact ⟨rfl, g0⟩
  rw [e4] at h4 HB
  cases e5 : kwB nx 0 255
  case false =>
    rw [e5] at h5 HB
    have hZ : Z = false := by rw [HB.out]; simp only [Bool.and_false, Bool.false_and]
    subst hZ
    clear HB
    go_enter Try.func14, Try.ntmps14
    go_wp2_with (first
      | (go_at_call 25; have _t := t0; clear t0; refine (h0 _).mono ?_; rintro e wx ⟨rfl, hw⟩; have hw := hw.symm; subst hw; have t1 : True := trivial)
      | (go_at_call 25; have _t := t1; clear t1; refine (h1 _).mono ?_; rintro e wx ⟨rfl, hw⟩; have hw := hw.symm; subst hw; have t2 : True := trivial)
      | (go_at_call 25; have _t := t2; clear t2; refine (h2 _).mono ?_; rintro e wx ⟨rfl, hw⟩; have hw := hw.symm; subst hw; have t3 : True := trivial)
      | (go_at_call 25; have _t := t3; clear t3; refine (h3 _).mono ?_; rintro e wx ⟨rfl, hw⟩; have hw := hw.symm; subst hw; have t4 : True := trivial)
      | (go_at_call 25; have _t := t4; clear t4; refine (h4 _).mono ?_; rintro e wx ⟨rfl, hw⟩; have hw := hw.symm; subst hw; have t5 : True := trivial)
      | (go_at_call 25; have _t := t5; clear t5; refine (h5 _).mono ?_; rintro e wx ⟨rfl, hw⟩; have hw := hw.symm; subst hw; have t6 : True := trivial))
    go_ret
    exact ⟨rfl, g0⟩
  rw [e5] at h5 HB
  cases e6 : cmB sn F ah
  case false =>
    rw [e6] at h6 HB
    have hZ : Z = false := by rw [HB.out]; simp only [Bool.and_false, Bool.false_and]
    subst hZ
    clear HB
    go_enter Try.func14, Try.ntmps14
    go_wp2_with (first
      | (go_at_call 25; have _t := t0; clear t0; refine (h0 _).mono ?_; rintro e wx ⟨rfl, hw⟩; have hw := hw.symm; subst hw; have t1 : True := trivial)
      | (go_at_call 25; have _t := t1; clear t1; refine (h1 _).mono ?_; rintro e wx ⟨rfl, hw⟩; have hw := hw.symm; subst hw; have t2 : True := trivial)
      | (go_at_call 25; have _t := t2; clear t2; refine (h2 _).mono ?_; rintro e wx ⟨rfl, hw⟩; have hw := hw.symm; subst hw; have t3 : True := trivial)
      | (go_at_call 25; have _t := t3; clear t3; refine (h3 _).mono ?_; rintro e wx ⟨rfl, hw⟩; have hw := hw.symm; subst hw; have t4 : True := trivial)
      | (go_at_call 25; have _t := t4; clear t4; refine (h4 _).mono ?_; rintro e wx ⟨rfl, hw⟩; have hw := hw.symm; subst hw; have t5 : True := trivial)
      | (go_at_call 25; have _t := t5; clear t5; refine (h5 _).mono ?_; rintro e wx ⟨rfl, hw⟩; have hw := hw.symm; subst hw; have t6 : True := trivial)
      | (go_at_call 26; have _t := t6; clear t6; refine (h6 w0 hS0).mono ?_; rintro e w1 ⟨rfl, g1⟩; clear c0 c1 c2 c3 c4 c5 c6 c7 c8 c9 c10 c11; obtain ⟨c0, c1, c2, c3, c4, c5, c6, c7, c8, c9, c10, c11⟩ := (b0.keep g1 (by simp)).cell12; have t7 : True := trivial))
    go_ret
    exact ⟨rfl, grown_trans g0 g1⟩
  rw [e6] at h6 HB
  cases e7 : cmB qn H 100
  case false =>
    rw [e7] at h7 HB
    have hZ : Z = false := by rw [HB.out]; simp only [Bool.and_false, Bool.false_and]
    subst hZ
    clear HB
    go_enter Try.func14, Try.ntmps14
    go_wp2_with (first
      | (go_at_call 25; have _t := t0; clear t0; refine (h0 _).mono ?_; rintro e wx ⟨rfl, hw⟩; have hw := hw.symm; subst hw; have t1 : True := trivial)
      | (go_at_call 25; have _t := t1; clear t1; refine (h1 _).mono ?_; rintro e wx ⟨rfl, hw⟩; have hw := hw.symm; subst hw; have t2 : True := trivial)
      | (go_at_call 25; have _t := t2; clear t2; refine (h2 _).mono ?_; rintro e wx ⟨rfl, hw⟩; have hw := hw.symm; subst hw; have t3 : True := trivial)
      | (go_at_call 25; have _t := t3; clear t3; refine (h3 _).mono ?_; rintro e wx ⟨rfl, hw⟩; have hw := hw.symm; subst hw; have t4 : True := trivial)
      | (go_at_call 25; have _t := t4; clear t4; refine (h4 _).mono ?_; rintro e wx ⟨rfl, hw⟩; have hw := hw.symm; subst hw; have t5 : True := trivial)
      | (go_at_call 25; have _t := t5; clear t5; refine (h5 _).mono ?_; rintro e wx ⟨rfl, hw⟩; have hw := hw.symm; subst hw; have t6 : True := trivial)
      | (go_at_call 26; have _t := t6; clear t6; refine (h6 w0 hS0).mono ?_; rintro e w1 ⟨rfl, g1⟩; clear c0 c1 c2 c3 c4 c5 c6 c7 c8 c9 c10 c11; obtain ⟨c0, c1, c2, c3, c4, c5, c6, c7, c8, c9, c10, c11⟩ := (b0.keep g1 (by simp)).cell12; have t7 : True := trivial)
      | (go_at_call 26; have _t := t7; clear t7; refine (h7 w1 (hQ0.keep g1)).mono ?_; rintro e w2 ⟨rfl, g2⟩; clear c0 c1 c2 c3 c4 c5 c6 c7 c8 c9 c10 c11; obtain ⟨c0, c1, c2, c3, c4, c5, c6, c7, c8, c9, c10, c11⟩ := (b0.keep (grown_trans g1 g2) (by simp)).cell12; have t8 : True := trivial))
    go_ret
    exact ⟨rfl, grown_trans g0 (grown_trans g1 g2)⟩
  rw [e7] at h7 HB
  cases e8 : kwB ti 0 (pa - 1)
  case false =>
    rw [e8] at h8 HB
    have hZ : Z = false := by rw [HB.out]; simp only [Bool.and_false, Bool.false_and]
    subst hZ
    clear HB
    go_enter Try.func14, Try.ntmps14
    go_wp2_with (first
      | (go_at_call 25; have _t := t0; clear t0; refine (h0 _).mono ?_; rintro e wx ⟨rfl, hw⟩; have hw := hw.symm; subst hw; have t1 : True := trivial)
      | (go_at_call 25; have _t := t1; clear t1; refine (h1 _).mono ?_; rintro e wx ⟨rfl, hw⟩; have hw := hw.symm; subst hw; have t2 : True := trivial)
      | (go_at_call 25; have _t := t2; clear t2; refine (h2 _).mono ?_; rintro e wx ⟨rfl, hw⟩; have hw := hw.symm; subst hw; have t3 : True := trivial)
      | (go_at_call 25; have _t := t3; clear t3; refine (h3 _).mono ?_; rintro e wx ⟨rfl, hw⟩; have hw := hw.symm; subst hw; have t4 : True := trivial)
      | (go_at_call 25; have _t := t4; clear t4; refine (h4 _).mono ?_; rintro e wx ⟨rfl, hw⟩; have hw := hw.symm; subst hw; have t5 : True := trivial)
      | (go_at_call 25; have _t := t5; clear t5; refine (h5 _).mono ?_; rintro e wx ⟨rfl, hw⟩; have hw := hw.symm; subst hw; have t6 : True := trivial)
      | (go_at_call 26; have _t := t6; clear t6; refine (h6 w0 hS0).mono ?_; rintro e w1 ⟨rfl, g1⟩; clear c0 c1 c2 c3 c4 c5 c6 c7 c8 c9 c10 c11; obtain ⟨c0, c1, c2, c3, c4, c5, c6, c7, c8, c9, c10, c11⟩ := (b0.keep g1 (by simp)).cell12; have t7 : True := trivial)
      | (go_at_call 26; have _t := t7; clear t7; refine (h7 w1 (hQ0.keep g1)).mono ?_; rintro e w2 ⟨rfl, g2⟩; clear c0 c1 c2 c3 c4 c5 c6 c7 c8 c9 c10 c11; obtain ⟨c0, c1, c2, c3, c4, c5, c6, c7, c8, c9, c10, c11⟩ := (b0.keep (grown_trans g1 g2) (by simp)).cell12; have t8 : True := trivial)
      | (go_at_call 25; have _t := t8; clear t8; refine (h8 _).mono ?_; rintro e wx ⟨rfl, hw⟩; have hw := hw.symm; subst hw; have t9 : True := trivial))
    go_ret
    exact ⟨rfl, grown_trans g0 (grown_trans g1 g2)⟩
  rw [e8] at h8 HB
  cases e9 : kwB tr 0 li
  case false =>
    rw [e9] at h9 HB
    have hZ : Z = false := by rw [HB.out]; simp only [Bool.and_false, Bool.false_and]
    subst hZ
    clear HB
    go_enter Try.func14, Try.ntmps14
    go_wp2_with (first
      | (go_at_call 25; have _t := t0; clear t0; refine (h0 _).mono ?_; rintro e wx ⟨rfl, hw⟩; have hw := hw.symm; subst hw; have t1 : True := trivial)
      | (go_at_call 25; have _t := t1; clear t1; refine (h1 _).mono ?_; rintro e wx ⟨rfl, hw⟩; have hw := hw.symm; subst hw; have t2 : True := trivial)
      | (go_at_call 25; have _t := t2; clear t2; refine (h2 _).mono ?_; rintro e wx ⟨rfl, hw⟩; have hw := hw.symm; subst hw; have t3 : True := trivial)
      | (go_at_call 25; have _t := t3; clear t3; refine (h3 _).mono ?_; rintro e wx ⟨rfl, hw⟩; have hw := hw.symm; subst hw; have t4 : True := trivial)
      | (go_at_call 25; have _t := t4; clear t4; refine (h4 _).mono ?_; rintro e wx ⟨rfl, hw⟩; have hw := hw.symm; subst hw; have t5 : True := trivial)
      | (go_at_call 25; have _t := t5; clear t5; refine (h5 _).mono ?_; rintro e wx ⟨rfl, hw⟩; have hw := hw.symm; subst hw; have t6 : True := trivial)
      | (go_at_call 26; have _t := t6; clear t6; refine (h6 w0 hS0).mono ?_; rintro e w1 ⟨rfl, g1⟩; clear c0 c1 c2 c3 c4 c5 c6 c7 c8 c9 c10 c11; obtain ⟨c0, c1, c2, c3, c4, c5, c6, c7, c8, c9, c10, c11⟩ := (b0.keep g1 (by simp)).cell12; have t7 : True := trivial)
      | (go_at_call 26; have _t := t7; clear t7; refine (h7 w1 (hQ0.keep g1)).mono ?_; rintro e w2 ⟨rfl, g2⟩; clear c0 c1 c2 c3 c4 c5 c6 c7 c8 c9 c10 c11; obtain ⟨c0, c1, c2, c3, c4, c5, c6, c7, c8, c9, c10, c11⟩ := (b0.keep (grown_trans g1 g2) (by simp)).cell12; have t8 : True := trivial)
      | (go_at_call 25; have _t := t8; clear t8; refine (h8 _).mono ?_; rintro e wx ⟨rfl, hw⟩; have hw := hw.symm; subst hw; have t9 : True := trivial)
      | (go_at_call 25; have _t := t9; clear t9; refine (h9 _).mono ?_; rintro e wx ⟨rfl, hw⟩; have hw := hw.symm; subst hw; have t10 : True := trivial))
    go_ret
    exact ⟨rfl, grown_trans g0 (grown_trans g1 g2)⟩
  rw [e9] at h9 HB
  cases e10 : kwB si 0 pu
  case false =>
    rw [e10] at h10 HB
    have hZ : Z = false := by rw [HB.out]; simp only [Bool.and_false, Bool.false_and]
    subst hZ
    clear HB
    go_enter Try.func14, Try.ntmps14
    go_wp2_with (first
      | (go_at_call 25; have _t := t0; clear t0; refine (h0 _).mono ?_; rintro e wx ⟨rfl, hw⟩; have hw := hw.symm; subst hw; have t1 : True := trivial)
      | (go_at_call 25; have _t := t1; clear t1; refine (h1 _).mono ?_; rintro e wx ⟨rfl, hw⟩; have hw := hw.symm; subst hw; have t2 : True := trivial)
      | (go_at_call 25; have _t := t2; clear t2; refine (h2 _).mono ?_; rintro e wx ⟨rfl, hw⟩; have hw := hw.symm; subst hw; have t3 : True := trivial)
      | (go_at_call 25; have _t := t3; clear t3; refine (h3 _).mono ?_; rintro e wx ⟨rfl, hw⟩; have hw := hw.symm; subst hw; have t4 : True := trivial)
      | (go_at_call 25; have _t := t4; clear t4; refine (h4 _).mono ?_; rintro e wx ⟨rfl, hw⟩; have hw := hw.symm; subst hw; have t5 : True := trivial)
      | (go_at_call 25; have _t := t5; clear t5; refine (h5 _).mono ?_; rintro e wx ⟨rfl, hw⟩; have hw := hw.symm; subst hw; have t6 : True := trivial)
      | (go_at_call 26; have _t := t6; clear t6; refine (h6 w0 hS0).mono ?_; rintro e w1 ⟨rfl, g1⟩; clear c0 c1 c2 c3 c4 c5 c6 c7 c8 c9 c10 c11; obtain ⟨c0, c1, c2, c3, c4, c5, c6, c7, c8, c9, c10, c11⟩ := (b0.keep g1 (by simp)).cell12; have t7 : True := trivial)
      | (go_at_call 26; have _t := t7; clear t7; refine (h7 w1 (hQ0.keep g1)).mono ?_; rintro e w2 ⟨rfl, g2⟩; clear c0 c1 c2 c3 c4 c5 c6 c7 c8 c9 c10 c11; obtain ⟨c0, c1, c2, c3, c4, c5, c6, c7, c8, c9, c10, c11⟩ := (b0.keep (grown_trans g1 g2) (by simp)).cell12; have t8 : True := trivial)
      | (go_at_call 25; have _t := t8; clear t8; refine (h8 _).mono ?_; rintro e wx ⟨rfl, hw⟩; have hw := hw.symm; subst hw; have t9 : True := trivial)
      | (go_at_call 25; have _t := t9; clear t9; refine (h9 _).mono ?_; rintro e wx ⟨rfl, hw⟩; have hw := hw.symm; subst hw; have t10 : True := trivial)
      | (go_at_call 25; have _t := t10; clear t10; refine (h10 _).mono ?_; rintro e wx ⟨rfl, hw⟩; have hw := hw.symm; subst hw; have t11 : True := trivial))
    go_ret
    exact ⟨rfl, grown_trans g0 (grown_trans g1 g2)⟩
  rw [e10] at h10 HB
  cases e11 : hlB hl
  case false =>
    rw [e11] at h11 HB
    have hZ : Z = false := by rw [HB.out]; simp only [Bool.and_false, Bool.false_and]
    subst hZ
    clear HB
    go_enter Try.func14, Try.ntmps14
    go_wp2_with (first
      | (go_at_call 25; have _t := t0; clear t0; refine (h0 _).mono ?_; rintro e wx ⟨rfl, hw⟩; have hw := hw.symm; subst hw; have t1 : True := trivial)
      | (go_at_call 25; have _t := t1; clear t1; refine (h1 _).mono ?_; rintro e wx ⟨rfl, hw⟩; have hw := hw.symm; subst hw; have t2 : True := trivial)
      | (go_at_call 25; have _t := t2; clear t2; refine (h2 _).mono ?_; rintro e wx ⟨rfl, hw⟩; have hw := hw.symm; subst hw; have t3 : True := trivial)
      | (go_at_call 25; have _t := t3; clear t3; refine (h3 _).mono ?_; rintro e wx ⟨rfl, hw⟩; have hw := hw.symm; subst hw; have t4 : True := trivial)
      | (go_at_call 25; have _t := t4; clear t4; refine (h4 _).mono ?_; rintro e wx ⟨rfl, hw⟩; have hw := hw.symm; subst hw; have t5 : True := trivial)
      | (go_at_call 25; have _t := t5; clear t5; refine (h5 _).mono ?_; rintro e wx ⟨rfl, hw⟩; have hw := hw.symm; subst hw; have t6 : True := trivial)
      | (go_at_call 26; have _t := t6; clear t6; refine (h6 w0 hS0).mono ?_; rintro e w1 ⟨rfl, g1⟩; clear c0 c1 c2 c3 c4 c5 c6 c7 c8 c9 c10 c11; obtain ⟨c0, c1, c2, c3, c4, c5, c6, c7, c8, c9, c10, c11⟩ := (b0.keep g1 (by simp)).cell12; have t7 : True := trivial)
      | (go_at_call 26; have _t := t7; clear t7; refine (h7 w1 (hQ0.keep g1)).mono ?_; rintro e w2 ⟨rfl, g2⟩; clear c0 c1 c2 c3 c4 c5 c6 c7 c8 c9 c10 c11; obtain ⟨c0, c1, c2, c3, c4, c5, c6, c7, c8, c9, c10, c11⟩ := (b0.keep (grown_trans g1 g2) (by simp)).cell12; have t8 : True := trivial)
      | (go_at_call 25; have _t := t8; clear t8; refine (h8 _).mono ?_; rintro e wx ⟨rfl, hw⟩; have hw := hw.symm; subst hw; have t9 : True := trivial)
      | (go_at_call 25; have _t := t9; clear t9; refine (h9 _).mono ?_; rintro e wx ⟨rfl, hw⟩; have hw := hw.symm; subst hw; have t10 : True := trivial)
      | (go_at_call 25; have _t := t10; clear t10; refine (h10 _).mono ?_; rintro e wx ⟨rfl, hw⟩; have hw := hw.symm; subst hw; have t11 : True := trivial)
      | (go_at_call 27; have _t := t11; clear t11; refine (h11 _).mono ?_; rintro e wx ⟨rfl, hw⟩; have hw := hw.symm; subst hw; have t12 : True := trivial))
    go_ret
    exact ⟨rfl, grown_trans g0 (grown_trans g1 g2)⟩
  rw [e11] at h11 HB
  have hZ : Z = true := HB.out
  subst hZ
  clear HB
  go_enter Try.func14, Try.ntmps14
  go_wp2_with (first
    | (go_at_call 25; have _t := t0; clear t0; refine (h0 _).mono ?_; rintro e wx ⟨rfl, hw⟩; have hw := hw.symm; subst hw; have t1 : True := trivial)
    | (go_at_call 25; have _t := t1; clear t1; refine (h1 _).mono ?_; rintro e wx ⟨rfl, hw⟩; have hw := hw.symm; subst hw; have t2 : True := trivial)
    | (go_at_call 25; have _t := t2; clear t2; refine (h2 _).mono ?_; rintro e wx ⟨rfl, hw⟩; have hw := hw.symm; subst hw; have t3 : True := trivial)
    | (go_at_call 25; have _t := t3; clear t3; refine (h3 _).mono ?_; rintro e wx ⟨rfl, hw⟩; have hw := hw.symm; subst hw; have t4 : True := trivial)
    | (go_at_call 25; have _t := t4; clear t4; refine (h4 _).mono ?_; rintro e wx ⟨rfl, hw⟩; have hw := hw.symm; subst hw; have t5 : True := trivial)
    | (go_at_call 25; have _t := t5; clear t5; refine (h5 _).mono ?_; rintro e wx ⟨rfl, hw⟩; have hw := hw.symm; subst hw; have t6 : True := trivial)
    | (go_at_call 26; have _t := t6; clear t6; refine (h6 w0 hS0).mono ?_; rintro e w1 ⟨rfl, g1⟩; clear c0 c1 c2 c3 c4 c5 c6 c7 c8 c9 c10 c11; obtain ⟨c0, c1, c2, c3, c4, c5, c6, c7, c8, c9, c10, c11⟩ := (b0.keep g1 (by simp)).cell12; have t7 : True := trivial)
    | (go_at_call 26; have _t := t7; clear t7; refine (h7 w1 (hQ0.keep g1)).mono ?_; rintro e w2 ⟨rfl, g2⟩; clear c0 c1 c2 c3 c4 c5 c6 c7 c8 c9 c10 c11; obtain ⟨c0, c1, c2, c3, c4, c5, c6, c7, c8, c9, c10, c11⟩ := (b0.keep (grown_trans g1 g2) (by simp)).cell12; have t8 : True := trivial)
    | (go_at_call 25; have _t := t8; clear t8; refine (h8 _).mono ?_; rintro e wx ⟨rfl, hw⟩; have hw := hw.symm; subst hw; have t9 : True := trivial)
    | (go_at_call 25; have _t := t9; clear t9; refine (h9 _).mono ?_; rintro e wx ⟨rfl, hw⟩; have hw := hw.symm; subst hw; have t10 : True := trivial)
    | (go_at_call 25; have _t := t10; clear t10; refine (h10 _).mono ?_; rintro e wx ⟨rfl, hw⟩; have hw := hw.symm; subst hw; have t11 : True := trivial)
    | (go_at_call 27; have _t := t11; clear t11; refine (h11 _).mono ?_; rintro e wx ⟨rfl, hw⟩; have hw := hw.symm; subst hw; have t12 : True := trivial))
  go_ret
  exact ⟨rfl, grown_trans g0 (grown_trans g1 g2)⟩
end
end Go.Proofs.Ytlfacjpehhcdiaa
