import Derived.Test.YtnimehkfnpepfaaWh7
namespace Go.Proofs.Ytnimehkfnpepfaa
open Go.RowKit
set_option maxRecDepth 100000
set_option linter.unusedVariables false
set_option linter.unusedSimpArgs false

section
/-- a gap within so many bytes, or both are nought -/
def spB (x y n : Int) : Bool := decide (0 ≤ x ∧ x < y ∧ y ≤ n)
def gpB (x y n : Int) : Bool := decide ((x = 0 ∧ y = 0) ∨ (0 ≤ x ∧ x < y ∧ y ≤ n))
def alG (F : Nat → Int × Int) (s : Int) : Nat → Bool
  | 0 => true
  | k + 1 => alG F s k && gpB (F k).1 (F k).2 s
theorem alG_no (F : Nat → Int × Int) (s : Int) (k : Nat) (h : gpB (F k).1 (F k).2 s = false) (n : Nat) (hk : k < n) : alG F s n = false := by
  induction n with
  | zero => omega
  | succ n ih =>
    show (alG F s n && gpB (F n).1 (F n).2 s) = false
    by_cases e : k = n
    · subst e; rw [h, Bool.and_false]
    · rw [ih (by omega), Bool.false_and]
theorem ret_bool {x y : Bool} (h : x = y) : Ending.returned (.bool x) = Ending.returned (.bool y) := by rw [h]
theorem spanMay_any (x y n : Int) (w : World) : Calls Try.prog 112 #[.agg #[.int .i64 x, .int .i64 y], .int .i64 n] w fun e w' => e = .returned (.bool (spB x y n)) ∧ w.grownBy w' none := by
  have g0 := World.grownBy_alloc w (.cells #[.int .i64 x, .int .i64 y] 82) none
  go_enter Try.func112, Try.ntmps112
  go_wp2
  all_goals
    go_ret
    refine ⟨ret_bool ?_, g0⟩
    rw [Bool.eq_iff_iff]
    simp [spB]
    omega
theorem gpB_or (x y n : Int) : gpB x y n = (spB x y n || (x == 0 && y == 0)) := by
  rw [Bool.eq_iff_iff]; simp [gpB, spB]; omega
theorem Try.info_sp : (Try.prog.info? 82).map (fun i => i.size) = some 2 := by kernel_rfl
theorem BxS.cell2 {w : World} {g : Nat} {t : TypeId} {a0 a1 : Value} (k : BxS w g t #[a0, a1]) : w.cell? ⟨g, 0, none⟩ = some a0 ∧ w.cell? ⟨g, 1, none⟩ = some a1 := by
  simp [World.cell?, show w.heap[g]? = _ from k]
set_option maxHeartbeats 4000000 in
theorem gapsMay_any (a : Option Addr) (n cap : Nat) (s : Int) (F : Nat → Int × Int) (w : World) (h : RdG w a n cap F) :
    Calls Try.prog 92 #[.slice a n cap, .int .i64 s] w fun e w' => e = .returned (.bool (alG F s n)) ∧ w.grownBy w' none := by
  have hm := h.max
  have hle := h.le
  have hml : maxLen ≤ 9223372036854775807 := by decide
  go_enter Try.func92, Try.ntmps92
  go_wp2
  go_loopw [9] (fun i wr => ∃ k : Nat, k ≤ n ∧ i = .int .i64 k ∧ w.grownBy wr none ∧ alG F s k = true) (fun i _ => n - (intOf i).toNat)
  case atStart => exact ⟨0, by omega, rfl, World.grownBy.refl _ _, rfl⟩
  case round =>
    obtain ⟨j, hj, rfl, hg, hal⟩ := hrel
    by_cases hlt : j < n
    · have hlt' : (j : Int) < (n : Int) := by omega
      obtain ⟨b1, o1, rfl, _, c1⟩ := (h.keep hg).at' (by omega)
      obtain ⟨x1, x2⟩ := c1 j hlt
      have HS : Hid (∀ k, alG F s (k + 1) = (alG F s k && gpB (F k).1 (F k).2 s)) := fun k => rfl
      have HN : Hid (∀ k, gpB (F k).1 (F k).2 s = false → k < n → alG F s n = false) := fun k h hk => alG_no F s k h n hk
      have HO : Hid (gpB (F j).1 (F j).2 s = (spB (F j).1 (F j).2 s || ((F j).1 == 0 && (F j).2 == 0))) := gpB_or _ _ _
      clear c1 h
      have hj0 : (0 : Int) ≤ (j : Int) := by omega
      have ha := fun wz => arr2_i64 (F j).1 (F j).2 0 0 wz
      have hs := fun wz => spanMay_any (F j).1 (F j).2 s wz
      have HE : Hid (((F j).1 == 0 && (F j).2 == 0) = ((F j).1 == 0 && (F j).2 == 0)) := rfl
      generalize hX : spB (F j).1 (F j).2 s = X at hs HO
      generalize hY : ((F j).1 == 0 && (F j).2 == 0) = Y at ha HO
      have HB := fun wz => BxS.new wz 82 #[.int .i64 0, .int .i64 0]
      have i2 := Try.info_sp
      clear hX hY HE
      have t1 : True := trivial
      cases X
      · cases Y
        · go_wp2_with (first
            | (have _t := t1; refine wpList_stX _ rfl _ (.tmp 6) (.tmp 12) rfl wr.heap.size _ _ rfl rfl (HB _) i2 rfl (by simp [Value.oneCell']) ?_; clear t1; intro w2 b2 g2; obtain ⟨z1, z2⟩ := b2.cell2)
            | (go_at_call 112; refine (hs _).mono ?_; rintro e w3 ⟨rfl, g3⟩; clear z1 z2; obtain ⟨z1, z2⟩ := (b2.keep g3 (by simp)).cell2))
          have G2 : w.grownBy w2 none := grown_far (grown_trans hg (World.grownBy_alloc wr _ none)) g2 (fun q e => by have e : wr.heap.size = q := Option.some.inj e; have := hg.size; omega)
          go_ret
          exact ⟨ret_bool (by rw [HN.out j (by rw [HO.out]; rfl) hlt]), grown_trans G2 g3⟩
        · go_wp2_with (first
            | (have _t := t1; refine wpList_stX _ rfl _ (.tmp 6) (.tmp 12) rfl wr.heap.size _ _ rfl rfl (HB _) i2 rfl (by simp [Value.oneCell']) ?_; clear t1; intro w2 b2 g2; obtain ⟨z1, z2⟩ := b2.cell2)
            | (go_at_call 112; refine (hs _).mono ?_; rintro e w3 ⟨rfl, g3⟩; clear z1 z2; obtain ⟨z1, z2⟩ := (b2.keep g3 (by simp)).cell2))
          have G2 : w.grownBy w2 none := grown_far (grown_trans hg (World.grownBy_alloc wr _ none)) g2 (fun q e => by have e : wr.heap.size = q := Option.some.inj e; have := hg.size; omega)
          exact ⟨⟨j + 1, by omega, rfl, grown_trans G2 g3, by rw [HS.out, hal, HO.out]; rfl⟩, by simp only [intOf]; omega⟩
      · go_wp2_with (first
          | (have _t := t1; refine wpList_stX _ rfl _ (.tmp 6) (.tmp 12) rfl wr.heap.size _ _ rfl rfl (HB _) i2 rfl (by simp [Value.oneCell']) ?_; clear t1; intro w2 b2 g2; obtain ⟨z1, z2⟩ := b2.cell2)
          | (go_at_call 112; refine (hs _).mono ?_; rintro e w3 ⟨rfl, g3⟩; clear z1 z2; obtain ⟨z1, z2⟩ := (b2.keep g3 (by simp)).cell2))
        have G2 : w.grownBy w2 none := grown_far (grown_trans hg (World.grownBy_alloc wr _ none)) g2 (fun q e => by have e : wr.heap.size = q := Option.some.inj e; have := hg.size; omega)
        exact ⟨⟨j + 1, by omega, rfl, grown_trans G2 g3, by rw [HS.out, hal, HO.out]; rfl⟩, by simp only [intOf]; omega⟩
    · have hlt' : ¬ (j : Int) < (n : Int) := by omega
      have e : j = n := by omega
      subst e
      go_wp2
      go_ret
      exact ⟨ret_bool (by first | rfl | rw [hal]), hg⟩

/-- a note's cells -/
def ntA (kd id : Int) (nm : ByteArray) (si su at' : Int) (da ga : Value) (o co : Int) : Array Value := #[.int .i64 kd, .int .i64 id, .string nm, .int .i64 si, .int .i64 su, .int .i64 at', da, ga, .int .i64 o, .int .i64 co]
/-- may the fields be that a note's kind uses? -/
def ptB (kd : Int) (nm : Nat) (si su at' : Int) (n m : Nat) (o co : Int) (g : Bool) : Bool :=
  decide ((kd = 1 ∧ 1 ≤ nm ∧ nm ≤ 32 ∧ 0 ≤ si ∧ si ≤ 65536) ∨ (kd = 2 ∧ 0 ≤ at' ∧ at' ≤ 65535 ∧ 1 ≤ n ∧ n ≤ 1024 ∧ (n : Int) ≤ 65536 - at') ∨ (kd = 3 ∧ 0 ≤ si ∧ si ≤ 65536 ∧ 0 ≤ su ∧ su ≤ 4294967295) ∨
    (kd = 4 ∧ 1 ≤ m ∧ m ≤ 20 ∧ g = true) ∨ (kd = 5 ∧ (co = 0 ∨ co = 9)) ∨ (kd = 6 ∧ (o = 3 ∨ o = 5)))
/-- is there nothing in the fields that it does not use? -/
def brB (kd : Int) (nm : Nat) (si su at' : Int) (n m : Nat) (o co : Int) : Bool :=
  decide ((kd = 1 ∨ nm = 0) ∧ (kd = 1 ∨ kd = 3 ∨ si = 0) ∧ (kd = 3 ∨ su = 0) ∧ (kd = 2 ∨ at' = 0) ∧ (kd = 2 ∨ n = 0) ∧ (kd = 4 ∨ m = 0) ∧ (kd = 6 ∨ o = 0) ∧ (kd = 5 ∨ co = 0))
def ntB (kd id : Int) (nm : Nat) (si su at' : Int) (n m : Nat) (o co : Int) (g : Bool) : Bool := kwB id 0 65535 && ptB kd nm si su at' n m o co g && brB kd nm si su at' n m o co
theorem toList_nil (s : ByteArray) : s.toList = [] ↔ s.size = 0 := by
  rw [ByteArray.toList_eq, ← List.length_eq_zero_iff]
  show s.data.toList.length = 0 ↔ s.data.size = 0
  rw [Array.length_toList]
theorem BxS.cell10 {w : World} {g : Nat} {t : TypeId} {a0 a1 a2 a3 a4 a5 a6 a7 a8 a9 : Value} (k : BxS w g t #[a0, a1, a2, a3, a4, a5, a6, a7, a8, a9]) : w.cell? ⟨g, 0, none⟩ = some a0 ∧ w.cell? ⟨g, 1, none⟩ = some a1 ∧ w.cell? ⟨g, 2, none⟩ = some a2 ∧ w.cell? ⟨g, 3, none⟩ = some a3 ∧ w.cell? ⟨g, 4, none⟩ = some a4 ∧ w.cell? ⟨g, 5, none⟩ = some a5 ∧ w.cell? ⟨g, 6, none⟩ = some a6 ∧ w.cell? ⟨g, 7, none⟩ = some a7 ∧ w.cell? ⟨g, 8, none⟩ = some a8 ∧ w.cell? ⟨g, 9, none⟩ = some a9 := by
  simp [World.cell?, show w.heap[g]? = _ from k]
set_option maxHeartbeats 8000000 in
theorem parts_any (kd id : Int) (nm : ByteArray) (si su at' : Int) (a : Option Addr) (n cap : Nat) (q : Option Addr) (m cq : Nat) (o co : Int) (F : Nat → Int × Int) (w : World) (hG : RdG w q m cq F) :
    Calls Try.prog 85 #[.agg (ntA kd id nm si su at' (.slice a n cap) (.slice q m cq) o co)] w fun e w' => e = .returned (.bool (ptB kd nm.size si su at' n m o co (alG F 65536 m))) ∧ w.grownBy w' none := by
  have g0 := World.grownBy_alloc w (.cells #[.int .i64 kd, .int .i64 id, .string nm, .int .i64 si, .int .i64 su, .int .i64 at', .slice a n cap, .slice q m cq, .int .i64 o, .int .i64 co] 27) none
  have hg := fun wz (hz : w.grownBy wz none) => gapsMay_any q m cq 65536 F wz (hG.keep hz)
  have h4 := fun wz => dwithin_any (m : Int) 1 20 wz
  unfold ntA
  generalize alG F 65536 m = gB at hg ⊢
  by_cases k1 : kd = 1
  case pos =>
    subst k1
    clear hg h4
    go_enter Try.func85, Try.ntmps85
    go_wp2
    all_goals
      go_ret
      refine ⟨ret_bool ?_, by first | exact g0 | (subst_vars; exact g0)⟩
      rw [Bool.eq_iff_iff]
      simp [ptB, kwB]
      try omega
  by_cases k2 : kd = 2
  case pos =>
    subst k2
    clear hg h4
    go_enter Try.func85, Try.ntmps85
    go_wp2
    all_goals
      go_ret
      refine ⟨ret_bool ?_, by first | exact g0 | (subst_vars; exact g0)⟩
      rw [Bool.eq_iff_iff]
      simp [ptB, kwB]
      try omega
  by_cases k3 : kd = 3
  case pos =>
    subst k3
    clear hg h4
    go_enter Try.func85, Try.ntmps85
    go_wp2
    all_goals
      go_ret
      refine ⟨ret_bool ?_, by first | exact g0 | (subst_vars; exact g0)⟩
      rw [Bool.eq_iff_iff]
      simp [ptB, kwB]
      try omega
  by_cases k4 : kd = 4
  case pos =>
    subst k4
    by_cases h1 : 1 ≤ m ∧ m ≤ 20
    · have hk : kwB m 1 20 = true := kwB_t (by omega)
      rw [hk] at h4
      cases gB
      · have e : ptB 4 nm.size si su at' n m o co false = false := by rw [Bool.eq_iff_iff]; simp [ptB]
        rw [e]
        go_enter Try.func85, Try.ntmps85
        go_wp2_with (first | (go_at_call 84; refine (h4 _).mono ?_; rintro e w1 ⟨rfl, hw⟩; have hw := hw.symm; subst hw) | (go_at_call 92; refine (hg _ g0).mono ?_; rintro e w2 ⟨rfl, g2⟩))
        go_ret
        exact ⟨rfl, grown_trans g0 g2⟩
      · have e : ptB 4 nm.size si su at' n m o co true = true := by rw [Bool.eq_iff_iff]; simp [ptB]; omega
        rw [e]
        go_enter Try.func85, Try.ntmps85
        go_wp2_with (first | (go_at_call 84; refine (h4 _).mono ?_; rintro e w1 ⟨rfl, hw⟩; have hw := hw.symm; subst hw) | (go_at_call 92; refine (hg _ g0).mono ?_; rintro e w2 ⟨rfl, g2⟩))
        go_ret
        exact ⟨rfl, grown_trans g0 g2⟩
    · have hk : kwB m 1 20 = false := kwB_f (by omega)
      rw [hk] at h4
      have e : ptB 4 nm.size si su at' n m o co gB = false := by rw [Bool.eq_iff_iff]; simp [ptB]; omega
      rw [e]
      go_enter Try.func85, Try.ntmps85
      go_wp2_with (first | (go_at_call 84; refine (h4 _).mono ?_; rintro e w1 ⟨rfl, hw⟩; have hw := hw.symm; subst hw) | (go_at_call 92; refine (hg _ g0).mono ?_; rintro e w2 ⟨rfl, g2⟩))
      go_ret
      exact ⟨rfl, g0⟩
  by_cases k5 : kd = 5
  case pos =>
    subst k5
    clear hg h4
    go_enter Try.func85, Try.ntmps85
    go_wp2
    all_goals
      go_ret
      refine ⟨ret_bool ?_, by first | exact g0 | (subst_vars; exact g0)⟩
      rw [Bool.eq_iff_iff]
      simp [ptB, kwB]
      try omega
  by_cases k6 : kd = 6
  case pos =>
    subst k6
    clear hg h4
    go_enter Try.func85, Try.ntmps85
    go_wp2
    all_goals
      go_ret
      refine ⟨ret_bool ?_, by first | exact g0 | (subst_vars; exact g0)⟩
      rw [Bool.eq_iff_iff]
      simp [ptB, kwB]
      try omega
  clear hg h4
  go_enter Try.func85, Try.ntmps85
  go_wp2
  all_goals
    go_ret
    refine ⟨ret_bool ?_, by first | exact g0 | (subst_vars; exact g0)⟩
    rw [Bool.eq_iff_iff]
    simp [ptB, k1, k2, k3, k4, k5, k6, kwB]
    try omega
set_option maxHeartbeats 8000000 in
theorem bare_any (kd id : Int) (nm : ByteArray) (si su at' : Int) (a : Option Addr) (n cap : Nat) (q : Option Addr) (m cq : Nat) (o co : Int) (w : World) :
    Calls Try.prog 86 #[.agg (ntA kd id nm si su at' (.slice a n cap) (.slice q m cq) o co)] w fun e w' => e = .returned (.bool (brB kd nm.size si su at' n m o co)) ∧ w.grownBy w' none := by
  unfold ntA
  by_cases k1 : kd = 1
  case pos =>
    subst k1
    go_enter Try.func86, Try.ntmps86
    go_wp2
    all_goals
      go_ret
      refine ⟨ret_bool ?_, by first | exact (World.grownBy_alloc _ _ none) | (subst_vars; exact (World.grownBy_alloc _ _ none))⟩
      rw [Bool.eq_iff_iff]
      simp [brB, kwB]
      try omega
  by_cases k2 : kd = 2
  case pos =>
    subst k2
    by_cases hs : nm.size = 0
    · have hl := (toList_nil nm).2 hs
      go_enter Try.func86, Try.ntmps86
      go_wp2
      all_goals
        go_ret
        refine ⟨ret_bool ?_, by first | exact (World.grownBy_alloc _ _ none) | (subst_vars; exact (World.grownBy_alloc _ _ none))⟩
        rw [Bool.eq_iff_iff]
        simp [brB, hs, kwB]
        try omega
    · have hl : ¬ nm.toList = [] := fun h => hs ((toList_nil nm).1 h)
      go_enter Try.func86, Try.ntmps86
      go_wp2
      all_goals
        go_ret
        refine ⟨ret_bool ?_, by first | exact (World.grownBy_alloc _ _ none) | (subst_vars; exact (World.grownBy_alloc _ _ none))⟩
        rw [Bool.eq_iff_iff]
        simp [brB, hs, kwB]
        try omega
  by_cases k3 : kd = 3
  case pos =>
    subst k3
    by_cases hs : nm.size = 0
    · have hl := (toList_nil nm).2 hs
      go_enter Try.func86, Try.ntmps86
      go_wp2
      all_goals
        go_ret
        refine ⟨ret_bool ?_, by first | exact (World.grownBy_alloc _ _ none) | (subst_vars; exact (World.grownBy_alloc _ _ none))⟩
        rw [Bool.eq_iff_iff]
        simp [brB, hs, kwB]
        try omega
    · have hl : ¬ nm.toList = [] := fun h => hs ((toList_nil nm).1 h)
      go_enter Try.func86, Try.ntmps86
      go_wp2
      all_goals
        go_ret
        refine ⟨ret_bool ?_, by first | exact (World.grownBy_alloc _ _ none) | (subst_vars; exact (World.grownBy_alloc _ _ none))⟩
        rw [Bool.eq_iff_iff]
        simp [brB, hs, kwB]
        try omega
  by_cases k4 : kd = 4
  case pos =>
    subst k4
    by_cases hs : nm.size = 0
    · have hl := (toList_nil nm).2 hs
      go_enter Try.func86, Try.ntmps86
      go_wp2
      all_goals
        go_ret
        refine ⟨ret_bool ?_, by first | exact (World.grownBy_alloc _ _ none) | (subst_vars; exact (World.grownBy_alloc _ _ none))⟩
        rw [Bool.eq_iff_iff]
        simp [brB, hs, kwB]
        try omega
    · have hl : ¬ nm.toList = [] := fun h => hs ((toList_nil nm).1 h)
      go_enter Try.func86, Try.ntmps86
      go_wp2
      all_goals
        go_ret
        refine ⟨ret_bool ?_, by first | exact (World.grownBy_alloc _ _ none) | (subst_vars; exact (World.grownBy_alloc _ _ none))⟩
        rw [Bool.eq_iff_iff]
        simp [brB, hs, kwB]
        try omega
  by_cases k5 : kd = 5
  case pos =>
    subst k5
    by_cases hs : nm.size = 0
    · have hl := (toList_nil nm).2 hs
      go_enter Try.func86, Try.ntmps86
      go_wp2
      all_goals
        go_ret
        refine ⟨ret_bool ?_, by first | exact (World.grownBy_alloc _ _ none) | (subst_vars; exact (World.grownBy_alloc _ _ none))⟩
        rw [Bool.eq_iff_iff]
        simp [brB, hs, kwB]
        try omega
    · have hl : ¬ nm.toList = [] := fun h => hs ((toList_nil nm).1 h)
      go_enter Try.func86, Try.ntmps86
      go_wp2
      all_goals
        go_ret
        refine ⟨ret_bool ?_, by first | exact (World.grownBy_alloc _ _ none) | (subst_vars; exact (World.grownBy_alloc _ _ none))⟩
        rw [Bool.eq_iff_iff]
        simp [brB, hs, kwB]
        try omega
  by_cases k6 : kd = 6
  case pos =>
    subst k6
    by_cases hs : nm.size = 0
    · have hl := (toList_nil nm).2 hs
      go_enter Try.func86, Try.ntmps86
      go_wp2
      all_goals
        go_ret
        refine ⟨ret_bool ?_, by first | exact (World.grownBy_alloc _ _ none) | (subst_vars; exact (World.grownBy_alloc _ _ none))⟩
        rw [Bool.eq_iff_iff]
        simp [brB, hs, kwB]
        try omega
    · have hl : ¬ nm.toList = [] := fun h => hs ((toList_nil nm).1 h)
      go_enter Try.func86, Try.ntmps86
      go_wp2
      all_goals
        go_ret
        refine ⟨ret_bool ?_, by first | exact (World.grownBy_alloc _ _ none) | (subst_vars; exact (World.grownBy_alloc _ _ none))⟩
        rw [Bool.eq_iff_iff]
        simp [brB, hs, kwB]
        try omega
  by_cases hs : nm.size = 0
  · have hl := (toList_nil nm).2 hs
    go_enter Try.func86, Try.ntmps86
    go_wp2
    all_goals
      go_ret
      refine ⟨ret_bool ?_, by first | exact (World.grownBy_alloc _ _ none) | (subst_vars; exact (World.grownBy_alloc _ _ none))⟩
      rw [Bool.eq_iff_iff]
      simp [brB, hs, k1, k2, k3, k4, k5, k6, kwB]
      try omega
  · have hl : ¬ nm.toList = [] := fun h => hs ((toList_nil nm).1 h)
    go_enter Try.func86, Try.ntmps86
    go_wp2
    all_goals
      go_ret
      refine ⟨ret_bool ?_, by first | exact (World.grownBy_alloc _ _ none) | (subst_vars; exact (World.grownBy_alloc _ _ none))⟩
      rw [Bool.eq_iff_iff]
      simp [brB, hs, k1, k2, k3, k4, k5, k6, kwB]
      try omega
set_option maxHeartbeats 8000000 in
theorem noteMay_any (kd id : Int) (nm : ByteArray) (si su at' : Int) (a : Option Addr) (n cap : Nat) (q : Option Addr) (m cq : Nat) (o co : Int) (F : Nat → Int × Int) (w : World) (hG : RdG w q m cq F) :
    Calls Try.prog 49 #[.agg (ntA kd id nm si su at' (.slice a n cap) (.slice q m cq) o co)] w fun e w' => e = .returned (.bool (ntB kd id nm.size si su at' n m o co (alG F 65536 m))) ∧ w.grownBy w' none := by
  have bx := BxS.new w 27 #[.int .i64 kd, .int .i64 id, .string nm, .int .i64 si, .int .i64 su, .int .i64 at', .slice a n cap, .slice q m cq, .int .i64 o, .int .i64 co]
  have g0 := World.grownBy_alloc w (.cells #[.int .i64 kd, .int .i64 id, .string nm, .int .i64 si, .int .i64 su, .int .i64 at', .slice a n cap, .slice q m cq, .int .i64 o, .int .i64 co] 27) none
  have h1 := fun wz => dwithin_any id 0 65535 wz
  have h2 := fun wz (hz : w.grownBy wz none) => parts_any kd id nm si su at' a n cap q m cq o co F wz (hG.keep hz)
  have h3 := fun wz => bare_any kd id nm si su at' a n cap q m cq o co wz
  unfold ntB
  generalize ptB kd nm.size si su at' n m o co (alG F 65536 m) = b2 at h2 ⊢
  generalize brB kd nm.size si su at' n m o co = b3 at h3 ⊢
  generalize kwB id 0 65535 = b1 at h1 ⊢
  unfold ntA at h2 h3 ⊢
  generalize hw0 : w.alloc (.cells #[.int .i64 kd, .int .i64 id, .string nm, .int .i64 si, .int .i64 su, .int .i64 at', .slice a n cap, .slice q m cq, .int .i64 o, .int .i64 co] 27) = w0 at bx g0
  obtain ⟨c0, c1, c2, c3, c4, c5, c6, c7, c8, c9⟩ := bx.cell10
  cases b1
  · go_enter Try.func49, Try.ntmps49
    go_wp2_with (first
      | (go_at_call 84; refine (h1 _).mono ?_; rintro e w1 ⟨rfl, hw⟩; have hw := hw.symm; subst hw))
    go_ret
    exact ⟨rfl, g0⟩
  cases b2
  · go_enter Try.func49, Try.ntmps49
    go_wp2_with (first
      | (go_at_call 84; refine (h1 _).mono ?_; rintro e w1 ⟨rfl, hw⟩; have hw := hw.symm; subst hw)
      | (go_at_call 85; refine (h2 _ g0).mono ?_; rintro e w2 ⟨rfl, g2⟩))
    go_ret
    exact ⟨rfl, grown_trans g0 g2⟩
  · go_enter Try.func49, Try.ntmps49
    go_wp2_with (first
      | (go_at_call 84; refine (h1 _).mono ?_; rintro e w1 ⟨rfl, hw⟩; have hw := hw.symm; subst hw)
      | (go_at_call 85; refine (h2 _ g0).mono ?_; rintro e w2 ⟨rfl, g2⟩; clear c0 c1 c2 c3 c4 c5 c6 c7 c8 c9; obtain ⟨c0, c1, c2, c3, c4, c5, c6, c7, c8, c9⟩ := (bx.keep g2 (by simp)).cell10)
      | (go_at_call 86; refine (h3 _).mono ?_; rintro e w3 ⟨rfl, g3⟩))
    go_ret
    exact ⟨ret_bool (by simp), grown_trans g0 (grown_trans g2 g3)⟩
end
end Go.Proofs.Ytnimehkfnpepfaa
