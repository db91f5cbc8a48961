import Derived.Test.YtnjdbbjhplebhaaPs7
namespace Go.Proofs.Ytnjdbbjhplebhaa
open Go.RowKit
set_option maxRecDepth 100000
set_option linter.unusedVariables false
set_option linter.unusedSimpArgs false

section
theorem cN_lt (x y : Int) : decide (cN x y < 0) = decide (x < y) := by
  unfold cN
  by_cases h : x < y
  · rw [if_pos h]; simp [h]
  · rw [if_neg h]
    by_cases h2 : y < x
    · rw [if_pos h2]; simp [h]
    · rw [if_neg h2]; simp [h]
set_option maxHeartbeats 4000000 in
theorem lcmp_any (x y : Ld) (w : World) : Calls Try.prog 31 #[.agg #[.int .i64 (x.pl : Int), .int .i64 (x.fr : Int), .int .i64 (x.by' : Int), .int .i64 (x.lf : Int)], .agg #[.int .i64 (y.pl : Int), .int .i64 (y.fr : Int), .int .i64 (y.by' : Int), .int .i64 (y.lf : Int)]] w fun e w' => e = .returned (.int .i64 (cN (x.fr : Int) (y.fr : Int))) ∧ w.grownBy w' none := by
  have G1 := World.grownBy_alloc w (.cells #[.int .i64 (x.pl : Int), .int .i64 (x.fr : Int), .int .i64 (x.by' : Int), .int .i64 (x.lf : Int)] 55) none
  have G2 := fun w1 => World.grownBy_alloc w1 (.cells #[.int .i64 (y.pl : Int), .int .i64 (y.fr : Int), .int .i64 (y.by' : Int), .int .i64 (y.lf : Int)] 55) none
  have HG : Hid _ := G1
  have HG2 : Hid _ := G2
  clear G1 G2
  go_enter Try.func31, Try.ntmps31
  go_wp2_with (go_at_call 32; refine (compare_any _ _ _).mono ?_; rintro e wx ⟨rfl, hwx⟩; rw [hwx]; clear hwx)
  go_ret
  exact ⟨rfl, HG.out.trans (HG2.out _)⟩
/-- sorted between two places -/
def SrtD (K : List Ld) (a b : Nat) : Prop := ∀ p q, a ≤ p → p < q → q < b → (K.getD p ld0).fr ≤ (K.getD q ld0).fr
/-- sorted up to place i but for the one at j, which is no more than those behind it -/
def SrtX (K : List Ld) (a i j : Nat) : Prop := (∀ p q, a ≤ p → p < q → q ≤ i → p ≠ j → q ≠ j → (K.getD p ld0).fr ≤ (K.getD q ld0).fr) ∧ ∀ q, j < q → q ≤ i → (K.getD j ld0).fr ≤ (K.getD q ld0).fr
theorem SrtX.start {K : List Ld} {a i : Nat} (h : SrtD K a i) : SrtX K a i i := ⟨fun p q h1 h2 h3 h4 h5 => h p q h1 h2 (by omega), fun q h1 h2 => by omega⟩
theorem SrtX.swap {K : List Ld} {a i j m : Nat} (h : SrtX K a i j) (hm : m + 1 = j) (ha : a ≤ m) (hi : i < K.length) (hj : j ≤ i) (hlt : (K.getD j ld0).fr < (K.getD m ld0).fr) : SrtX (swL ld0 K j m) a i m := by
  have gt := fun k => swL_get ld0 K j m k (by omega) (by omega)
  constructor
  · intro p q h1 h2 h3 h4 h5
    rw [gt p, gt q, if_neg h4, if_neg h5]
    by_cases e1 : p = j
    · rw [if_pos e1, if_neg (by omega)]
      exact h.1 m q ha (by omega) h3 (by omega) (by omega)
    · rw [if_neg e1]
      by_cases e2 : q = j
      · rw [if_pos e2]
        exact h.1 p m h1 (by omega) (by omega) (by omega) (by omega)
      · rw [if_neg e2]
        exact h.1 p q h1 h2 h3 e1 e2
  · intro q h1 h2
    rw [gt m, gt q, if_pos rfl, if_neg (by omega)]
    by_cases e : q = j
    · rw [if_pos e]
      omega
    · rw [if_neg e]
      exact h.2 q (by omega) h2
theorem SrtX.fin {K : List Ld} {a i j : Nat} (h : SrtX K a i j) (hs : j ≤ a ∨ ∃ m, m + 1 = j ∧ (K.getD m ld0).fr ≤ (K.getD j ld0).fr) (hi : j ≤ i) : SrtD K a (i + 1) := by
  intro p q h1 h2 h3
  by_cases e1 : p = j
  · rw [e1]
    exact h.2 q (by omega) (by omega)
  · by_cases e2 : q = j
    · rw [e2]
      rcases hs with hs | ⟨m, hm, hle⟩
      · omega
      · by_cases e3 : p = m
        · rw [e3]
          exact hle
        · exact Nat.le_trans (h.1 p m h1 (by omega) (by omega) e1 (by omega)) hle
    · exact h.1 p q h1 h2 (by omega) e1 e2
/-- the same row but for the order, and but for what lies between a and b -/
structure SameD (H K : List Ld) (a b : Nat) : Prop where
  perm : K.Perm H
  out : ∀ k, k < a ∨ b ≤ k → K.getD k ld0 = H.getD k ld0
theorem SameD.refl (H : List Ld) (a b : Nat) : SameD H H a b := ⟨List.Perm.refl _, fun _ _ => rfl⟩
theorem SameD.len {H K : List Ld} {a b : Nat} (h : SameD H K a b) : K.length = H.length := h.perm.length_eq
theorem SameD.swap {H K : List Ld} {a b i j : Nat} (h : SameD H K a b) (hi : a ≤ i ∧ i < b) (hj : a ≤ j ∧ j < b) (hb : b ≤ K.length) : SameD H (swL ld0 K i j) a b :=
  ⟨(swL_perm ld0 K i j (by omega) (by omega)).trans h.perm, fun k hk => by
    rw [swL_get ld0 K i j k (by omega) (by omega), if_neg (by omega), if_neg (by omega)]
    exact h.out k hk⟩
theorem SameD.trans {H K M : List Ld} {a b : Nat} (h : SameD H K a b) (k : SameD K M a b) : SameD H M a b := ⟨k.perm.trans h.perm, fun i hi => (k.out i hi).trans (h.out i hi)⟩
theorem SameD.wide {H K : List Ld} {a b c d : Nat} (h : SameD H K a b) (h1 : c ≤ a) (h2 : b ≤ d) : SameD H K c d := ⟨h.perm, fun k hk => h.out k (by omega)⟩
theorem RwD.keepR {w w' : World} {g cap : Nat} {H : List Ld} {r : Option Nat} (h : RwD w g cap H) (hg : w.grownBy w' r) (hr : some g ≠ r) : RwD w' g cap H := h.keep hg hr

set_option maxHeartbeats 16000000 in
theorem ins_any (g cap a b n : Nat) (H : List Ld) (w : World) (hab : a ≤ b) (hb : b ≤ n) (hN : n = H.length) (hn : n ≤ 1000000) (h : RwD w g cap H) :
    Calls Try.prog 38 #[.slice (some ⟨g, 0, none⟩) n cap, .int .i64 (a : Nat), .int .i64 (b : Nat), .func (.func 31) #[] #[]] w fun e w' => e = .returned (.tuple #[]) ∧ ∃ K, RwD w' g cap K ∧ SameD H K a b ∧ SrtD K a b ∧ w.grownBy w' (some g) := by
  have HW : Hid _ := h
  have HNN : Hid _ := hN
  have HAB : Hid _ := hab
  clear h hN
  have hai : (a : Int) ≤ 1000000 := by omega
  go_enter Try.func38, Try.ntmps38
  go_wp2
  go_loopw [8] (fun v8 wr => ∃ (i : Nat) (K : List Ld), v8 = .int .i64 (i : Nat) ∧ a < i ∧ i ≤ b + 1 ∧ (i ≤ b ∨ i = a + 1) ∧ RwD wr g cap K ∧ Hid (SameD H K a b) ∧ Hid (SrtD K a i) ∧ w.grownBy wr (some g)) (fun v8 _ => b + 1 - (intOf v8).toNat)
  case atStart => exact ⟨a + 1, H, by go_num, by omega, by have := HAB.out; omega, .inr rfl, HW.out, SameD.refl _ _ _, (fun p q h1 h2 h3 => by omega), World.grownBy.refl _ _⟩
  case round =>
    obtain ⟨i, K0, rfl, hai2, hib, hi3, hK, hsm, hso, hg⟩ := hrel
    by_cases hlt : i < b
    · have lk : (i : Int) < (b : Int) := by omega
      have HK0 : Hid _ := hK
      have HG0 : Hid _ := hg
      clear hK hg hib hi3
      go_wp2
      go_loopw [9] (fun v9 wx => ∃ (j : Nat) (K : List Ld), v9 = .int .i64 (j : Nat) ∧ a ≤ j ∧ j ≤ i ∧ RwD wx g cap K ∧ Hid (SameD H K a b) ∧ Hid (SrtX K a i j) ∧ w.grownBy wx (some g)) (fun v9 _ => (intOf v9).toNat)
      case atStart => exact ⟨i, K0, rfl, by omega, Nat.le_refl _, HK0.out, hsm, SrtX.start hso.out, HG0.out⟩
      case round =>
        obtain ⟨j, K, rfl, haj, hji, hK, hsj, hxj, hg⟩ := hrel
        have HKK : Hid _ := hK
        have HGG : Hid _ := hg
        clear hg hK
        by_cases hja : a < j
        · have hjai : (a : Int) < (j : Int) := by omega
          obtain ⟨m, hm⟩ : ∃ m, m + 1 = j := ⟨j - 1, by omega⟩
          have hjm : (j : Int) - 1 = (m : Int) := by omega
          have hmw : IntKind.i64.wrap (m : Int) = (m : Int) := wrap_inP _ (by omega) (by omega)
          have hjn : j < n := by omega
          have hjni : (j : Int) < (n : Int) := by omega
          have hmni : (m : Int) < (n : Int) := by omega
          have HJN : Hid (j < n) := hjn
          have HMJ : Hid (m + 1 = j) := hm
          have hlK : K.length = n := by rw [hsj.out.len, HNN.out]
          have HN : Hid (K.length = n) := hlK
          have hx := HKK.out.range (i := j) (by omega)
          have hy := HKK.out.range (i := m) (by omega)
          obtain ⟨x, hX⟩ : ∃ x, x = K.getD j ld0 := ⟨_, rfl⟩
          obtain ⟨y, hY⟩ : ∃ y, y = K.getD m ld0 := ⟨_, rfl⟩
          rw [← hX] at hx
          rw [← hY] at hy
          have HX : Hid _ := hX
          have HY : Hid _ := hY
          have HJI : Hid (j ≤ i) := hji
          have HAJ : Hid (a < j) := hja
          clear hm hjn hlK hX hY hji haj hja
          obtain ⟨bb, hbb⟩ : ∃ bb, bb = decide ((x.fr : Int) < (y.fr : Int)) := ⟨_, rfl⟩
          have hcmp : decide (cN (x.fr : Int) (y.fr : Int) < 0) = bb := by rw [cN_lt, hbb]
          have HB : Hid _ := hbb
          clear hbb
          go_upto_region 4 with fail
          have Gd := grown_drew wr none
          have SS : wr.drew.rangeAt g (j * 4) x.cells ∧ wr.drew.rangeAt g (m * 4) y.cells := ⟨range_grown hx Gd, range_grown hy Gd⟩
          refine wp_regionM (fun wz => wz.rangeAt g (j * 4) x.cells ∧ wz.rangeAt g (m * 4) y.cells) [] #[false, false, false, false, false, false, false, false, false, false, false, false, false, false, false, false, false] rfl (by kernel_rfl) ?_
          generalize wr.drew = wd at *
          refine wpAnyY_takeF 0 (.int .i64 (j : Nat)) rfl (by kernel_rfl) (fun _ _ _ h => h) rfl (by intro wz; go_simp; try rfl) ?_
          try simp only [List.getElem_toArray, List.getElem_cons_succ, List.getElem_cons_zero, Act.put, List.setIfInBounds_toArray, List.set_cons_zero, List.set_cons_succ]
          refine wpAnyY_takeF 1 (.int .i64 (a : Nat)) rfl (by kernel_rfl) (fun _ _ _ h => h) rfl (by intro wz; go_simp; try rfl) ?_
          try simp only [List.getElem_toArray, List.getElem_cons_succ, List.getElem_cons_zero, Act.put, List.setIfInBounds_toArray, List.set_cons_zero, List.set_cons_succ]
          refine wpAnyY_takeF 2 (.bool true) rfl (by kernel_rfl) (fun _ _ _ h => h) rfl (by intro wz; go_simp; try rfl) ?_
          try simp only [List.getElem_toArray, List.getElem_cons_succ, List.getElem_cons_zero, Act.put, List.setIfInBounds_toArray, List.set_cons_zero, List.set_cons_succ]
          refine wpAnyY_takeF 3 (.bool true) rfl (by kernel_rfl) (fun _ _ _ h => h) rfl (by intro wz; go_simp; try rfl) ?_
          try simp only [List.getElem_toArray, List.getElem_cons_succ, List.getElem_cons_zero, Act.put, List.setIfInBounds_toArray, List.set_cons_zero, List.set_cons_succ]
          refine wpAnyY_takeF 4 (.func (.func 31) #[] #[]) rfl (by kernel_rfl) (fun _ _ _ h => h) rfl (by intro wz; go_simp; try rfl) ?_
          try simp only [List.getElem_toArray, List.getElem_cons_succ, List.getElem_cons_zero, Act.put, List.setIfInBounds_toArray, List.set_cons_zero, List.set_cons_succ]
          refine wpAnyY_takeF 5 (.slice (some ⟨g, 0, none⟩) n cap) rfl (by kernel_rfl) (fun _ _ _ h => h) rfl (by intro wz; go_simp; try rfl) ?_
          try simp only [List.getElem_toArray, List.getElem_cons_succ, List.getElem_cons_zero, Act.put, List.setIfInBounds_toArray, List.set_cons_zero, List.set_cons_succ]
          refine wpAnyY_takeF 6 (.int .i64 (j : Nat)) rfl (by kernel_rfl) (fun _ _ _ h => h) rfl (by intro wz; go_simp; try rfl) ?_
          try simp only [List.getElem_toArray, List.getElem_cons_succ, List.getElem_cons_zero, Act.put, List.setIfInBounds_toArray, List.set_cons_zero, List.set_cons_succ]
          refine wpAnyY_takeF 7 (.pointer (some ⟨g, j * 4, none⟩)) rfl (by kernel_rfl) (fun _ _ _ h => h) rfl (by intro wz; go_simp; try rfl) ?_
          try simp only [List.getElem_toArray, List.getElem_cons_succ, List.getElem_cons_zero, Act.put, List.setIfInBounds_toArray, List.set_cons_zero, List.set_cons_succ]
          refine wpAnyY_take [] 8 (.agg #[.int .i64 (x.pl : Int), .int .i64 (x.fr : Int), .int .i64 (x.by' : Int), .int .i64 (x.lf : Int)]) rfl (by kernel_rfl) (fun _ _ _ h => h) SS rfl (fun wz hz => ldMR rfl rfl hz.1 Try.underlying55 rfl (by rw [Try.info_ld]; rfl)) ?_
          try simp only [List.getElem_toArray, List.getElem_cons_succ, List.getElem_cons_zero, Act.put, List.setIfInBounds_toArray, List.set_cons_zero, List.set_cons_succ]
          refine wpAnyY_takeF 9 (.slice (some ⟨g, 0, none⟩) n cap) rfl (by kernel_rfl) (fun _ _ _ h => h) rfl (by intro wz; go_simp; try rfl) ?_
          try simp only [List.getElem_toArray, List.getElem_cons_succ, List.getElem_cons_zero, Act.put, List.setIfInBounds_toArray, List.set_cons_zero, List.set_cons_succ]
          refine wpAnyY_takeF 10 (.int .i64 (j : Nat)) rfl (by kernel_rfl) (fun _ _ _ h => h) rfl (by intro wz; go_simp; try rfl) ?_
          try simp only [List.getElem_toArray, List.getElem_cons_succ, List.getElem_cons_zero, Act.put, List.setIfInBounds_toArray, List.set_cons_zero, List.set_cons_succ]
          refine wpAnyY_takeF 11 (.int .i64 (m : Nat)) rfl (by kernel_rfl) (fun _ _ _ h => h) rfl (by intro wz; go_simp; try rfl) ?_
          try simp only [List.getElem_toArray, List.getElem_cons_succ, List.getElem_cons_zero, Act.put, List.setIfInBounds_toArray, List.set_cons_zero, List.set_cons_succ]
          refine wpAnyY_takeF 12 (.pointer (some ⟨g, m * 4, none⟩)) rfl (by kernel_rfl) (fun _ _ _ h => h) rfl (by intro wz; go_simp; try rfl) ?_
          try simp only [List.getElem_toArray, List.getElem_cons_succ, List.getElem_cons_zero, Act.put, List.setIfInBounds_toArray, List.set_cons_zero, List.set_cons_succ]
          refine wpAnyY_take [] 13 (.agg #[.int .i64 (y.pl : Int), .int .i64 (y.fr : Int), .int .i64 (y.by' : Int), .int .i64 (y.lf : Int)]) rfl (by kernel_rfl) (fun _ _ _ h => h) SS rfl (fun wz hz => ldMR rfl rfl hz.2 Try.underlying55 rfl (by rw [Try.info_ld]; rfl)) ?_
          try simp only [List.getElem_toArray, List.getElem_cons_succ, List.getElem_cons_zero, Act.put, List.setIfInBounds_toArray, List.set_cons_zero, List.set_cons_succ]
          refine wpAnyY_oneB 14 rfl (by kernel_rfl) (fun KK hKK => ?_)
          go_simp
          go_at_call 31
          refine (lcmp_any x y _).mono ?_
          rintro e w3 ⟨rfl, g3⟩
          dsimp only
          refine hKK _ _ (fun h _ => ⟨range_grown h.1 g3, range_grown h.2 g3⟩) ?_
          try simp only [List.getElem_toArray, List.getElem_cons_succ, List.getElem_cons_zero, Act.put, List.setIfInBounds_toArray, List.set_cons_zero, List.set_cons_succ]
          refine wpAnyY_takeF 15 (.bool bb) rfl (by kernel_rfl) (fun _ _ _ h => h) rfl (by intro wz; go_simp; try rfl) ?_
          try simp only [List.getElem_toArray, List.getElem_cons_succ, List.getElem_cons_zero, Act.put, List.setIfInBounds_toArray, List.set_cons_zero, List.set_cons_succ]
          refine wpAnyY_takeF 16 (.bool bb) rfl (by kernel_rfl) (fun _ _ _ h => h) rfl (by intro wz; go_simp; try rfl) ?_
          try simp only [List.getElem_toArray, List.getElem_cons_succ, List.getElem_cons_zero, Act.put, List.setIfInBounds_toArray, List.set_cons_zero, List.set_cons_succ]
          refine wpAnyY_doneB (by kernel_rfl) ?_ _
          (try simp only [Exit.then])
          apply_assumption
          have HG3 : Hid (w.grownBy w3 (some g)) := HGG.out.trans ((grown_weak Gd _).trans (grown_weak g3 _))
          have HK3 : Hid (RwD w3 g cap K) := (HKK.out.keep Gd (by simp)).keep g3 (by simp)
          clear SS hx hy Gd g3 hcmp
          cases bb with
          | true =>
            go_upto_region 6 with fail
            have Gd := grown_drew w3 none
            have hd := HK3.out.keep Gd (by simp)
            have hx := hd.range (i := j) (by have := HN.out; have := HJN.out; omega)
            have hy := hd.range (i := m) (by have := HN.out; have := HJN.out; have := HMJ.out; omega)
            rw [← HX.out] at hx
            rw [← HY.out] at hy
            have HD : Hid _ := hd
            clear hd
            refine wp_regionM (fun wz => wz = w3.drew) [15, 17] #[false, false, false, false, false, false, false, false, false, false, false, false, false, false, false, false, false, false] rfl (by kernel_rfl) ?_
            generalize w3.drew = wd2 at *
            refine wpAnyY_takeF 0 (.slice (some ⟨g, 0, none⟩) n cap) rfl (by kernel_rfl) (fun _ _ _ h => h) rfl (by intro wz; go_simp; try rfl) ?_
            try simp only [List.getElem_toArray, List.getElem_cons_succ, List.getElem_cons_zero, Act.put, List.setIfInBounds_toArray, List.set_cons_zero, List.set_cons_succ]
            refine wpAnyY_takeF 1 (.int .i64 (j : Nat)) rfl (by kernel_rfl) (fun _ _ _ h => h) rfl (by intro wz; go_simp; try rfl) ?_
            try simp only [List.getElem_toArray, List.getElem_cons_succ, List.getElem_cons_zero, Act.put, List.setIfInBounds_toArray, List.set_cons_zero, List.set_cons_succ]
            refine wpAnyY_takeF 2 (.slice (some ⟨g, 0, none⟩) n cap) rfl (by kernel_rfl) (fun _ _ _ h => h) rfl (by intro wz; go_simp; try rfl) ?_
            try simp only [List.getElem_toArray, List.getElem_cons_succ, List.getElem_cons_zero, Act.put, List.setIfInBounds_toArray, List.set_cons_zero, List.set_cons_succ]
            refine wpAnyY_takeF 3 (.int .i64 (j : Nat)) rfl (by kernel_rfl) (fun _ _ _ h => h) rfl (by intro wz; go_simp; try rfl) ?_
            try simp only [List.getElem_toArray, List.getElem_cons_succ, List.getElem_cons_zero, Act.put, List.setIfInBounds_toArray, List.set_cons_zero, List.set_cons_succ]
            refine wpAnyY_takeF 4 (.int .i64 (m : Nat)) rfl (by kernel_rfl) (fun _ _ _ h => h) rfl (by intro wz; go_simp; try rfl) ?_
            try simp only [List.getElem_toArray, List.getElem_cons_succ, List.getElem_cons_zero, Act.put, List.setIfInBounds_toArray, List.set_cons_zero, List.set_cons_succ]
            refine wpAnyY_takeF 5 (.slice (some ⟨g, 0, none⟩) n cap) rfl (by kernel_rfl) (fun _ _ _ h => h) rfl (by intro wz; go_simp; try rfl) ?_
            try simp only [List.getElem_toArray, List.getElem_cons_succ, List.getElem_cons_zero, Act.put, List.setIfInBounds_toArray, List.set_cons_zero, List.set_cons_succ]
            refine wpAnyY_takeF 6 (.int .i64 (j : Nat)) rfl (by kernel_rfl) (fun _ _ _ h => h) rfl (by intro wz; go_simp; try rfl) ?_
            try simp only [List.getElem_toArray, List.getElem_cons_succ, List.getElem_cons_zero, Act.put, List.setIfInBounds_toArray, List.set_cons_zero, List.set_cons_succ]
            refine wpAnyY_takeF 7 (.int .i64 (m : Nat)) rfl (by kernel_rfl) (fun _ _ _ h => h) rfl (by intro wz; go_simp; try rfl) ?_
            try simp only [List.getElem_toArray, List.getElem_cons_succ, List.getElem_cons_zero, Act.put, List.setIfInBounds_toArray, List.set_cons_zero, List.set_cons_succ]
            refine wpAnyY_takeF 8 (.pointer (some ⟨g, m * 4, none⟩)) rfl (by kernel_rfl) (fun _ _ _ h => h) rfl (by intro wz; go_simp; try rfl) ?_
            try simp only [List.getElem_toArray, List.getElem_cons_succ, List.getElem_cons_zero, Act.put, List.setIfInBounds_toArray, List.set_cons_zero, List.set_cons_succ]
            refine wpAnyY_take [15, 17] 9 (.agg #[.int .i64 (y.pl : Int), .int .i64 (y.fr : Int), .int .i64 (y.by' : Int), .int .i64 (y.lf : Int)]) rfl (by kernel_rfl) (fun _ _ _ h => h) rfl rfl (fun wz hz => by subst hz; exact ldMR rfl rfl hy Try.underlying55 rfl (by rw [Try.info_ld]; rfl)) ?_
            try simp only [List.getElem_toArray, List.getElem_cons_succ, List.getElem_cons_zero, Act.put, List.setIfInBounds_toArray, List.set_cons_zero, List.set_cons_succ]
            refine wpAnyY_takeF 10 (.slice (some ⟨g, 0, none⟩) n cap) rfl (by kernel_rfl) (fun _ _ _ h => h) rfl (by intro wz; go_simp; try rfl) ?_
            try simp only [List.getElem_toArray, List.getElem_cons_succ, List.getElem_cons_zero, Act.put, List.setIfInBounds_toArray, List.set_cons_zero, List.set_cons_succ]
            refine wpAnyY_takeF 11 (.int .i64 (j : Nat)) rfl (by kernel_rfl) (fun _ _ _ h => h) rfl (by intro wz; go_simp; try rfl) ?_
            try simp only [List.getElem_toArray, List.getElem_cons_succ, List.getElem_cons_zero, Act.put, List.setIfInBounds_toArray, List.set_cons_zero, List.set_cons_succ]
            refine wpAnyY_takeF 12 (.pointer (some ⟨g, j * 4, none⟩)) rfl (by kernel_rfl) (fun _ _ _ h => h) rfl (by intro wz; go_simp; try rfl) ?_
            try simp only [List.getElem_toArray, List.getElem_cons_succ, List.getElem_cons_zero, Act.put, List.setIfInBounds_toArray, List.set_cons_zero, List.set_cons_succ]
            refine wpAnyY_take [15, 17] 13 (.agg #[.int .i64 (x.pl : Int), .int .i64 (x.fr : Int), .int .i64 (x.by' : Int), .int .i64 (x.lf : Int)]) rfl (by kernel_rfl) (fun _ _ _ h => h) rfl rfl (fun wz hz => by subst hz; exact ldMR rfl rfl hx Try.underlying55 rfl (by rw [Try.info_ld]; rfl)) ?_
            try simp only [List.getElem_toArray, List.getElem_cons_succ, List.getElem_cons_zero, Act.put, List.setIfInBounds_toArray, List.set_cons_zero, List.set_cons_succ]
            refine wpAnyY_takeF 14 (.pointer (some ⟨g, j * 4, none⟩)) rfl (by kernel_rfl) (fun _ _ _ h => h) rfl (by intro wz; go_simp; try rfl) ?_
            try simp only [List.getElem_toArray, List.getElem_cons_succ, List.getElem_cons_zero, Act.put, List.setIfInBounds_toArray, List.set_cons_zero, List.set_cons_succ]
            refine wpAnyY_oneB 15 rfl (by kernel_rfl) (fun KK hKK => ?_)
            refine step_of_listR rfl (wpList_stD rfl (.tmp 51) (.tmp 46) rfl g cap j K y rfl rfl HD.out (by have := HN.out; have := HJN.out; omega) ?_)
            intro w1 hd1 g1
            have HD1 : Hid _ := hd1
            clear hd1
            refine wpList_nil ?_
            show KK _ _
            refine hKK _ _ (fun _ h => absurd (by decide) h) ?_
            try simp only [List.getElem_toArray, List.getElem_cons_succ, List.getElem_cons_zero, Act.put, List.setIfInBounds_toArray, List.set_cons_zero, List.set_cons_succ]
            refine wpAnyY_takeF 16 (.pointer (some ⟨g, m * 4, none⟩)) rfl (by kernel_rfl) (fun _ _ _ h => h) rfl (by intro wz; go_simp; try rfl) ?_
            try simp only [List.getElem_toArray, List.getElem_cons_succ, List.getElem_cons_zero, Act.put, List.setIfInBounds_toArray, List.set_cons_zero, List.set_cons_succ]
            refine wpAnyY_oneB 17 rfl (by kernel_rfl) (fun KK hKK => ?_)
            refine step_of_listR rfl (wpList_stD rfl (.tmp 52) (.tmp 50) rfl g cap m (K.set j y) x rfl rfl HD1.out (by rw [List.length_set]; have := HN.out; have := HJN.out; have := HMJ.out; omega) ?_)
            intro w2 hd2 g2
            have HD2 : Hid _ := hd2
            clear hd2
            refine wpList_nil ?_
            show KK _ _
            refine hKK _ _ (fun _ h => absurd (by decide) h) ?_
            try simp only [List.getElem_toArray, List.getElem_cons_succ, List.getElem_cons_zero, Act.put, List.setIfInBounds_toArray, List.set_cons_zero, List.set_cons_succ]
            refine wpAnyY_doneB (by kernel_rfl) ?_ _
            (try simp only [Exit.then, Exit.inBlock])
            have e2 : swL ld0 K j m = (K.set j y).set m x := by unfold swL; rw [HX.out, HY.out]
            have HF : Hid (RwD w2 g cap (swL ld0 K j m)) := by show _; rw [e2]; exact HD2.out
            have HG2 : Hid (w.grownBy w2 (some g)) := HG3.out.trans ((grown_weak Gd _).trans (g1.trans g2))
            clear e2 hx hy Gd g1 g2
            go_wp2
            refine ⟨⟨m, swL ld0 K j m, rfl, by have := HAJ.out; have := HMJ.out; omega, by have := HJI.out; have := HMJ.out; omega, HF.out, ?_, ?_, HG2.out⟩, ?_⟩
            · have h1 := HAJ.out
              have h2 := HMJ.out
              have h3 := HJI.out
              have h4 := HN.out
              exact SameD.swap hsj.out ⟨by omega, by omega⟩ ⟨by omega, by omega⟩ (by omega)
            · have h1 := HAJ.out
              have h2 := HMJ.out
              have h3 := HJI.out
              have h4 := HN.out
              refine SrtX.swap hxj.out h2 (by omega) (by omega) h3 ?_
              rw [← HX.out, ← HY.out]
              have := of_decide_eq_true HB.out.symm
              omega
            · have h2 := HMJ.out
              simp [intOf]
              omega
          | false =>
            go_wp2
            refine ⟨⟨i + 1, K, by go_num, by omega, by omega, .inl (by omega), HK3.out, hsj.out, ?_, HG3.out⟩, ?_⟩
            · refine SrtX.fin hxj.out (.inr ⟨m, HMJ.out, ?_⟩) HJI.out
              rw [← HX.out, ← HY.out]
              have := of_decide_eq_false HB.out.symm
              omega
            · simp [intOf]
              omega
        · have hjai : ¬ (a : Int) < (j : Int) := by omega
          have HJI : Hid (j ≤ i) := hji
          have HJA : Hid (j ≤ a) := by show j ≤ a; omega
          clear hji haj hja
          go_upto_region 4 with fail
          go_quiet (fail)
          go_wp2
          refine ⟨⟨i + 1, K, by go_num, by omega, by omega, .inl (by omega), (HKK.out.keep (grown_drewN _ _ none) (by simp)), hsj.out, SrtX.fin hxj.out (.inl HJA.out) HJI.out, HGG.out.trans (grown_drewN _ _ _)⟩, ?_⟩
          simp [intOf]
          omega
    · have lk : ¬ (i : Int) < (b : Int) := by omega
      have HK0 : Hid _ := hK
      have HG0 : Hid _ := hg
      clear hK hg
      go_wp2
      go_end0
      refine ⟨rfl, K0, HK0.out, hsm.out, fun p q h1 h2 h3 => hso.out p q h1 h2 (by omega), HG0.out⟩
end

section
set_option maxHeartbeats 4000000 in
theorem ins_nil (v : Value) (w : World) : Calls Try.prog 38 #[v, .int .i64 0, .int .i64 0, .func (.func 31) #[] #[]] w fun e w' => e = .returned (.tuple #[]) ∧ w' = w := by
  go_enter Try.func38, Try.ntmps38
  go_wp2
  go_loopw [8] (fun v8 wr => v8 = .int .i64 1 ∧ wr = w) (fun v8 _ => 0)
  case atStart => exact ⟨rfl, rfl⟩
  case round =>
    obtain ⟨rfl, hw⟩ := hrel
    subst hw
    go_wp2
    go_end0
    exact ⟨rfl, rfl⟩
set_option maxHeartbeats 4000000 in
theorem stable_small (v : Value) (n : Nat) (hn : n < 20) (R : World → Prop) (w : World) (HI : Calls Try.prog 38 #[v, .int .i64 0, .int .i64 (n : Nat), .func (.func 31) #[] #[]] w fun e w' => e = .returned (.tuple #[]) ∧ R w') :
    Calls Try.prog 35 #[v, .int .i64 (n : Nat), .func (.func 31) #[] #[]] w fun e w' => e = .returned (.tuple #[]) ∧ R w' := by
  have hn1 : ¬ (20 : Int) ≤ (n : Int) := by omega
  have hn2 : ¬ (20 : Int) < (n : Int) := by omega
  clear hn
  go_enter Try.func35, Try.ntmps35
  refine wp_seq_k fun K0 hK0 => ?_
  have HK0 : Hid _ := hK0
  clear hK0
  go_wp2
  refine HK0.out _ _ ?_
  clear HK0
  refine wp_seq_k fun K1 hK1 => ?_
  have HK1 : Hid _ := hK1
  clear hK1
  go_wp2
  refine HK1.out _ _ ?_
  clear HK1
  refine wp_seq_k fun K2 hK2 => ?_
  have HK2 : Hid _ := hK2
  clear hK2
  refine wp_block ?_
  go_loopw [7, 8] (fun v7 v8 wr => v7 = .int .i64 0 ∧ v8 = .int .i64 20 ∧ wr = w) (fun v7 v8 _ => 0)
  case atStart => exact ⟨rfl, rfl, rfl⟩
  case round =>
    obtain ⟨rfl, rfl, hw⟩ := hrel
    subst hw
    go_wp2
    (try simp only [Exit.inBlock, Exit.then])
    refine HK2.out _ _ ?_
    clear HK2
    refine wp_seq_k fun K3 hK3 => ?_
    have HK3 : Hid _ := hK3
    clear hK3
    go_wp2_with (go_at_call 38; refine HI.mono ?_; rintro e w1 ⟨rfl, hR⟩; have HR : Hid _ := hR; clear hR)
    refine HK3.out _ _ ?_
    clear HK3
    refine wp_block ?_
    go_loopw [6] (fun v6 wr => v6 = .int .i64 20 ∧ wr = w1) (fun v6 _ => 0)
    case atStart => exact ⟨rfl, rfl⟩
    case round =>
      obtain ⟨rfl, hw⟩ := hrel
      subst hw
      go_wp2
      go_end0
      exact ⟨rfl, HR.out⟩
theorem sort_small (a : Option Addr) (n c : Nat) (hn : n < 20) (R : World → Prop) (w : World) (HI : Calls Try.prog 38 #[.slice a n c, .int .i64 0, .int .i64 (n : Nat), .func (.func 31) #[] #[]] w fun e w' => e = .returned (.tuple #[]) ∧ R w') :
    Calls Try.prog 30 #[.slice a n c, .func (.func 31) #[] #[]] w fun e w' => e = .returned (.tuple #[]) ∧ R w' := by
  have HS := stable_small (.slice a n c) n hn R w HI
  go_enter Try.func30, Try.ntmps30
  go_wp2_with (go_at_call 35; refine HS.mono ?_; rintro e w1 ⟨rfl, hR⟩)
  go_end0
  exact ⟨rfl, hR⟩

/-- a sort of at most m loads -/
def SortsD (m : Nat) : Prop := ∀ (a : Option Addr) (c : Nat) (H : List Ld) (wz : World), wz.ownsRow 0 55 4 (.slice a H.length c) H.length (flD H) → H.length ≤ m →
  Calls Try.prog 30 #[.slice a H.length c, .func (.func 31) #[] #[]] wz fun e w' => e = .returned (.tuple #[]) ∧ ∃ K, w'.ownsRow 0 55 4 (.slice a H.length c) H.length (flD K) ∧ K.Perm H ∧ SrtD K 0 H.length ∧ wz.grownBy w' (Value.slice a 0 c).ownBlock
theorem sorts_small (m : Nat) (hm19 : m ≤ 19) : SortsD m := by
  intro a c H wz hO hm
  rcases hO.2 with ⟨h1, h2⟩ | ⟨g, cap, cur, h1, _, h3, h4, h5, h6, h7⟩
  · simp only [Value.slice.injEq] at h1
    obtain ⟨rfl, h0, rfl⟩ := h1
    have hH : H = [] := List.eq_nil_of_length_eq_zero h0
    subst hH
    refine (sort_small none 0 0 (by decide) (fun w' => w' = wz) wz (ins_nil _ _)).mono ?_
    rintro e w' ⟨rfl, hw⟩
    subst hw
    exact ⟨rfl, [], hO, List.Perm.refl _, fun p q h1 h2 h3 => absurd h3 (by simp), World.grownBy.refl _ _⟩
  · simp only [Value.slice.injEq] at h1
    obtain ⟨rfl, _, rfl⟩ := h1
    have hR : RwD wz g c H := ⟨cur.toList.drop (H.length * 4), by rw [← h7, List.take_append_drop]; exact h3, by rw [← h7, List.take_append_drop]; simpa using h6⟩
    refine (sort_small (some ⟨g, 0, none⟩) H.length c (by omega) (fun w' => ∃ K, RwD w' g c K ∧ SameD H K 0 H.length ∧ SrtD K 0 H.length ∧ wz.grownBy w' (some g)) wz (ins_any g c 0 H.length H.length H wz (Nat.zero_le _) (Nat.le_refl _) rfl (by omega) hR)).mono ?_
    rintro e w' ⟨rfl, K, hK, hS, hD, hG⟩
    refine ⟨rfl, K, ?_, hS.perm, hD, hG⟩
    obtain ⟨rest, hb, hl⟩ := hK.ex
    have el := hS.len
    refine ⟨by rw [flD_len, el], .inr ⟨g, c, _, rfl, Nat.zero_le _, hb, h4, h5, by simpa using hl, ?_⟩⟩
    rw [← el]
    have e2 : K.length * 4 = (flD K).length := (flD_len K).symm
    rw [e2]
    simp
def ldJ (J : Nat → Jb) (i : Nat) : Ld := ⟨i, (J i).fr, (J i).by', (J i).by8⟩
/-- the loads of the jobs that have bytes -/
def ldsJ (J : Nat → Jb) : Nat → List Ld
  | 0 => []
  | n + 1 => if 0 < (J n).by8 then ldsJ J n ++ [ldJ J n] else ldsJ J n
theorem ldsJ_len (J : Nat → Jb) : ∀ n, (ldsJ J n).length ≤ n
  | 0 => Nat.le_refl _
  | n + 1 => by
    have h := ldsJ_len J n
    unfold ldsJ
    split
    · rw [List.length_append]; show _ + 1 ≤ _; omega
    · omega
theorem ldsJ_mem (J : Nat → Jb) (x : Ld) : ∀ n, x ∈ ldsJ J n ↔ ∃ i, i < n ∧ 0 < (J i).by8 ∧ x = ldJ J i
  | 0 => ⟨fun h => (by cases h), fun ⟨i, h, _⟩ => absurd h (by omega)⟩
  | n + 1 => by
    have ih := ldsJ_mem J x n
    unfold ldsJ
    split
    · rename_i hp
      rw [List.mem_append, ih, List.mem_singleton]
      constructor
      · rintro (⟨i, h1, h2, h3⟩ | rfl)
        · exact ⟨i, by omega, h2, h3⟩
        · exact ⟨n, by omega, hp, rfl⟩
      · rintro ⟨i, h1, h2, h3⟩
        by_cases e : i = n
        · subst e
          exact .inr h3
        · exact .inl ⟨i, by omega, h2, h3⟩
    · rename_i hp
      rw [ih]
      constructor
      · rintro ⟨i, h1, h2, h3⟩
        exact ⟨i, by omega, h2, h3⟩
      · rintro ⟨i, h1, h2, h3⟩
        by_cases e : i = n
        · subst e
          exact absurd h2 hp
        · exact ⟨i, by omega, h2, h3⟩
theorem ldsJ_nd (J : Nat → Jb) : ∀ n, ((ldsJ J n).map Ld.pl).Nodup
  | 0 => List.nodup_nil
  | n + 1 => by
    have ih := ldsJ_nd J n
    unfold ldsJ
    split
    · rw [List.map_append, List.nodup_append]
      refine ⟨ih, by simp, fun a ha b hb e => ?_⟩
      obtain ⟨y, hy, rfl⟩ := List.mem_map.1 ha
      obtain ⟨i, hi, _, rfl⟩ := (ldsJ_mem J y n).1 hy
      have hb2 : b = n := by simpa [ldJ] using hb
      have e2 : i = b := e
      omega
    · exact ih
set_option maxHeartbeats 16000000 in
theorem loads_any (w : World) (ja : Option Addr) (n jc : Nat) (J : Nat → Jb) (hJ : RdT w ja n jc (fun i => tJ (J i))) (hn : n ≤ 1000) (hS : SortsD n) :
    Calls Try.prog 22 #[.slice ja n jc] w fun e w' => ∃ a c C, e = .returned (.slice a C.length c) ∧ w'.ownsRow 0 55 4 (.slice a C.length c) C.length (flD C) ∧ C.Perm (ldsJ J n) ∧ SrtD C 0 C.length ∧ (∀ g, (Value.slice a 0 c).ownBlock = some g → w.heap.size ≤ g) ∧ w.grownBy w' none := by
  have HJ : Hid _ := hJ
  have HSS : Hid _ := hS
  clear hJ hS
  go_enter Try.func22, Try.ntmps22
  refine wp_seq_k fun K0 hK0 => ?_
  have HK0 : Hid _ := hK0
  clear hK0
  go_wp2
  refine HK0.out _ _ ?_
  clear HK0
  refine wp_seq_k fun K1 hK1 => ?_
  have HK1 : Hid _ := hK1
  clear hK1
  go_wp2
  refine HK1.out _ _ ?_
  clear HK1
  refine wp_seq_k fun K2 hK2 => ?_
  have HK2 : Hid _ := hK2
  clear hK2
  go_wp2
  go_loopw [8, 3] (fun v8 v3 wr => ∃ (k : Nat) (a : Option Addr) (c m : Nat), k ≤ n ∧ v8 = .int .i64 (k : Nat) ∧ v3 = .slice a m c ∧ m ≤ k ∧ Hid (m = (ldsJ J k).length) ∧ Hid (wr.ownsRow 0 55 4 (.slice a m c) (ldsJ J k).length (flD (ldsJ J k))) ∧ Hid (∀ g, (Value.slice a 0 c).ownBlock = some g → w.heap.size ≤ g) ∧ w.grownBy wr none) (fun v8 v3 _ => n - (intOf v8).toNat)
  case atStart => exact ⟨0, none, 0, 0, Nat.zero_le _, rfl, rfl, Nat.le_refl _, rfl, World.ownsRow_nil _ _ _ _, (fun g h => by cases h), World.grownBy.refl _ _⟩
  case round =>
    obtain ⟨k, a, c, m, hk, rfl, rfl, hmk, hm, hO, hnew, hg⟩ := hrel
    by_cases hlt : k < n
    · have lk : (k : Int) < (n : Int) := by omega
      obtain ⟨b, off, ha, _, hr⟩ := (HJ.out.keep hg).at' (by omega)
      have hr := hr k hlt
      have c0 := hr 0 _ rfl
      have c1 := hr 1 _ rfl
      have c2 := hr 2 _ rfl
      simp only [Nat.add_zero, tJ] at c0 c1 c2
      subst ha
      obtain ⟨f, hf⟩ : ∃ f, f = (J k).fr := ⟨_, rfl⟩
      obtain ⟨t, ht⟩ : ∃ t, t = (J k).by' := ⟨_, rfl⟩
      obtain ⟨r, hrr⟩ : ∃ r, r = (J k).by8 := ⟨_, rfl⟩
      rw [← hf] at c0
      rw [← ht] at c1
      rw [← hrr] at c2
      have HLD : Hid (ldJ J k = ⟨k, f, t, r⟩) := by show _ = _; unfold ldJ; rw [← hf, ← ht, ← hrr]
      have HR : Hid (r = (J k).by8) := hrr
      clear hf ht hrr hr
      have GA := World.grownBy_alloc wr (.cells #[.int .i64 (f : Nat), .int .i64 (t : Nat), .int .i64 (r : Nat)] 34) none
      have HG0 : Hid (w.grownBy wr none) := hg
      have HGA : Hid _ := GA
      clear hg GA
      by_cases hr0 : 0 < r
      · have hr0i : (0 : Int) < (r : Int) := by omega
        have HR0 : Hid (0 < r) := hr0
        clear hr0
        have hb2 : BxS ((wr.alloc (.cells #[.int .i64 (f : Nat), .int .i64 (t : Nat), .int .i64 (r : Nat)] 34)).alloc (.cells #[.int .i64 (k : Nat), .int .i64 (f : Nat), .int .i64 (t : Nat), .int .i64 (r : Nat)] 55)) (wr.heap.size + 1) 55 (Ld.mk k f t r).cells.toArray := by
          have h := BxS.new (wr.alloc (.cells #[.int .i64 (f : Nat), .int .i64 (t : Nat), .int .i64 (r : Nat)] 34)) 55 #[.int .i64 (k : Nat), .int .i64 (f : Nat), .int .i64 (t : Nat), .int .i64 (r : Nat)]
          simpa [Ld.cells] using h
        have hO2 := (hO.out.alloc (.cells #[.int .i64 (f : Nat), .int .i64 (t : Nat), .int .i64 (r : Nat)] 34)).alloc (.cells #[.int .i64 (k : Nat), .int .i64 (f : Nat), .int .i64 (t : Nat), .int .i64 (r : Nat)] 55)
        have hg2 : wr.grownBy ((wr.alloc (.cells #[.int .i64 (f : Nat), .int .i64 (t : Nat), .int .i64 (r : Nat)] 34)).alloc (.cells #[.int .i64 (k : Nat), .int .i64 (f : Nat), .int .i64 (t : Nat), .int .i64 (r : Nat)] 55)) none := HGA.out.trans (World.grownBy_alloc _ _ _)
        have hml : (ldsJ J k).length ≤ 100000 := by have := hm.out; omega
        have HB2 : Hid _ := hb2
        have HO2 : Hid _ := hO2
        have HG2 : Hid _ := hg2
        have HML : Hid _ := hml
        clear hb2 hO2 hg2 hml
        have s0 : True := trivial
        go_wp2_with (first
          | (have _t := s0; clear s0; refine wpList_psD rfl (.tmp 16) (.tmp 25) 50 Try.underlying50 rfl (.slice a m c) (ldsJ J k) rfl HO2.out (wr.heap.size + 1) ⟨k, f, t, r⟩ rfl HB2.out HML.out ?_; intro g2 c2 w2 hor hO3 g3; rw [← hm.out]))
        have e3 : ldsJ J (k + 1) = ldsJ J k ++ [ldJ J k] := by
          conv => lhs; unfold ldsJ
          rw [if_pos (by rw [← HR.out]; exact HR0.out)]
        have hgf : w.grownBy w2 none := grown_far (grown_trans HG0.out HG2.out) g3 (fun q e => hnew.out q (by cases a <;> exact e))
        refine ⟨⟨k + 1, some ⟨g2, 0, none⟩, c2, m + 1, by omega, by go_num, rfl, by omega, ?_, ?_, ?_, hgf⟩, by simp [intOf] <;> omega⟩
        · show _ = _
          rw [e3, List.length_append, ← hm.out]
          rfl
        · show World.ownsRow _ _ _ _ _ _ _
          rw [← HLD.out, ← e3, ← hm.out] at hO3
          exact hO3
        · show ∀ g, _ → _
          intro g e
          have e := Option.some.inj e
          subst e
          rcases hor with h | h
          · exact hnew.out _ (by cases a <;> exact h)
          · have := HG2.out.size
            have := HG0.out.size
            show w.heap.size ≤ g2
            omega
      · have hr0i : ¬ (0 : Int) < (r : Int) := by omega
        have e3 : ldsJ J (k + 1) = ldsJ J k := by
          conv => lhs; unfold ldsJ
          rw [if_neg (by rw [← HR.out]; exact hr0)]
        have HE3 : Hid _ := e3
        clear hr0 e3
        go_wp2
        refine ⟨⟨k + 1, a, c, m, by omega, by go_num, rfl, by omega, ?_, ?_, hnew, grown_trans HG0.out HGA.out⟩, by simp [intOf] <;> omega⟩
        · show _ = _
          rw [HE3.out]
          exact hm.out
        · show World.ownsRow _ _ _ _ _ _ _
          rw [HE3.out]
          exact hO.out.alloc _
    · obtain rfl : k = n := by omega
      have lk : ¬ (k : Int) < (k : Int) := by omega
      have HG0 : Hid (w.grownBy wr none) := hg
      clear hg
      go_wp2
      (try simp only [Exit.inBlock, Exit.then])
      obtain ⟨C0, hC0⟩ : ∃ C0, C0 = ldsJ J k := ⟨_, rfl⟩
      have hO' := hO.out
      have hm' := hm.out
      rw [← hC0] at hO' hm'
      subst hm'
      have S0 := HSS.out a c C0 wr hO' (by rw [hC0]; exact ldsJ_len J k)
      have HC0 : Hid _ := hC0
      clear hC0 hO' lk
      refine HK2.out _ _ ?_
      clear HK2
      refine wp_seq_k fun K3 hK3 => ?_
      have HK3 : Hid _ := hK3
      clear hK3
      go_wp2_with (go_at_call 30; refine S0.mono ?_; rintro e w1 ⟨rfl, K, hOK, hP, hSD, hG1⟩)
      refine HK3.out _ _ ?_
      clear HK3
      go_wp2
      go_ret
      have el := hP.length_eq
      refine ⟨a, c, K, by rw [el]; rfl, ?_, ?_, ?_, ?_, ?_⟩
      · rw [el]
        exact hOK
      · rw [← HC0.out]
        exact hP
      · rw [el]
        exact hSD
      · intro g e
        exact hnew.out g e
      · exact grown_far HG0.out hG1 (fun q e => hnew.out q e)
end
end Go.Proofs.Ytnjdbbjhplebhaa
