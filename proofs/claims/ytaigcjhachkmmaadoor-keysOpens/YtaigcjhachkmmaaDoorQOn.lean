import Derived.Test.YtaigcjhachkmmaaDoorQEJ
import Derived.Test.YtaigcjhachkmmaaDoorYRd
import Derived.Laws.BitsAllLaws
import Derived.Test.YtaigcjhachkmmaaDoorYHd
import Derived.Test.YtaigcjhachkmmaaDoorYTg
namespace Go.Proofs.YtaigcjhachkmmaaDoor
open Go.RowKit
set_option maxRecDepth 100000
set_option linter.unusedVariables false
set_option linter.unusedSimpArgs false

set_option maxHeartbeats 8000000 in
/-- slices.Equal of bytes -/
theorem equalB_any (a b : Option Addr) (n m c d : Nat) (A B : List Nat) (w : World) (ha : Rd w a n c A) (hb : Rd w b m d B) :
    Calls Tryd.prog 25 #[.slice a n c, .slice b m d] w fun e w' => e = .returned (.bool (decide (A = B))) ∧ w.grownBy w' none := by
  have lA := ha.len
  have lB := hb.len
  have hmm : maxLen ≤ 9223372036854775807 := by decide
  have h1 := ha.le
  have h2 := ha.max
  by_cases hnm : n = m
  · subst hnm
    have hne : ((n : Int) != (n : Int)) = false := by simp
    go_enter Tryd.func25, Tryd.ntmps25
    go_wp2
    go_loopw [13] (fun iv wr => ∃ (k : Nat), iv = .int .i64 k ∧ k ≤ n ∧ (∀ i, i < k → nth A i = nth B i) ∧ w.grownBy wr none) (fun iv _ => n - (intOf iv).toNat)
    case atStart => exact ⟨0, by go_num, Nat.zero_le _, (fun i h => by omega), World.grownBy.refl _ _⟩
    case round =>
      obtain ⟨k, rfl, hk, hall, yr⟩ := hrel
      by_cases hlt : k < n
      · have hlt' : (k : Int) < (n : Int) := by omega
        obtain ⟨ba, oa, ea, _, hca⟩ := (ha.keep yr).at' (by omega)
        obtain ⟨bb, ob, eb, _, hcb⟩ := (hb.keep yr).at' (by omega)
        subst ea
        subst eb
        have c1 := hca k hlt
        have c2 := hcb k hlt
        have hwk : IntKind.i64.wrap ((k : Int) + 1) = (k : Int) + 1 := wrap_i64_in _ (by omega) (by omega)
        by_cases he : nth A k = nth B k
        · have he' : ((nth A k : Int) != (nth B k : Int)) = false := by rw [he]; simp
          go_wp2
          go_quiet (fail)
          go_wp2
          go_roundw
          case rel => exact ⟨k + 1, by go_num, by omega, fun i hi => if e : i = k then (by subst e; exact he) else hall i (by omega), grown_trans yr (grown_drewN _ _ _)⟩
          case measure => simp [intOf]; omega
        · have he' : ((nth A k : Int) != (nth B k : Int)) = true := by simp; omega
          have hd : decide (A = B) = false := decide_eq_false (fun e => he (by rw [e]))
          have HD : Hid (decide (A = B) = false) := hd
          clear he hd
          go_wp2
          go_quiet (fail)
          go_wp2
          go_ret
          exact ⟨by rw [HD.out]; rfl, grown_trans yr (grown_drewN _ _ _)⟩
      · have hlt' : ¬ (k : Int) < (n : Int) := by omega
        obtain rfl : k = n := by omega
        have hd : decide (A = B) = true := decide_eq_true (by
          apply List.ext_getElem (by omega)
          intro i h3 h4
          have := hall i (by omega)
          unfold nth at this
          rw [List.getD_eq_getElem?_getD, List.getElem?_eq_getElem h3, List.getD_eq_getElem?_getD, List.getElem?_eq_getElem h4] at this
          exact this)
        have HD : Hid (decide (A = B) = true) := hd
        clear hd
        go_wp2
        go_ret
        exact ⟨by rw [HD.out]; rfl, yr⟩
  · have hne : ((n : Int) != (m : Int)) = true := by simp; omega
    have hd : decide (A = B) = false := decide_eq_false (fun e => hnm (by rw [← lA, ← lB, e]))
    rw [hd]
    go_enter Tryd.func25, Tryd.ntmps25
    go_wp2
    go_ret
    exact ⟨rfl, World.grownBy.refl _ _⟩
/-- was a counter opened, or can nobody tell any more? -/
def oldB (t : Int) (s c : Nat) : Bool := if t < (c : Int) then false else (decide (t - (c : Int) = 0) || (decide (62 < t - (c : Int)) || s.testBit (t - (c : Int) - 1).toNat))
set_option maxHeartbeats 8000000 in
theorem tooOld_any (kk : Kw) (s c : Nat) (w : World) (hs2 : s < 4611686018427387904) (ht : -1 ≤ kk.tp ∧ kk.tp ≤ 281474976710655) (hc : c ≤ 281474976710655) :
    Calls Tryd.prog 27 #[.agg #[.int .i64 kk.id, .slice kk.a kk.n kk.c, .int .i64 kk.tp, .int .i64 (s : Int)], .int .i64 (c : Int)] w fun e w' => e = .returned (.bool (oldB kk.tp s c)) ∧ w.grownBy w' none := by
  have b0 := BxS.new w 36 #[.int .i64 kk.id, .slice kk.a kk.n kk.c, .int .i64 kk.tp, .int .i64 (s : Int)]
  have g0 := World.grownBy_alloc w (.cells #[.int .i64 kk.id, .slice kk.a kk.n kk.c, .int .i64 kk.tp, .int .i64 (s : Int)] 36) none
  generalize hw0 : w.alloc (.cells #[.int .i64 kk.id, .slice kk.a kk.n kk.c, .int .i64 kk.tp, .int .i64 (s : Int)] 36) = w0 at b0 g0
  obtain ⟨t0, t1, t2, t3⟩ := BxS.cell4 b0
  by_cases h1 : kk.tp < (c : Int)
  · have HV : Hid (oldB kk.tp s c = false) := if_pos h1
    go_enter Tryd.func27, Tryd.ntmps27
    go_wp2
    go_ret
    exact ⟨by rw [HV.out]; rfl, g0⟩
  · obtain ⟨d, hd⟩ : ∃ d : Nat, kk.tp - (c : Int) = (d : Int) := ⟨(kk.tp - (c : Int)).toNat, by omega⟩
    have HV : Hid (oldB kk.tp s c = (decide ((d : Int) = 0) || (decide (62 < (d : Int)) || s.testBit (d - 1)))) := by show _ = _; unfold oldB; rw [if_neg h1, hd, show ((d : Int) - 1).toNat = d - 1 by omega]
    have hwd : IntKind.i64.wrap (kk.tp - (c : Int)) = (d : Int) := by rw [hd]; exact wrap_i64_in _ (by omega) (by omega)
    have hnl : ¬ kk.tp < (c : Int) := h1
    clear hd
    by_cases hd0 : d = 0
    · subst hd0
      go_enter Tryd.func27, Tryd.ntmps27
      go_wp2
      go_ret
      exact ⟨by rw [HV.out]; simp, g0⟩
    · have hd0' : ((d : Int) == 0) = false := by simp; omega
      by_cases hd6 : 62 < d
      · have hd6' : (62 : Int) < (d : Int) := by omega
        go_enter Tryd.func27, Tryd.ntmps27
        go_wp2
        go_ret
        exact ⟨by rw [HV.out]; simp [hd6'], g0⟩
      · have hd6' : ¬ (62 : Int) < (d : Int) := by omega
        obtain ⟨e, rfl⟩ : ∃ e, d = e + 1 := ⟨d - 1, by omega⟩
        have hbt := bit_i64 s e (by omega)
        have k0 : ((e : Int) + 1 == 0) = false := by simp; omega
        have k6 : ¬ (62 : Int) < (e : Int) + 1 := by omega
        obtain ⟨bt, hbe⟩ : ∃ bt, s.testBit e = bt := ⟨_, rfl⟩
        rw [hbe] at hbt
        have HB : Hid (s.testBit e = bt) := hbe
        clear hbe hd0'
        go_enter Tryd.func27, Tryd.ntmps27
        go_wp2
        go_ret
        refine ⟨?_, g0⟩
        rw [HV.out, Nat.add_sub_cancel, HB.out, decide_eq_false (show ¬ ((e + 1 : Nat) : Int) = 0 by omega), decide_eq_false (show ¬ (62 : Int) < ((e + 1 : Nat) : Int) by omega)]
        rfl
theorem shl_mask (y e z : Nat) (hz : (y * 2 ^ e) % 4611686018427387904 = z) : wrap64 (bits .and .u64 (IntKind.u64.wrap ((y : Int) * 2 ^ min e 64)) 4611686018427387903) = (z : Int) := by
  have h0 : (y * 2 ^ min e 64) % 4611686018427387904 = z := by
    by_cases h : e ≤ 64
    · rw [Nat.min_eq_left h]; exact hz
    · rw [Nat.min_eq_right (by omega), ← hz]
      have d1 : (y * 2 ^ 64) % 4611686018427387904 = 0 := Nat.mod_eq_zero_of_dvd (Nat.dvd_trans (show 4611686018427387904 ∣ 2 ^ 64 by decide) (Nat.dvd_mul_left _ _))
      have d2 : (y * 2 ^ e) % 4611686018427387904 = 0 := Nat.mod_eq_zero_of_dvd (Nat.dvd_trans (Nat.dvd_trans (show 4611686018427387904 ∣ 2 ^ 62 by decide) (Nat.pow_dvd_pow 2 (by omega))) (Nat.dvd_mul_left _ _))
      rw [d1, d2]
  have hc : ((y : Int) * 2 ^ min e 64) = ((y * 2 ^ min e 64 : Nat) : Int) := by simp
  generalize y * 2 ^ min e 64 = X at *
  rw [hc]
  have hw : IntKind.u64.wrap (X : Int) = ((X % 18446744073709551616 : Nat) : Int) := by rw [IntKind.wrap_u64]; omega
  have ha := u64_and_nat (X % 18446744073709551616) 4611686018427387903 (by omega) (by decide)
  rw [Nat.and_two_pow_sub_one_eq_mod _ 62] at ha
  rw [hw, show ((4611686018427387903 : Nat) : Int) = 4611686018427387903 from rfl] at *
  rw [ha]
  unfold wrap64
  omega
/-- what opening makes of a key -/
def opS (t : Int) (s c : Nat) : Nat := if (c : Int) < t then s ||| 2 ^ (t - (c : Int) - 1).toNat else (if t < 0 then s else ((2 * s + 1) * 2 ^ ((c : Int) - t - 1).toNat) % 4611686018427387904)
def opT (t : Int) (c : Nat) : Int := if (c : Int) < t then t else (c : Int)
set_option maxHeartbeats 16000000 in
theorem opened_any (kk : Kw) (s c : Nat) (w : World) (hs2 : s < 4611686018427387904) (ht : -1 ≤ kk.tp ∧ kk.tp ≤ 281474976710655) (hc : c ≤ 281474976710655) (hd : kk.tp - (c : Int) ≤ 62) (hne : (c : Int) ≠ kk.tp) :
    Calls Tryd.prog 28 #[.agg #[.int .i64 kk.id, .slice kk.a kk.n kk.c, .int .i64 kk.tp, .int .i64 (s : Int)], .int .i64 (c : Int)] w fun e w' => e = .returned (.agg #[.int .i64 kk.id, .slice kk.a kk.n kk.c, .int .i64 (opT kk.tp c), .int .i64 (opS kk.tp s c : Int)]) ∧ w.grownBy w' none := by
  have b0 := BxS.new w 36 #[.int .i64 kk.id, .slice kk.a kk.n kk.c, .int .i64 kk.tp, .int .i64 (s : Int)]
  have g0 := World.grownBy_alloc w (.cells #[.int .i64 kk.id, .slice kk.a kk.n kk.c, .int .i64 kk.tp, .int .i64 (s : Int)] 36) none
  generalize hw0 : w.alloc (.cells #[.int .i64 kk.id, .slice kk.a kk.n kk.c, .int .i64 kk.tp, .int .i64 (s : Int)] 36) = w0 at b0 g0
  have hz0 : w0.heap.size = w.heap.size + 1 := by rw [← hw0]; simp
  have b1 := BxS.new w0 36 #[.int .i64 0, .slice none 0 0, .int .i64 0, .int .i64 0]
  have g1 := World.grownBy_alloc w0 (.cells #[.int .i64 0, .slice none 0 0, .int .i64 0, .int .i64 0] 36) none
  generalize hw1 : w0.alloc (.cells #[.int .i64 0, .slice none 0 0, .int .i64 0, .int .i64 0] 36) = w1 at b1 g1
  rw [hz0] at b1
  have sz1 : w.heap.size + 2 ≤ w1.heap.size := by rw [← hw1]; simp [hz0]
  have p0 := b0.keep g1 (by simp)
  have G1 := grown_trans g0 g1
  have i4 := Tryd.info_ky4
  obtain ⟨t0, t1, t2, t3⟩ := BxS.cell4 p0
  by_cases h1 : (c : Int) < kk.tp
  · obtain ⟨e, he⟩ : ∃ e : Nat, kk.tp - (c : Int) - 1 = (e : Int) := ⟨(kk.tp - (c : Int) - 1).toNat, by omega⟩
    obtain ⟨P, hP⟩ : ∃ P : Nat, 2 ^ e = P := ⟨_, rfl⟩
    have hP2 : P ≤ 2305843009213693952 := by rw [← hP]; exact Nat.pow_le_pow_right (by decide) (show e ≤ 61 by omega)
    have HV : Hid (opS kk.tp s c = s ||| P ∧ opT kk.tp c = kk.tp) := ⟨by unfold opS; rw [if_pos h1, he, Int.toNat_natCast, hP], if_pos h1⟩
    have hw1' : IntKind.i64.wrap (kk.tp - (c : Int)) = kk.tp - (c : Int) := wrap_i64_in _ (by omega) (by omega)
    have hw2' : IntKind.i64.wrap (kk.tp - (c : Int) - 1) = (e : Int) := by rw [he]; exact wrap_i64_in _ (by omega) (by omega)
    have hpw : IntKind.i64.wrap ((2 : Int) ^ e) = (P : Int) := by rw [show ((2 : Int) ^ e) = (P : Int) by rw [← hP, Int.natCast_pow]; rfl]; exact wrap_i64_in _ (by omega) (by omega)
    have hor := i64_or_nat s P (by omega) (by omega)
    obtain ⟨q, hq⟩ : ∃ q : Nat, s ||| P = q := ⟨_, rfl⟩
    rw [hq] at hor HV
    have he62 : e < 64 := by omega
    clear hq hP he
    have SS := p0.keep (grown_drew w1 none) (by simp)
    go_enter Tryd.func28, Tryd.ntmps28
    go_wp2
    refine wp_regionL (fun wz => BxS wz w.heap.size 36 #[.int .i64 kk.id, .slice kk.a kk.n kk.c, .int .i64 kk.tp, .int .i64 (s : Int)]) [10] #[false, false, false, false, false, false, false, false, false, false, false] rfl (by kernel_rfl) ?_
    refine wpAnyZ_take [1, 8, 10] 0 (.pointer (some ⟨w.heap.size, 3, none⟩)) rfl (by kernel_rfl) (fun _ _ _ h => h) SS rfl (by intro wz hz; obtain ⟨z0, z1, z2, z3⟩ := BxS.cell4 hz; go_simp) ?_
    try simp only [List.getElem_toArray, List.getElem_cons_succ, List.getElem_cons_zero, Act.put, List.setIfInBounds_toArray, List.set_cons_zero, List.set_cons_succ]
    refine wpAnyZ_take [8, 10] 1 (.int .i64 (s : Int)) rfl (by kernel_rfl) (fun _ _ _ h => h) SS rfl (by intro wz hz; obtain ⟨z0, z1, z2, z3⟩ := BxS.cell4 hz; go_simp) ?_
    try simp only [List.getElem_toArray, List.getElem_cons_succ, List.getElem_cons_zero, Act.put, List.setIfInBounds_toArray, List.set_cons_zero, List.set_cons_succ]
    refine wpAnyZ_take [3, 5, 6, 7, 8, 10] 2 (.pointer (some ⟨w.heap.size, 2, none⟩)) rfl (by kernel_rfl) (fun _ _ _ h => h) SS rfl (by intro wz hz; obtain ⟨z0, z1, z2, z3⟩ := BxS.cell4 hz; go_simp) ?_
    try simp only [List.getElem_toArray, List.getElem_cons_succ, List.getElem_cons_zero, Act.put, List.setIfInBounds_toArray, List.set_cons_zero, List.set_cons_succ]
    refine wpAnyZ_take [5, 6, 7, 8, 10] 3 (.int .i64 kk.tp) rfl (by kernel_rfl) (fun _ _ _ h => h) SS rfl (by intro wz hz; obtain ⟨z0, z1, z2, z3⟩ := BxS.cell4 hz; go_simp) ?_
    try simp only [List.getElem_toArray, List.getElem_cons_succ, List.getElem_cons_zero, Act.put, List.setIfInBounds_toArray, List.set_cons_zero, List.set_cons_succ]
    refine wpAnyZ_take [5, 6, 7, 8, 10] 4 (.int .i64 (c : Int)) rfl (by kernel_rfl) (fun _ _ _ h => h) SS rfl (by intro wz hz; obtain ⟨z0, z1, z2, z3⟩ := BxS.cell4 hz; go_simp) ?_
    try simp only [List.getElem_toArray, List.getElem_cons_succ, List.getElem_cons_zero, Act.put, List.setIfInBounds_toArray, List.set_cons_zero, List.set_cons_succ]
    refine wpAnyZ_take [6, 7, 8, 10] 5 (.int .i64 (kk.tp - (c : Int))) rfl (by kernel_rfl) (fun _ _ _ h => h) SS rfl (by intro wz hz; obtain ⟨z0, z1, z2, z3⟩ := BxS.cell4 hz; go_simp) ?_
    try simp only [List.getElem_toArray, List.getElem_cons_succ, List.getElem_cons_zero, Act.put, List.setIfInBounds_toArray, List.set_cons_zero, List.set_cons_succ]
    refine wpAnyZ_take [7, 8, 10] 6 (.int .i64 (e : Int)) rfl (by kernel_rfl) (fun _ _ _ h => h) SS rfl (by intro wz hz; obtain ⟨z0, z1, z2, z3⟩ := BxS.cell4 hz; go_simp) ?_
    try simp only [List.getElem_toArray, List.getElem_cons_succ, List.getElem_cons_zero, Act.put, List.setIfInBounds_toArray, List.set_cons_zero, List.set_cons_succ]
    refine wpAnyZ_take [8, 10] 7 (.int .i64 (P : Int)) rfl (by kernel_rfl) (fun _ _ _ h => h) SS rfl (by intro wz hz; obtain ⟨z0, z1, z2, z3⟩ := BxS.cell4 hz; go_simp) ?_
    try simp only [List.getElem_toArray, List.getElem_cons_succ, List.getElem_cons_zero, Act.put, List.setIfInBounds_toArray, List.set_cons_zero, List.set_cons_succ]
    refine wpAnyZ_take [10] 8 (.int .i64 (q : Int)) rfl (by kernel_rfl) (fun _ _ _ h => h) SS rfl (by intro wz hz; obtain ⟨z0, z1, z2, z3⟩ := BxS.cell4 hz; go_simp) ?_
    try simp only [List.getElem_toArray, List.getElem_cons_succ, List.getElem_cons_zero, Act.put, List.setIfInBounds_toArray, List.set_cons_zero, List.set_cons_succ]
    refine wpAnyZ_take [10] 9 (.pointer (some ⟨w.heap.size, 3, none⟩)) rfl (by kernel_rfl) (fun _ _ _ h => h) SS rfl (by intro wz hz; obtain ⟨z0, z1, z2, z3⟩ := BxS.cell4 hz; go_simp) ?_
    try simp only [List.getElem_toArray, List.getElem_cons_succ, List.getElem_cons_zero, Act.put, List.setIfInBounds_toArray, List.set_cons_zero, List.set_cons_succ]
    refine wpAnyZ_oneB 10 rfl (by kernel_rfl) (fun K hK => ?_)
    refine step_stC _ rfl _ _ _ rfl w.heap.size 3 36 _ #[.int .i64 kk.id, .slice kk.a kk.n kk.c, .int .i64 kk.tp, .int .i64 (q : Int)] (.int .i64 (q : Int)) rfl rfl SS (stc_int _ _ _) (by show 3 < 4; decide) rfl ?_
    intro w3 b3 u3
    refine hK _ _ (fun h => absurd (by decide) h) ?_
    try simp only [List.getElem_toArray, List.getElem_cons_succ, List.getElem_cons_zero, Act.put, List.setIfInBounds_toArray, List.set_cons_zero, List.set_cons_succ]
    refine wpAnyZ_doneB (by kernel_rfl) ?_ _
    obtain ⟨v0, v1, v2, v3⟩ := BxS.cell4 b3
    have q1 := (b1.keep (grown_drew w1 none) (by simp)).keep u3 (fun e => by have e := Option.some.inj e; omega)
    go_wp2_with (refine wpList_stX _ rfl _ (.tmp 4) (.tmp 44) rfl (w.heap.size + 1) _ _ rfl rfl q1 i4 rfl (by simp [Value.oneCell']) ?_; intro w9 b9 u9)
    refine bodyPost_ret (results_cellQ1 rfl _ _ _ ⟨w.heap.size + 1, 0, none⟩ _ rfl (BxS.load (t := 36) b9 Tryd.underlying36 i4)) rfl ?_
    rw [HV.out.1, HV.out.2]
    exact ⟨rfl, grown_far (grown_far (grown_trans G1 (grown_drew w1 none)) u3 (fun q e => by have e := Option.some.inj e; omega)) u9 (fun q e => by have e := Option.some.inj e; omega)⟩
  · by_cases h2 : kk.tp < 0
    · have HV : Hid (opS kk.tp s c = s ∧ opT kk.tp c = (c : Int)) := ⟨by unfold opS; rw [if_neg h1, if_pos h2], if_neg h1⟩
      have s0 : True := trivial
      go_enter Tryd.func28, Tryd.ntmps28
      go_wp2_with (first
        | (have _t := s0; clear s0; refine wpList_stC _ rfl _ _ _ rfl w.heap.size 2 36 _ #[.int .i64 kk.id, .slice kk.a kk.n kk.c, .int .i64 (c : Int), .int .i64 (s : Int)] (.int .i64 (c : Int)) rfl rfl p0 (stc_int _ _ _) (by show 2 < 4; decide) rfl ?_; intro w3 b3 u3; clear t0 t1 t2 t3; obtain ⟨t0, t1, t2, t3⟩ := BxS.cell4 b3; have q1 := b1.keep u3 (fun e => by have e := Option.some.inj e; omega); have s1 : True := trivial)
        | (have _t := s1; clear s1; refine wpList_stX _ rfl _ (.tmp 4) (.tmp 44) rfl (w.heap.size + 1) _ _ rfl rfl q1 i4 rfl (by simp [Value.oneCell']) ?_; intro w9 b9 u9))
      refine bodyPost_ret (results_cellQ1 rfl _ _ _ ⟨w.heap.size + 1, 0, none⟩ _ rfl (BxS.load (t := 36) b9 Tryd.underlying36 i4)) rfl ?_
      rw [HV.out.1, HV.out.2]
      exact ⟨rfl, grown_far (grown_far G1 u3 (fun q e => by have e := Option.some.inj e; omega)) u9 (fun q e => by have e := Option.some.inj e; omega)⟩
    · obtain ⟨e, he⟩ : ∃ e : Nat, (c : Int) - kk.tp - 1 = (e : Int) := ⟨((c : Int) - kk.tp - 1).toNat, by omega⟩
      have hor : bits .or .u64 ((s : Int) * 2) 1 = ((2 * s + 1 : Nat) : Int) := by
        have h5 := u64_or_nat (2 * s) 1 (by omega) (by decide)
        have h6 := Nat.two_pow_add_eq_or_of_lt (i := 1) (b := 1) (by decide) s
        rw [show 2 ^ 1 * s = 2 * s by omega] at h6
        rw [← h6] at h5
        rw [show (s : Int) * 2 = ((2 * s : Nat) : Int) by omega]
        exact h5
      obtain ⟨y, hy⟩ : ∃ y : Nat, 2 * s + 1 = y := ⟨_, rfl⟩
      rw [hy] at hor
      have HV : Hid (opS kk.tp s c = (y * 2 ^ e) % 4611686018427387904 ∧ opT kk.tp c = (c : Int)) := ⟨by unfold opS; rw [if_neg h1, if_neg h2, he, Int.toNat_natCast, hy], if_neg h1⟩
      have hw1' : IntKind.i64.wrap ((c : Int) - kk.tp) = (c : Int) - kk.tp := wrap_i64_in _ (by omega) (by omega)
      have hw2' : IntKind.i64.wrap ((c : Int) - kk.tp - 1) = (e : Int) := by rw [he]; exact wrap_i64_in _ (by omega) (by omega)
      obtain ⟨z, hz⟩ : ∃ z : Nat, (y * 2 ^ e) % 4611686018427387904 = z := ⟨_, rfl⟩
      rw [hz] at HV
      have hval : wrap64 (bits .and .u64 (IntKind.u64.wrap ((y : Int) * 2 ^ min e 64)) 4611686018427387903) = (z : Int) := shl_mask y e z hz
      have HVAL : Hid (wrap64 (bits .and .u64 (IntKind.u64.wrap ((y : Int) * 2 ^ min e 64)) 4611686018427387903) = (z : Int)) := hval
      have s0 : True := trivial
      clear hy hz hval
      go_enter Tryd.func28, Tryd.ntmps28
      go_wp2_with (first
        | (have _t := s0; clear s0; refine wpList_stC _ rfl _ _ _ rfl w.heap.size 3 36 _ #[.int .i64 kk.id, .slice kk.a kk.n kk.c, .int .i64 kk.tp, .int .i64 (wrap64 (bits .and .u64 (IntKind.u64.wrap ((y : Int) * 2 ^ min e 64)) 4611686018427387903))] (.int .i64 (wrap64 (bits .and .u64 (IntKind.u64.wrap ((y : Int) * 2 ^ min e 64)) 4611686018427387903))) rfl rfl p0 (stc_int _ _ _) (by show 3 < 4; decide) rfl ?_; intro w3 b3 u3; rw [HVAL.out] at b3; clear t0 t1 t2 t3; obtain ⟨t0, t1, t2, t3⟩ := BxS.cell4 b3; have q1 := b1.keep u3 (fun e => by have e := Option.some.inj e; omega); have s1 : True := trivial)
        | (have _t := s1; clear s1; refine wpList_stC _ rfl _ _ _ rfl w.heap.size 2 36 _ #[.int .i64 kk.id, .slice kk.a kk.n kk.c, .int .i64 (c : Int), .int .i64 (z : Int)] (.int .i64 (c : Int)) rfl rfl b3 (stc_int _ _ _) (by show 2 < 4; decide) rfl ?_; intro w4 b4 u4; clear t0 t1 t2 t3; obtain ⟨t0, t1, t2, t3⟩ := BxS.cell4 b4; have q1 := q1.keep u4 (fun e => by have e := Option.some.inj e; omega); have s2 : True := trivial)
        | (have _t := s2; clear s2; refine wpList_stX _ rfl _ (.tmp 4) (.tmp 44) rfl (w.heap.size + 1) _ _ rfl rfl q1 i4 rfl (by simp [Value.oneCell']) ?_; intro w9 b9 u9))
      refine bodyPost_ret (results_cellQ1 rfl _ _ _ ⟨w.heap.size + 1, 0, none⟩ _ rfl (BxS.load (t := 36) b9 Tryd.underlying36 i4)) rfl ?_
      rw [HV.out.1, HV.out.2]
      exact ⟨rfl, grown_far (grown_far (grown_far G1 u3 (fun q e => by have e := Option.some.inj e; omega)) u4 (fun q e => by have e := Option.some.inj e; omega)) u9 (fun q e => by have e := Option.some.inj e; omega)⟩

/-- a key is stored into a row of them, in a drawn region -/
theorem step_stKy (w : World) {ops : Array Oper} {o : Oper} {a : Act} {K : Act → World → Prop} {Q : Exit → Act → World → Prop} {E : Prop} (hg : o.guard = none) (p x : Operand) (hop : o.op = Op.store 36 p x)
    (g i n cap : Nat) (qs : List Kw) (q : Kw) (hp : a.eval p = .pointer (some ⟨g, i * 4, none⟩)) (hx : a.eval x = .agg #[.int .i64 q.id, .slice q.a q.n q.c, .int .i64 q.tp, .int .i64 q.sn]) (h : w.ownsRow 0 36 4 (.slice (some ⟨g, 0, none⟩) n cap) n (flK qs)) (hl : qs.length = n) (hi : i < n)
    (hK : ∀ w', w'.ownsRow 0 36 4 (.slice (some ⟨g, 0, none⟩) n cap) n (flK (qs.set i q)) → w.grownBy w' (some g) → K (a.put o.dst undef) w') :
    if Region.wanted o (yielded ops a.tmps) = true then Oper.wp Tryd.prog o a w K Q else E := by
  have hw : Region.wanted o (yielded ops a.tmps) = true := by simp [Region.wanted, hg]
  rw [if_pos hw]
  obtain ⟨k1, k2⟩ := setCells_own h hl i hi q
  have hst : (Instr.storeAt 36 (.pointer (some ⟨g, i * 4, none⟩)) (.agg #[.int .i64 q.id, .slice q.a q.n q.c, .int .i64 q.tp, .int .i64 q.sn])).run Tryd.prog w = .ok () (w.setCells g (i * 4) q.cells) := by
    rcases h.2 with ⟨h1, _⟩ | ⟨g', cap', cur, h1, _, h3, h4, _, h6, _⟩
    · simp at h1
    · simp only [Value.slice.injEq, Option.some.injEq, Addr.mk.injEq] at h1
      obtain ⟨⟨rfl, _⟩, _, rfl⟩ := h1
      refine run_stKey w g (i * 4) _ _ _ _ (by intro v hv; simp only [List.mem_cons, List.not_mem_nil, or_false] at hv; rcases hv with rfl | rfl | rfl | rfl <;> rfl) (fun j hj => ?_) (fun j hj => frozen_of_row w g _ _ _ h3)
      rw [cell_of_row _ _ _ _ _ _ h3, Array.getElem?_eq_getElem (by omega)]
      rfl
  unfold Oper.wp
  simp [execOp, hop, hp, hx, hst, Result.andThen]
  exact hK _ k1 k2
/-- a key's numbers are written over; its words stay -/
theorem OwK.setTs {w w' : World} {lo g n c : Nat} {ks : List Kw} (h : OwK w lo (some ⟨g, 0, none⟩) n c ks) {j : Nat} {kk q : Kw} (hi : ks[j]? = some kk) (hq : q.a = kk.a ∧ q.n = kk.n ∧ q.c = kk.c ∧ q.W = kk.W) (hbd : I64 q.id ∧ I64 q.tp ∧ I64 q.sn)
    (ho : w'.ownsRow 0 36 4 (.slice (some ⟨g, 0, none⟩) n c) n (flK (ks.set j q))) (u : w.grownBy w' (some g)) : OwK w' lo (some ⟨g, 0, none⟩) n c (ks.set j q) := by
  have hkl := (List.getElem?_eq_some_iff.1 hi).1
  have hkk : ks[j] = kk := (List.getElem?_eq_some_iff.1 hi).2
  have hpw := List.pairwise_iff_getElem.1 h.apart
  have hv : ∀ i (hil : i < (ks.set j q).length), (ks.set j q)[i].v = (ks[i]'(by rw [List.length_set] at hil; exact hil)).v := by
    intro i hil
    by_cases hij : i = j
    · subst hij
      rw [List.getElem_set_self, hkk]
      unfold Kw.v
      rw [hq.1, hq.2.1, hq.2.2.1]
    · rw [List.getElem_set_ne (fun e => hij e.symm)]
  have hE : ∀ k, k ∈ ks → AnsZ w' lo k.a k.n k.c k.W := fun k hk => by
    have hA := h.each k hk
    exact hA.kept u (by
      cases e : (Value.slice k.a k.n k.c).ownBlock with
      | none => exact .inl rfl
      | some y => exact .inr (fun e2 => h.row_ne hA (by show (Value.slice k.a k.n k.c).ownBlock = _; rw [e, e2])))
  refine ⟨ho, by rw [List.length_set]; exact h.len, h.new, fun k hk => ?_, fun k hk => ?_, List.pairwise_iff_getElem.2 (fun i l hil hll hij y hy e => ?_)⟩
  · rcases List.mem_or_eq_of_mem_set hk with hk | rfl
    · exact hE k hk
    · have := hE kk (List.mem_of_getElem? hi)
      rw [hq.1, hq.2.1, hq.2.2.1, hq.2.2.2]
      exact this
  · rcases List.mem_or_eq_of_mem_set hk with hk | rfl
    · exact h.bd k hk
    · exact hbd
  · rw [hv] at hy e
    exact hpw i l (by rw [List.length_set] at hil; exact hil) (by rw [List.length_set] at hll; exact hll) hij y hy e
theorem OwG.setTs {w w' : World} {lo g n c : Nat} {ks : List Kw} {R : List Kd} (h : OwG w lo (some ⟨g, 0, none⟩) n c ks R) {j : Nat} {kk q : Kw} (hi : ks[j]? = some kk) (hq : q.a = kk.a ∧ q.n = kk.n ∧ q.c = kk.c ∧ q.W = kk.W) (hbd : I64 q.id ∧ I64 q.tp ∧ I64 q.sn)
    (ho : w'.ownsRow 0 36 4 (.slice (some ⟨g, 0, none⟩) n c) n (flK (ks.set j q))) (u : w.grownBy w' (some g)) : OwG w' lo (some ⟨g, 0, none⟩) n c (ks.set j q) (R.set j q.d) :=
  ⟨h.o.setTs hi hq hbd ho u, by rw [List.map_set, h.d]⟩
/-- what opened answers stays within bounds -/
theorem op_bd {t : Int} {s c : Nat} (hs2 : s < 4611686018427387904) (ht : -1 ≤ t ∧ t ≤ 281474976710655) (hc : c < 281474976710656) (hd : t - (c : Int) ≤ 62) (hne : (c : Int) ≠ t) : I64 (opT t c) ∧ opS t s c < 4611686018427387904 ∧ I64 (opS t s c : Int) := by
  have h1 : I64 (opT t c) := by unfold opT I64; split <;> omega
  have h2 : opS t s c < 4611686018427387904 := by
    unfold opS
    split
    · rename_i h
      exact Nat.or_lt_two_pow (n := 62) hs2 (Nat.pow_lt_pow_right (by decide) (by omega))
    · split
      · exact hs2
      · exact Nat.mod_lt _ (by decide)
  exact ⟨h1, h2, by unfold I64; omega⟩
theorem oldB_no {t : Int} {s c : Nat} (h : oldB t s c = false) : t - (c : Int) ≤ 62 ∧ (c : Int) ≠ t := by
  unfold oldB at h
  by_cases hl : t < (c : Int)
  · exact ⟨by omega, by omega⟩
  · rw [if_neg hl, Bool.or_eq_false_iff, Bool.or_eq_false_iff] at h
    have h1 := of_decide_eq_false h.1
    have h2 := of_decide_eq_false h.2.1
    exact ⟨by omega, by omega⟩

theorem ansN (w : World) (lo : Nat) : Ans w lo none 0 0 [] := ⟨World.ownsRow_nil _ _ _ _, (fun x h => by cases h), fun g h => by simp [Value.ownBlock] at h⟩
theorem Rd.part' {w : World} {b off n cap : Nat} {L : List Nat} (h : Rd w (some ⟨b, off, none⟩) n cap L) (m k : Nat) (hk : m + k ≤ n) : Rd w (some ⟨b, off + m, none⟩) k (cap - m) ((L.drop m).take k) := by
  have hl := h.len
  have h1 := h.le
  have h2 := h.max
  refine ⟨by simp; omega, by omega, by omega, (fun e => by cases e), fun x hx => h.byte x (List.mem_of_mem_drop (List.mem_of_mem_take hx)), fun h0 => ?_⟩
  obtain ⟨b', off', e, hb, hc⟩ := h.at' (by omega)
  cases e
  refine ⟨b, off + m, rfl, hb, fun i hi => ?_⟩
  have := hc (m + i) (by omega)
  rw [show off + m + i = off + (m + i) by omega, this]
  congr 3
  unfold nth
  rw [List.getD_eq_getElem?_getD, List.getD_eq_getElem?_getD, List.getElem?_take, if_pos hi, List.getElem?_drop]
theorem wrap_iz (k : Nat) (h2 : k < 281474976710656) : IntKind.i64.wrap (k : Int) = (k : Int) := wrap_i64_in _ (by omega) (by omega)
theorem on_key {R : List Kd} (h : rmB R = true) {j : Nat} (hj : j < R.length) : (R.getD j kd0).W.length = 8 ∧ (∀ i, i < 8 → 0 ≤ nthI (R.getD j kd0).W i ∧ nthI (R.getD j kd0).W i ≤ 4294967295) ∧ (-1 ≤ (R.getD j kd0).tp ∧ (R.getD j kd0).tp ≤ 281474976710655) ∧ (0 ≤ (R.getD j kd0).sn ∧ (R.getD j kd0).sn < 4611686018427387904) := by
  unfold rmB at h
  rw [Bool.and_eq_true, decide_eq_true_eq] at h
  have h2 := rmA_at h.2 j hj
  generalize R.getD j kd0 = k at h2
  unfold kdB kmB at h2
  simp only [Bool.and_eq_true, beq_iff_eq] at h2
  have h3 := h2.1.1.2
  unfold wdE at h3
  have h4 := kwB_ok h2.1.2
  have h5 := h2.2
  unfold snB at h5
  have h5 := kwB_ok h5
  have h6 := snT_pow k.tp
  by_cases h8 : k.W.length = 8
  · rw [if_pos h8] at h3
    by_cases hw : wdB k.W = true
    · exact ⟨h8, fun i hi => wdB_ok hw i hi, h4, h5.1, by omega⟩
    · rw [if_neg hw] at h3; cases h3
  · rw [if_neg h8] at h3; cases h3
/-- what Open reads and answers -/
def onC (B : List Nat) : Nat := nuN ((B.drop 1).take 6) 6
def onK (R : List Kd) (B : List Nat) : Kd := R.getD (fiN R (nth B 0 : Int)) kd0
def onW (R : List Kd) (B : List Nat) (i : Nat) : Nat := (nthI (onK R B).W i).toNat
def onT (R : List Kd) (B : List Nat) : Bool := decide (B.drop (B.length - 8) = tagL (onW R B) (onC B) (B.take (B.length - 8)))
def onE (R : List Kd) (B : List Nat) : Nat :=
  if rmB R = true then (if kwB (B.length : Int) 15 1015 = true then (if drO R (nth B 0 : Int) = true then (if onT R B = true then (if oldB (onK R B).tp (onK R B).sn.toNat (onC B) = true then 13 else 0) else 14) else 14) else 1) else 11
/-- the key behind it -/
def onX (R : List Kd) (B : List Nat) : Kd := ⟨(onK R B).id, (onK R B).W, opT (onK R B).tp (onC B), (opS (onK R B).tp (onK R B).sn.toNat (onC B) : Int)⟩
def onV (R : List Kd) (B : List Nat) : List Kd := if rmB R = true then (if onE R B = 0 then R.set (fiN R (nth B 0 : Int)) (onX R B) else R) else []
def onY (R : List Kd) (B : List Nat) : List Nat := if onE R B = 0 then cvL (onW R B) (onC B) ((B.take (B.length - 8)).drop 7) else []
def onI (R : List Kd) (B : List Nat) : Nat := if onE R B = 0 then nth B 0 else 0
theorem on_bad {R : List Kd} {B : List Nat} {e : Nat} (hE : onE R B = e) (he : e ≠ 0) (hR : rmB R = true) : Hid (onV R B = R) ∧ Hid (onE R B = e) ∧ Hid (onY R B = []) ∧ Hid (onI R B = 0) := by
  refine ⟨?_, hE, ?_, ?_⟩
  · show _ = _
    unfold onV
    rw [hR, if_pos rfl, if_neg (by rw [hE]; exact he)]
  · show _ = _
    unfold onY
    rw [if_neg (by rw [hE]; exact he)]
  · show _ = _
    unfold onI
    rw [if_neg (by rw [hE]; exact he)]
end Go.Proofs.YtaigcjhachkmmaaDoor
