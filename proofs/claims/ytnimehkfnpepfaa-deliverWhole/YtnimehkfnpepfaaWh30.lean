import Derived.Test.YtnimehkfnpepfaaWh20
import Derived.Test.YtnimehkfnpepfaaWh29
import Derived.Lib.MinMax
namespace Go.Proofs.Ytnimehkfnpepfaa
open Go.RowKit
set_option maxRecDepth 100000
set_option linter.unusedVariables false
set_option linter.unusedSimpArgs false

section
/-- which spans may be -/
def rsB (F : Nat → Int × Int) (s : Int) : Nat → Bool
  | 0 => true
  | k + 1 => rsB F s k && (spB (F k).1 (F k).2 s && (decide (k = 0) || decide ((F (k - 1)).2 < (F k).1)))
theorem rsB_no {F : Nat → Int × Int} {s : Int} {k : Nat} (h : (spB (F k).1 (F k).2 s && (decide (k = 0) || decide ((F (k - 1)).2 < (F k).1))) = false) : ∀ n, k < n → rsB F s n = false := by
  intro n
  induction n with
  | zero => intro h; omega
  | succ n ih =>
    intro hk
    show (rsB F s n && _) = false
    by_cases e : k = n
    · subst e; rw [h, Bool.and_false]
    · rw [ih (by omega), Bool.false_and]
theorem rsB_rise {F : Nat → Int × Int} {s : Int} : ∀ n, rsB F s n = true → Rise F n ∧ ∀ j, j < n → (F j).2 ≤ s := by
  intro n
  induction n with
  | zero => intro _; exact ⟨fun j hj => by omega, fun j hj => by omega⟩
  | succ n ih =>
    intro h
    have h : (rsB F s n && (spB (F n).1 (F n).2 s && (decide (n = 0) || decide ((F (n - 1)).2 < (F n).1)))) = true := h
    unfold spB at h
    simp only [Bool.and_eq_true, Bool.or_eq_true, decide_eq_true_eq] at h
    obtain ⟨h1, h2, h3⟩ := h
    obtain ⟨k1, k2⟩ := ih h1
    refine ⟨fun j hj => ?_, fun j hj => ?_⟩
    · by_cases e : j = n
      · subst e; exact ⟨h2.1, h2.2.1, fun h0 => by rcases h3 with h3 | h3; omega; exact h3⟩
      · exact k1 j (by omega)
    · by_cases e : j = n
      · subst e; exact h2.2.2
      · exact k2 j (by omega)

set_option maxHeartbeats 32000000 in
theorem spansMay_any (q : Option Addr) (m d : Nat) (F : Nat → Int × Int) (s : Int) (w : World) (hG : RdG w q m d F) (hm : m ≤ 8796093021952) :
    Calls Try.prog 101 #[.slice q m d, .int .i64 s] w fun e w' => e = .returned (.bool (rsB F s m)) ∧ w.grownBy w' none := by
  have i2 := Try.info_sp
  have u2 := Try.underlying82
  go_enter Try.func101, Try.ntmps101
  refine wp_seq_k fun K1 hK1 => ?_
  have HK1 : Hid _ := hK1
  clear hK1
  go_wp2
  refine HK1.out _ _ ?_
  clear HK1
  refine wp_seq_k fun K1 hK1 => ?_
  have HK1 : Hid _ := hK1
  clear hK1
  go_wp2
  go_loopw [9] (fun iv wr => ∃ i : Nat, i ≤ m ∧ iv = .int .i64 i ∧ Hid (rsB F s i = true) ∧ w.grownBy wr none) (fun iv _ => m - (intOf iv).toNat)
  case atStart => exact ⟨0, Nat.zero_le _, rfl, rfl, World.grownBy.refl _ _⟩
  case round =>
    obtain ⟨i, hi9, rfl, HRS, Gr⟩ := hrel
    by_cases hlt : i < m
    · have li : (i : Int) < (m : Int) := by omega
      obtain ⟨b, off, rfl, hb, hc⟩ := (hG.keep Gr).at' (by omega)
      obtain ⟨p0, p1⟩ := hc i hlt
      have p2 : 0 < i → wr.cell? ⟨b, off + (i - 1) * 2 + 1, none⟩ = some (.int .i64 (F (i - 1)).2) := fun h0 => (hc (i - 1) (by omega)).2
      have HST : Hid (rsB F s (i + 1) = (rsB F s i && (spB (F i).1 (F i).2 s && (decide (i = 0) || decide ((F (i - 1)).2 < (F i).1))))) := rfl
      have HNO : Hid ((spB (F i).1 (F i).2 s && (decide (i = 0) || decide ((F (i - 1)).2 < (F i).1))) = false → rsB F s m = false) := fun h => rsB_no h m hlt
      generalize (F (i - 1)).2 = pr at p2 HST HNO
      obtain ⟨x, y, hxy⟩ : ∃ x y, F i = (x, y) := ⟨_, _, rfl⟩
      rw [hxy] at p0 p1 HST HNO
      dsimp only at HST HNO p0 p1
      have HC : Hid _ := hc
      clear hc hxy
      refine wp_seq_k fun K2 hK2 => ?_
      have HK2 : Hid _ := hK2
      clear hK2
      go_wp2
      refine HK2.out _ _ ?_
      clear HK2
      refine wp_seq_k fun K2 hK2 => ?_
      have HK2 : Hid _ := hK2
      clear hK2
      go_wp2
      refine HK2.out _ _ ?_
      clear HK2
      refine wp_seq_k fun K2 hK2 => ?_
      have HK2 : Hid _ := hK2
      clear hK2
      refine wp_block ?_
      refine wp_seq_k fun K3 hK3 => ?_
      have HK3 : Hid _ := hK3
      clear hK3
      have bn0 := BxS.new wr 82 #[.int .i64 0, .int .i64 0]
      have gn0 := World.grownBy_alloc wr (.cells #[.int .i64 0, .int .i64 0] 82) none
      generalize hw2 : wr.alloc (.cells #[.int .i64 0, .int .i64 0] 82) = w1 at bn0 gn0
      have s0 : True := trivial
      go_wp2_with (have _t := s0; clear s0; refine wpList_stX _ rfl _ (.tmp 6) (.tmp 13) rfl wr.heap.size _ _ rfl rfl bn0 i2 rfl (by simp [Value.oneCell']) ?_; intro w2 b62 u2')
      refine HK3.out _ _ ?_
      clear HK3
      have G2 : wr.grownBy w2 none := grown_far gn0 u2' (fun z e => by have e := Option.some.inj e; omega)
      have GG := grown_trans Gr G2
      obtain ⟨g6, hg6⟩ : ∃ g6, wr.heap.size = g6 := ⟨_, rfl⟩
      rw [hg6] at b62 ⊢
      have HPR : Hid (∀ wz, w.grownBy wz none → 0 < i → wz.cell? ⟨b, off + (i - 1) * 2 + 1, none⟩ = some (.int .i64 pr)) := by
        show ∀ wz, _
        intro wz hgz h0
        obtain ⟨b', off', e', _, hc'⟩ := (hG.keep hgz).at' (by omega)
        cases e'
        have h9 := (hc' (i - 1) (by omega)).2
        have h8 := (HC.out (i - 1) (by omega)).2
        have h7 := p2 h0
        rw [h9]
        rw [h8] at h7
        exact h7
      clear u2' bn0 gn0 hw2 p0 p1 p2 hg6
      refine wp_seq_k fun K4 hK4 => ?_
      have HK4 : Hid _ := hK4
      clear hK4
      cases hsp : spB x y s with
      | false =>
        have Gd := grown_drew w2 none
        have SS : BxS w2.drew g6 82 #[.int .i64 x, .int .i64 y] ∧ w.grownBy w2.drew none := ⟨b62.keep Gd (by simp), grown_trans GG Gd⟩
        refine wp_regionL (fun wz => BxS wz g6 82 #[.int .i64 x, .int .i64 y] ∧ w.grownBy wz none) [] #[false, false, false, false, false, false, false, false, false, false, false, false, false, false, false, false, false, false, false] rfl (by kernel_rfl) ?_
        refine wpAnyZ_take [] 0 (.agg #[.int .i64 x, .int .i64 y]) rfl (by kernel_rfl) (fun _ _ _ h => h) SS rfl (by rintro wz ⟨hz, hgz⟩; obtain ⟨z0, z1⟩ := hz.cell2; go_simp) ?_
        try simp only [zc1, zc2, zc3, Act.put, zc4, zc5, zc6]
        refine wpAnyZ_take [] 1 (.int .i64 s) rfl (by kernel_rfl) (fun _ _ _ h => h) SS rfl (by rintro wz ⟨hz, hgz⟩; obtain ⟨z0, z1⟩ := hz.cell2; go_simp) ?_
        try simp only [zc1, zc2, zc3, Act.put, zc4, zc5, zc6]
        refine wpAnyZ_oneB 2 rfl (by kernel_rfl) (fun KK hKK => ?_)
        go_simp
        go_at_call 112
        refine (spanMay_any x y s _).mono ?_
        rintro e w3 ⟨rfl, y3⟩
        dsimp only
        rw [hsp]
        have SS : BxS w3 g6 82 #[.int .i64 x, .int .i64 y] ∧ w.grownBy w3 none := ⟨SS.1.keep y3 (by simp), grown_trans SS.2 y3⟩
        refine hKK _ _ (fun _ => SS) ?_
        try simp only [zc1, zc2, zc3, Act.put, zc4, zc5, zc6]
        refine wpAnyZ_take [] 3 (.bool true) rfl (by kernel_rfl) (fun _ _ _ h => h) SS rfl (by rintro wz ⟨hz, hgz⟩; obtain ⟨z0, z1⟩ := hz.cell2; go_simp) ?_
        try simp only [zc1, zc2, zc3, Act.put, zc4, zc5, zc6]
        refine wpAnyZ_take [] 4 (.bool true) rfl (by kernel_rfl) (fun _ _ _ h => h) SS rfl (by rintro wz ⟨hz, hgz⟩; obtain ⟨z0, z1⟩ := hz.cell2; go_simp) ?_
        try simp only [zc1, zc2, zc3, Act.put, zc4, zc5, zc6]
        refine wpAnyZ_skipD [] 5 rfl (by kernel_rfl) (fun _ _ _ h => h) SS rfl ?_
        try simp only [zc1, zc2, zc3, Act.put, zc4, zc5, zc6]
        refine wpAnyZ_skipD [] 6 rfl (by kernel_rfl) (fun _ _ _ h => h) SS rfl ?_
        try simp only [zc1, zc2, zc3, Act.put, zc4, zc5, zc6]
        refine wpAnyZ_skipD [] 7 rfl (by kernel_rfl) (fun _ _ _ h => h) SS rfl ?_
        try simp only [zc1, zc2, zc3, Act.put, zc4, zc5, zc6]
        refine wpAnyZ_skipD [] 8 rfl (by kernel_rfl) (fun _ _ _ h => h) SS rfl ?_
        try simp only [zc1, zc2, zc3, Act.put, zc4, zc5, zc6]
        refine wpAnyZ_skipD [] 9 rfl (by kernel_rfl) (fun _ _ _ h => h) SS rfl ?_
        try simp only [zc1, zc2, zc3, Act.put, zc4, zc5, zc6]
        refine wpAnyZ_skipD [] 10 rfl (by kernel_rfl) (fun _ _ _ h => h) SS rfl ?_
        try simp only [zc1, zc2, zc3, Act.put, zc4, zc5, zc6]
        refine wpAnyZ_skipD [] 11 rfl (by kernel_rfl) (fun _ _ _ h => h) SS rfl ?_
        try simp only [zc1, zc2, zc3, Act.put, zc4, zc5, zc6]
        refine wpAnyZ_skipD [] 12 rfl (by kernel_rfl) (fun _ _ _ h => h) SS rfl ?_
        try simp only [zc1, zc2, zc3, Act.put, zc4, zc5, zc6]
        refine wpAnyZ_skipD [] 13 rfl (by kernel_rfl) (fun _ _ _ h => h) SS rfl ?_
        try simp only [zc1, zc2, zc3, Act.put, zc4, zc5, zc6]
        refine wpAnyZ_skipD [] 14 rfl (by kernel_rfl) (fun _ _ _ h => h) SS rfl ?_
        try simp only [zc1, zc2, zc3, Act.put, zc4, zc5, zc6]
        refine wpAnyZ_skipD [] 15 rfl (by kernel_rfl) (fun _ _ _ h => h) SS rfl ?_
        try simp only [zc1, zc2, zc3, Act.put, zc4, zc5, zc6]
        refine wpAnyZ_skipD [] 16 rfl (by kernel_rfl) (fun _ _ _ h => h) SS rfl ?_
        try simp only [zc1, zc2, zc3, Act.put, zc4, zc5, zc6]
        refine wpAnyZ_skipD [] 17 rfl (by kernel_rfl) (fun _ _ _ h => h) SS rfl ?_
        try simp only [zc1, zc2, zc3, Act.put, zc4, zc5, zc6]
        refine wpAnyZ_take [] 18 (.bool true) rfl (by kernel_rfl) (fun _ _ _ h => h) SS rfl (by rintro wz ⟨hz, hgz⟩; obtain ⟨z0, z1⟩ := hz.cell2; go_simp) ?_
        try simp only [zc1, zc2, zc3, Act.put, zc4, zc5, zc6]
        refine wpAnyZ_doneB (by kernel_rfl) ?_ _
        refine HK4.out _ _ ?_
        clear HK4
        refine wp_cond_true rfl ?_
        clear HK2
        go_wp2
        try simp only [Exit.inBlock, Exit.then]
        try go_ret
        refine ⟨?_, SS.2⟩
        rw [HNO.out (by rw [hsp]; rfl)]
        try rfl
      | true =>
        by_cases h0 : i = 0
        · have l0 : ¬ (0 : Int) < (i : Int) := by omega
          have l0' : ¬ 0 < i := by omega
          have H0 : Hid _ := h0
          clear h0
          have Gd := grown_drew w2 none
          have SS : BxS w2.drew g6 82 #[.int .i64 x, .int .i64 y] ∧ w.grownBy w2.drew none := ⟨b62.keep Gd (by simp), grown_trans GG Gd⟩
          refine wp_regionL (fun wz => BxS wz g6 82 #[.int .i64 x, .int .i64 y] ∧ w.grownBy wz none) [] #[false, false, false, false, false, false, false, false, false, false, false, false, false, false, false, false, false, false, false] rfl (by kernel_rfl) ?_
          refine wpAnyZ_take [] 0 (.agg #[.int .i64 x, .int .i64 y]) rfl (by kernel_rfl) (fun _ _ _ h => h) SS rfl (by rintro wz ⟨hz, hgz⟩; obtain ⟨z0, z1⟩ := hz.cell2; go_simp) ?_
          try simp only [zc1, zc2, zc3, Act.put, zc4, zc5, zc6]
          refine wpAnyZ_take [] 1 (.int .i64 s) rfl (by kernel_rfl) (fun _ _ _ h => h) SS rfl (by rintro wz ⟨hz, hgz⟩; obtain ⟨z0, z1⟩ := hz.cell2; go_simp) ?_
          try simp only [zc1, zc2, zc3, Act.put, zc4, zc5, zc6]
          refine wpAnyZ_oneB 2 rfl (by kernel_rfl) (fun KK hKK => ?_)
          go_simp
          go_at_call 112
          refine (spanMay_any x y s _).mono ?_
          rintro e w3 ⟨rfl, y3⟩
          dsimp only
          rw [hsp]
          have SS : BxS w3 g6 82 #[.int .i64 x, .int .i64 y] ∧ w.grownBy w3 none := ⟨SS.1.keep y3 (by simp), grown_trans SS.2 y3⟩
          refine hKK _ _ (fun _ => SS) ?_
          try simp only [zc1, zc2, zc3, Act.put, zc4, zc5, zc6]
          refine wpAnyZ_take [] 3 (.bool false) rfl (by kernel_rfl) (fun _ _ _ h => h) SS rfl (by rintro wz ⟨hz, hgz⟩; obtain ⟨z0, z1⟩ := hz.cell2; go_simp) ?_
          try simp only [zc1, zc2, zc3, Act.put, zc4, zc5, zc6]
          refine wpAnyZ_take [] 4 (.bool false) rfl (by kernel_rfl) (fun _ _ _ h => h) SS rfl (by rintro wz ⟨hz, hgz⟩; obtain ⟨z0, z1⟩ := hz.cell2; go_simp) ?_
          try simp only [zc1, zc2, zc3, Act.put, zc4, zc5, zc6]
          refine wpAnyZ_take [] 5 (.int .i64 (i : Int)) rfl (by kernel_rfl) (fun _ _ _ h => h) SS rfl (by rintro wz ⟨hz, hgz⟩; obtain ⟨z0, z1⟩ := hz.cell2; go_simp) ?_
          try simp only [zc1, zc2, zc3, Act.put, zc4, zc5, zc6]
          refine wpAnyZ_take [] 6 (.bool false) rfl (by kernel_rfl) (fun _ _ _ h => h) SS rfl (by rintro wz ⟨hz, hgz⟩; obtain ⟨z0, z1⟩ := hz.cell2; go_simp) ?_
          try simp only [zc1, zc2, zc3, Act.put, zc4, zc5, zc6]
          refine wpAnyZ_take [] 7 (.bool false) rfl (by kernel_rfl) (fun _ _ _ h => h) SS rfl (by rintro wz ⟨hz, hgz⟩; obtain ⟨z0, z1⟩ := hz.cell2; go_simp) ?_
          try simp only [zc1, zc2, zc3, Act.put, zc4, zc5, zc6]
          refine wpAnyZ_skipD [] 8 rfl (by kernel_rfl) (fun _ _ _ h => h) SS rfl ?_
          try simp only [zc1, zc2, zc3, Act.put, zc4, zc5, zc6]
          refine wpAnyZ_skipD [] 9 rfl (by kernel_rfl) (fun _ _ _ h => h) SS rfl ?_
          try simp only [zc1, zc2, zc3, Act.put, zc4, zc5, zc6]
          refine wpAnyZ_skipD [] 10 rfl (by kernel_rfl) (fun _ _ _ h => h) SS rfl ?_
          try simp only [zc1, zc2, zc3, Act.put, zc4, zc5, zc6]
          refine wpAnyZ_skipD [] 11 rfl (by kernel_rfl) (fun _ _ _ h => h) SS rfl ?_
          try simp only [zc1, zc2, zc3, Act.put, zc4, zc5, zc6]
          refine wpAnyZ_skipD [] 12 rfl (by kernel_rfl) (fun _ _ _ h => h) SS rfl ?_
          try simp only [zc1, zc2, zc3, Act.put, zc4, zc5, zc6]
          refine wpAnyZ_skipD [] 13 rfl (by kernel_rfl) (fun _ _ _ h => h) SS rfl ?_
          try simp only [zc1, zc2, zc3, Act.put, zc4, zc5, zc6]
          refine wpAnyZ_skipD [] 14 rfl (by kernel_rfl) (fun _ _ _ h => h) SS rfl ?_
          try simp only [zc1, zc2, zc3, Act.put, zc4, zc5, zc6]
          refine wpAnyZ_skipD [] 15 rfl (by kernel_rfl) (fun _ _ _ h => h) SS rfl ?_
          try simp only [zc1, zc2, zc3, Act.put, zc4, zc5, zc6]
          refine wpAnyZ_skipD [] 16 rfl (by kernel_rfl) (fun _ _ _ h => h) SS rfl ?_
          try simp only [zc1, zc2, zc3, Act.put, zc4, zc5, zc6]
          refine wpAnyZ_take [] 17 (.bool false) rfl (by kernel_rfl) (fun _ _ _ h => h) SS rfl (by rintro wz ⟨hz, hgz⟩; obtain ⟨z0, z1⟩ := hz.cell2; go_simp) ?_
          try simp only [zc1, zc2, zc3, Act.put, zc4, zc5, zc6]
          refine wpAnyZ_take [] 18 (.bool false) rfl (by kernel_rfl) (fun _ _ _ h => h) SS rfl (by rintro wz ⟨hz, hgz⟩; obtain ⟨z0, z1⟩ := hz.cell2; go_simp) ?_
          try simp only [zc1, zc2, zc3, Act.put, zc4, zc5, zc6]
          refine wpAnyZ_doneB (by kernel_rfl) ?_ _
          refine HK4.out _ _ ?_
          clear HK4
          refine wp_cond_false rfl ?_
          refine wp_skip ?_
          try simp only [Exit.inBlock, Exit.then]
          have HRN : Hid (rsB F s (i + 1) = true) := by show _ = _; rw [HST.out, HRS.out, hsp, decide_eq_true H0.out]; rfl
          refine HK2.out _ _ ?_
          clear HK2
          go_wp2
          go_roundw
          case rel => exact ⟨i + 1, by omega, by go_num, HRN, SS.2⟩
          case measure => simp [intOf] <;> omega
        · have l0 : (0 : Int) < (i : Int) := by omega
          have l0' : 0 < i := by omega
          obtain ⟨ii, hii⟩ : ∃ ii, i - 1 = ii := ⟨_, rfl⟩
          have hwi : IntKind.i64.wrap ((i : Int) - 1) = (ii : Int) := by rw [show (i : Int) - 1 = (ii : Int) by omega]; exact wrap_i64_in _ (by omega) (by omega)
          have lii : (ii : Int) < (m : Int) := by omega
          have lii2 : ii < m := by omega
          have hpr := fun wz hgz => HPR.out wz hgz (by omega)
          rw [hii] at hpr
          clear HPR
          have HPR : Hid _ := hpr
          have HII : Hid _ := hii
          have H0 : Hid _ := h0
          clear hii hpr h0
          by_cases hle : x ≤ pr
          · have hle2 : ¬ pr < x := by omega
            have Gd := grown_drew w2 none
            have SS : BxS w2.drew g6 82 #[.int .i64 x, .int .i64 y] ∧ w.grownBy w2.drew none := ⟨b62.keep Gd (by simp), grown_trans GG Gd⟩
            refine wp_regionL (fun wz => BxS wz g6 82 #[.int .i64 x, .int .i64 y] ∧ w.grownBy wz none) [] #[false, false, false, false, false, false, false, false, false, false, false, false, false, false, false, false, false, false, false] rfl (by kernel_rfl) ?_
            refine wpAnyZ_take [] 0 (.agg #[.int .i64 x, .int .i64 y]) rfl (by kernel_rfl) (fun _ _ _ h => h) SS rfl (by rintro wz ⟨hz, hgz⟩; obtain ⟨z0, z1⟩ := hz.cell2; go_simp) ?_
            try simp only [zc1, zc2, zc3, Act.put, zc4, zc5, zc6]
            refine wpAnyZ_take [] 1 (.int .i64 s) rfl (by kernel_rfl) (fun _ _ _ h => h) SS rfl (by rintro wz ⟨hz, hgz⟩; obtain ⟨z0, z1⟩ := hz.cell2; go_simp) ?_
            try simp only [zc1, zc2, zc3, Act.put, zc4, zc5, zc6]
            refine wpAnyZ_oneB 2 rfl (by kernel_rfl) (fun KK hKK => ?_)
            go_simp
            go_at_call 112
            refine (spanMay_any x y s _).mono ?_
            rintro e w3 ⟨rfl, y3⟩
            dsimp only
            rw [hsp]
            have SS : BxS w3 g6 82 #[.int .i64 x, .int .i64 y] ∧ w.grownBy w3 none := ⟨SS.1.keep y3 (by simp), grown_trans SS.2 y3⟩
            refine hKK _ _ (fun _ => SS) ?_
            try simp only [zc1, zc2, zc3, Act.put, zc4, zc5, zc6]
            refine wpAnyZ_take [] 3 (.bool false) rfl (by kernel_rfl) (fun _ _ _ h => h) SS rfl (by rintro wz ⟨hz, hgz⟩; obtain ⟨z0, z1⟩ := hz.cell2; go_simp) ?_
            try simp only [zc1, zc2, zc3, Act.put, zc4, zc5, zc6]
            refine wpAnyZ_take [] 4 (.bool false) rfl (by kernel_rfl) (fun _ _ _ h => h) SS rfl (by rintro wz ⟨hz, hgz⟩; obtain ⟨z0, z1⟩ := hz.cell2; go_simp) ?_
            try simp only [zc1, zc2, zc3, Act.put, zc4, zc5, zc6]
            refine wpAnyZ_take [] 5 (.int .i64 (i : Int)) rfl (by kernel_rfl) (fun _ _ _ h => h) SS rfl (by rintro wz ⟨hz, hgz⟩; obtain ⟨z0, z1⟩ := hz.cell2; go_simp) ?_
            try simp only [zc1, zc2, zc3, Act.put, zc4, zc5, zc6]
            refine wpAnyZ_take [] 6 (.bool true) rfl (by kernel_rfl) (fun _ _ _ h => h) SS rfl (by rintro wz ⟨hz, hgz⟩; obtain ⟨z0, z1⟩ := hz.cell2; go_simp) ?_
            try simp only [zc1, zc2, zc3, Act.put, zc4, zc5, zc6]
            refine wpAnyZ_take [] 7 (.bool true) rfl (by kernel_rfl) (fun _ _ _ h => h) SS rfl (by rintro wz ⟨hz, hgz⟩; obtain ⟨z0, z1⟩ := hz.cell2; go_simp) ?_
            try simp only [zc1, zc2, zc3, Act.put, zc4, zc5, zc6]
            refine wpAnyZ_take [] 8 (.pointer (some ⟨g6, 0, none⟩)) rfl (by kernel_rfl) (fun _ _ _ h => h) SS rfl (by rintro wz ⟨hz, hgz⟩; obtain ⟨z0, z1⟩ := hz.cell2; go_simp) ?_
            try simp only [zc1, zc2, zc3, Act.put, zc4, zc5, zc6]
            refine wpAnyZ_take [] 9 (.int .i64 x) rfl (by kernel_rfl) (fun _ _ _ h => h) SS rfl (by rintro wz ⟨hz, hgz⟩; obtain ⟨z0, z1⟩ := hz.cell2; go_simp) ?_
            try simp only [zc1, zc2, zc3, Act.put, zc4, zc5, zc6]
            refine wpAnyZ_take [] 10 (.slice (some ⟨b, off, none⟩) m d) rfl (by kernel_rfl) (fun _ _ _ h => h) SS rfl (by rintro wz ⟨hz, hgz⟩; obtain ⟨z0, z1⟩ := hz.cell2; go_simp) ?_
            try simp only [zc1, zc2, zc3, Act.put, zc4, zc5, zc6]
            refine wpAnyZ_take [] 11 (.int .i64 (i : Int)) rfl (by kernel_rfl) (fun _ _ _ h => h) SS rfl (by rintro wz ⟨hz, hgz⟩; obtain ⟨z0, z1⟩ := hz.cell2; go_simp) ?_
            try simp only [zc1, zc2, zc3, Act.put, zc4, zc5, zc6]
            refine wpAnyZ_take [] 12 (.int .i64 (ii : Int)) rfl (by kernel_rfl) (fun _ _ _ h => h) SS rfl (by rintro wz ⟨hz, hgz⟩; obtain ⟨z0, z1⟩ := hz.cell2; go_simp) ?_
            try simp only [zc1, zc2, zc3, Act.put, zc4, zc5, zc6]
            refine wpAnyZ_take [] 13 (.pointer (some ⟨b, off + ii * 2, none⟩)) rfl (by kernel_rfl) (fun _ _ _ h => h) SS rfl (by rintro wz ⟨hz, hgz⟩; obtain ⟨z0, z1⟩ := hz.cell2; go_simp) ?_
            try simp only [zc1, zc2, zc3, Act.put, zc4, zc5, zc6]
            refine wpAnyZ_take [] 14 (.pointer (some ⟨b, off + ii * 2 + 1, none⟩)) rfl (by kernel_rfl) (fun _ _ _ h => h) SS rfl (by rintro wz ⟨hz, hgz⟩; obtain ⟨z0, z1⟩ := hz.cell2; go_simp) ?_
            try simp only [zc1, zc2, zc3, Act.put, zc4, zc5, zc6]
            refine wpAnyZ_take [] 15 (.int .i64 pr) rfl (by kernel_rfl) (fun _ _ _ h => h) SS rfl (by rintro wz ⟨hz, hgz⟩; have z9 : wz.cell? ⟨b, off + ii * 2 + 1, none⟩ = some (.int .i64 pr) := HPR.out wz hgz; go_simp) ?_
            try simp only [zc1, zc2, zc3, Act.put, zc4, zc5, zc6]
            refine wpAnyZ_take [] 16 (.bool true) rfl (by kernel_rfl) (fun _ _ _ h => h) SS rfl (by rintro wz ⟨hz, hgz⟩; obtain ⟨z0, z1⟩ := hz.cell2; go_simp) ?_
            try simp only [zc1, zc2, zc3, Act.put, zc4, zc5, zc6]
            refine wpAnyZ_take [] 17 (.bool true) rfl (by kernel_rfl) (fun _ _ _ h => h) SS rfl (by rintro wz ⟨hz, hgz⟩; obtain ⟨z0, z1⟩ := hz.cell2; go_simp) ?_
            try simp only [zc1, zc2, zc3, Act.put, zc4, zc5, zc6]
            refine wpAnyZ_take [] 18 (.bool true) rfl (by kernel_rfl) (fun _ _ _ h => h) SS rfl (by rintro wz ⟨hz, hgz⟩; obtain ⟨z0, z1⟩ := hz.cell2; go_simp) ?_
            try simp only [zc1, zc2, zc3, Act.put, zc4, zc5, zc6]
            refine wpAnyZ_doneB (by kernel_rfl) ?_ _
            refine HK4.out _ _ ?_
            clear HK4
            refine wp_cond_true rfl ?_
            clear HK2
            go_wp2
            try simp only [Exit.inBlock, Exit.then]
            try go_ret
            refine ⟨?_, SS.2⟩
            rw [HNO.out (by rw [hsp, decide_eq_false H0.out, decide_eq_false (show ¬ pr < x by omega)]; rfl)]
            try rfl
          · have hle2 : pr < x := by omega
            have Gd := grown_drew w2 none
            have SS : BxS w2.drew g6 82 #[.int .i64 x, .int .i64 y] ∧ w.grownBy w2.drew none := ⟨b62.keep Gd (by simp), grown_trans GG Gd⟩
            refine wp_regionL (fun wz => BxS wz g6 82 #[.int .i64 x, .int .i64 y] ∧ w.grownBy wz none) [] #[false, false, false, false, false, false, false, false, false, false, false, false, false, false, false, false, false, false, false] rfl (by kernel_rfl) ?_
            refine wpAnyZ_take [] 0 (.agg #[.int .i64 x, .int .i64 y]) rfl (by kernel_rfl) (fun _ _ _ h => h) SS rfl (by rintro wz ⟨hz, hgz⟩; obtain ⟨z0, z1⟩ := hz.cell2; go_simp) ?_
            try simp only [zc1, zc2, zc3, Act.put, zc4, zc5, zc6]
            refine wpAnyZ_take [] 1 (.int .i64 s) rfl (by kernel_rfl) (fun _ _ _ h => h) SS rfl (by rintro wz ⟨hz, hgz⟩; obtain ⟨z0, z1⟩ := hz.cell2; go_simp) ?_
            try simp only [zc1, zc2, zc3, Act.put, zc4, zc5, zc6]
            refine wpAnyZ_oneB 2 rfl (by kernel_rfl) (fun KK hKK => ?_)
            go_simp
            go_at_call 112
            refine (spanMay_any x y s _).mono ?_
            rintro e w3 ⟨rfl, y3⟩
            dsimp only
            rw [hsp]
            have SS : BxS w3 g6 82 #[.int .i64 x, .int .i64 y] ∧ w.grownBy w3 none := ⟨SS.1.keep y3 (by simp), grown_trans SS.2 y3⟩
            refine hKK _ _ (fun _ => SS) ?_
            try simp only [zc1, zc2, zc3, Act.put, zc4, zc5, zc6]
            refine wpAnyZ_take [] 3 (.bool false) rfl (by kernel_rfl) (fun _ _ _ h => h) SS rfl (by rintro wz ⟨hz, hgz⟩; obtain ⟨z0, z1⟩ := hz.cell2; go_simp) ?_
            try simp only [zc1, zc2, zc3, Act.put, zc4, zc5, zc6]
            refine wpAnyZ_take [] 4 (.bool false) rfl (by kernel_rfl) (fun _ _ _ h => h) SS rfl (by rintro wz ⟨hz, hgz⟩; obtain ⟨z0, z1⟩ := hz.cell2; go_simp) ?_
            try simp only [zc1, zc2, zc3, Act.put, zc4, zc5, zc6]
            refine wpAnyZ_take [] 5 (.int .i64 (i : Int)) rfl (by kernel_rfl) (fun _ _ _ h => h) SS rfl (by rintro wz ⟨hz, hgz⟩; obtain ⟨z0, z1⟩ := hz.cell2; go_simp) ?_
            try simp only [zc1, zc2, zc3, Act.put, zc4, zc5, zc6]
            refine wpAnyZ_take [] 6 (.bool true) rfl (by kernel_rfl) (fun _ _ _ h => h) SS rfl (by rintro wz ⟨hz, hgz⟩; obtain ⟨z0, z1⟩ := hz.cell2; go_simp) ?_
            try simp only [zc1, zc2, zc3, Act.put, zc4, zc5, zc6]
            refine wpAnyZ_take [] 7 (.bool true) rfl (by kernel_rfl) (fun _ _ _ h => h) SS rfl (by rintro wz ⟨hz, hgz⟩; obtain ⟨z0, z1⟩ := hz.cell2; go_simp) ?_
            try simp only [zc1, zc2, zc3, Act.put, zc4, zc5, zc6]
            refine wpAnyZ_take [] 8 (.pointer (some ⟨g6, 0, none⟩)) rfl (by kernel_rfl) (fun _ _ _ h => h) SS rfl (by rintro wz ⟨hz, hgz⟩; obtain ⟨z0, z1⟩ := hz.cell2; go_simp) ?_
            try simp only [zc1, zc2, zc3, Act.put, zc4, zc5, zc6]
            refine wpAnyZ_take [] 9 (.int .i64 x) rfl (by kernel_rfl) (fun _ _ _ h => h) SS rfl (by rintro wz ⟨hz, hgz⟩; obtain ⟨z0, z1⟩ := hz.cell2; go_simp) ?_
            try simp only [zc1, zc2, zc3, Act.put, zc4, zc5, zc6]
            refine wpAnyZ_take [] 10 (.slice (some ⟨b, off, none⟩) m d) rfl (by kernel_rfl) (fun _ _ _ h => h) SS rfl (by rintro wz ⟨hz, hgz⟩; obtain ⟨z0, z1⟩ := hz.cell2; go_simp) ?_
            try simp only [zc1, zc2, zc3, Act.put, zc4, zc5, zc6]
            refine wpAnyZ_take [] 11 (.int .i64 (i : Int)) rfl (by kernel_rfl) (fun _ _ _ h => h) SS rfl (by rintro wz ⟨hz, hgz⟩; obtain ⟨z0, z1⟩ := hz.cell2; go_simp) ?_
            try simp only [zc1, zc2, zc3, Act.put, zc4, zc5, zc6]
            refine wpAnyZ_take [] 12 (.int .i64 (ii : Int)) rfl (by kernel_rfl) (fun _ _ _ h => h) SS rfl (by rintro wz ⟨hz, hgz⟩; obtain ⟨z0, z1⟩ := hz.cell2; go_simp) ?_
            try simp only [zc1, zc2, zc3, Act.put, zc4, zc5, zc6]
            refine wpAnyZ_take [] 13 (.pointer (some ⟨b, off + ii * 2, none⟩)) rfl (by kernel_rfl) (fun _ _ _ h => h) SS rfl (by rintro wz ⟨hz, hgz⟩; obtain ⟨z0, z1⟩ := hz.cell2; go_simp) ?_
            try simp only [zc1, zc2, zc3, Act.put, zc4, zc5, zc6]
            refine wpAnyZ_take [] 14 (.pointer (some ⟨b, off + ii * 2 + 1, none⟩)) rfl (by kernel_rfl) (fun _ _ _ h => h) SS rfl (by rintro wz ⟨hz, hgz⟩; obtain ⟨z0, z1⟩ := hz.cell2; go_simp) ?_
            try simp only [zc1, zc2, zc3, Act.put, zc4, zc5, zc6]
            refine wpAnyZ_take [] 15 (.int .i64 pr) rfl (by kernel_rfl) (fun _ _ _ h => h) SS rfl (by rintro wz ⟨hz, hgz⟩; have z9 : wz.cell? ⟨b, off + ii * 2 + 1, none⟩ = some (.int .i64 pr) := HPR.out wz hgz; go_simp) ?_
            try simp only [zc1, zc2, zc3, Act.put, zc4, zc5, zc6]
            refine wpAnyZ_take [] 16 (.bool false) rfl (by kernel_rfl) (fun _ _ _ h => h) SS rfl (by rintro wz ⟨hz, hgz⟩; obtain ⟨z0, z1⟩ := hz.cell2; go_simp) ?_
            try simp only [zc1, zc2, zc3, Act.put, zc4, zc5, zc6]
            refine wpAnyZ_take [] 17 (.bool false) rfl (by kernel_rfl) (fun _ _ _ h => h) SS rfl (by rintro wz ⟨hz, hgz⟩; obtain ⟨z0, z1⟩ := hz.cell2; go_simp) ?_
            try simp only [zc1, zc2, zc3, Act.put, zc4, zc5, zc6]
            refine wpAnyZ_take [] 18 (.bool false) rfl (by kernel_rfl) (fun _ _ _ h => h) SS rfl (by rintro wz ⟨hz, hgz⟩; obtain ⟨z0, z1⟩ := hz.cell2; go_simp) ?_
            try simp only [zc1, zc2, zc3, Act.put, zc4, zc5, zc6]
            refine wpAnyZ_doneB (by kernel_rfl) ?_ _
            refine HK4.out _ _ ?_
            clear HK4
            refine wp_cond_false rfl ?_
            refine wp_skip ?_
            try simp only [Exit.inBlock, Exit.then]
            have HRN : Hid (rsB F s (i + 1) = true) := by show _ = _; rw [HST.out, HRS.out, hsp, decide_eq_true hle2, Bool.or_true]; rfl
            refine HK2.out _ _ ?_
            clear HK2
            go_wp2
            go_roundw
            case rel => exact ⟨i + 1, by omega, by go_num, HRN, SS.2⟩
            case measure => simp [intOf] <;> omega
    · obtain rfl : i = m := by omega
      have li : ¬ (i : Int) < (i : Int) := by omega
      go_wp2
      try simp only [Exit.inBlock, Exit.then]
      refine HK1.out _ _ ?_
      clear HK1
      go_wp2
      try go_ret
      refine ⟨?_, Gr⟩
      rw [HRS.out]
      try rfl
end
end Go.Proofs.Ytnimehkfnpepfaa
