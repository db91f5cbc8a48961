import Derived.Test.YtnpkmjdlohdieaaUGu
namespace Go.Proofs.Ytnpkmjdlohdieaa
open Go.RowKit
set_option maxRecDepth 100000
set_option linter.unusedVariables false
set_option linter.unusedSimpArgs false
theorem eq_mo (m : Mo) (w : World) : (Op.equalIn 10000 51 (.agg #[.int .i64 m.of', .int .i64 m.lo, .int .i64 m.hi, .int .i64 m.fr, .int .i64 m.ti, .string m.th]) (.agg #[.int .i64 m.of', .int .i64 m.lo, .int .i64 m.hi, .int .i64 m.fr, .int .i64 m.ti, .string m.th])).run Try.prog w = .ok true w := by
  go_simp
set_option maxHeartbeats 8000000 in
theorem sameGuard_any (ma mb : Option Addr) (n mc md : Nat) (si mo wi : Int) (sa : ByteArray) (F : Nat → Mo) (w : World) (hM : RdM w ma n mc F) (hN : RdM w mb n md F) : Calls Try.prog 12 #[.agg #[.slice ma n mc, .int .i64 si, .int .i64 mo, .int .i64 wi, .string sa], .agg #[.slice mb n md, .int .i64 si, .int .i64 mo, .int .i64 wi, .string sa]] w fun e w' => e = .returned (.bool true) ∧ w.grownBy w' none := by
  have b0 := BxS.new w 24 #[.slice ma n mc, .int .i64 si, .int .i64 mo, .int .i64 wi, .string sa]
  have g0 := World.grownBy_alloc w (.cells #[.slice ma n mc, .int .i64 si, .int .i64 mo, .int .i64 wi, .string sa] 24) none
  generalize hw0 : w.alloc (.cells #[.slice ma n mc, .int .i64 si, .int .i64 mo, .int .i64 wi, .string sa] 24) = w0 at b0 g0
  have hz0 : w0.heap.size = w.heap.size + 1 := by rw [← hw0]; simp
  have b1 := BxS.new w0 24 #[.slice mb n md, .int .i64 si, .int .i64 mo, .int .i64 wi, .string sa]
  have g1 := World.grownBy_alloc w0 (.cells #[.slice mb n md, .int .i64 si, .int .i64 mo, .int .i64 wi, .string sa] 24) none
  generalize hw1 : w0.alloc (.cells #[.slice mb n md, .int .i64 si, .int .i64 mo, .int .i64 wi, .string sa] 24) = w1 at b1 g1
  rw [hz0] at b1
  have b01 := b0.keep g1 (by simp)
  have G1 := grown_trans g0 g1
  obtain ⟨c0, c1, c2, c3, c4⟩ := b01.cell5
  obtain ⟨d0, d1, d2, d3, d4⟩ := b1.cell5
  have hm1 := hM.le
  have hm2 := hM.max
  unfold maxLen at hm2
  clear b0
  go_enter Try.func12, Try.ntmps12
  go_wp2
  go_loopw [5] (fun i wr => ∃ k : Nat, k ≤ n ∧ i = .int .i64 k ∧ w1.grownBy wr none) (fun i _ => n - (intOf i).toNat)
  case atStart => exact ⟨0, by omega, rfl, World.grownBy.refl _ _⟩
  case round =>
    obtain ⟨k, hk, rfl, hgr⟩ := hrel
    clear c0 c1 c2 c3 c4 d0 d1 d2 d3 d4
    obtain ⟨c0, c1, c2, c3, c4⟩ := (b01.keep hgr (by simp)).cell5
    obtain ⟨d0, d1, d2, d3, d4⟩ := (b1.keep hgr (by simp)).cell5
    by_cases hlt : k < n
    · have hlt' : (k : Int) < (n : Int) := by omega
      have hltt : k < n := hlt
      obtain ⟨b, off, rfl, hbw, _⟩ := hM.at' (by omega)
      obtain ⟨b', off', rfl, hbw', _⟩ := hN.at' (by omega)
      obtain ⟨k0, k1, k2, k3, k4, k5⟩ := ((hM.keep G1).keep hgr).six k hlt
      obtain ⟨l0, l1, l2, l3, l4, l5⟩ := ((hN.keep G1).keep hgr).six k hlt
      have he := eq_mo (F k)
      have hnn : (0 : Int) ≤ (k : Int) := by omega
      generalize F k = m at *
      clear hM hN
      go_wp2
      refine wp_regionL (fun wz => wz.cell? ⟨w.heap.size, 0, none⟩ = some (.slice (some ⟨b, off, none⟩) n mc) ∧ wz.cell? ⟨w.heap.size + 1, 0, none⟩ = some (.slice (some ⟨b', off', none⟩) n md) ∧ wz.cell? ⟨b, off + k * 6, none⟩ = some (.int .i64 m.of') ∧ wz.cell? ⟨b, off + k * 6 + 1, none⟩ = some (.int .i64 m.lo) ∧ wz.cell? ⟨b, off + k * 6 + 2, none⟩ = some (.int .i64 m.hi) ∧ wz.cell? ⟨b, off + k * 6 + 3, none⟩ = some (.int .i64 m.fr) ∧ wz.cell? ⟨b, off + k * 6 + 4, none⟩ = some (.int .i64 m.ti) ∧ wz.cell? ⟨b, off + k * 6 + 5, none⟩ = some (.string m.th) ∧ wz.cell? ⟨b', off' + k * 6, none⟩ = some (.int .i64 m.of') ∧ wz.cell? ⟨b', off' + k * 6 + 1, none⟩ = some (.int .i64 m.lo) ∧ wz.cell? ⟨b', off' + k * 6 + 2, none⟩ = some (.int .i64 m.hi) ∧ wz.cell? ⟨b', off' + k * 6 + 3, none⟩ = some (.int .i64 m.fr) ∧ wz.cell? ⟨b', off' + k * 6 + 4, none⟩ = some (.int .i64 m.ti) ∧ wz.cell? ⟨b', off' + k * 6 + 5, none⟩ = some (.string m.th)) [] #[false, false, false, false, false, false, false, false, false, false, false] rfl (by kernel_rfl) ?_
      refine wpAnyZ_take [] 0 (.pointer (some ⟨w.heap.size, 0, none⟩)) rfl (by kernel_rfl) (fun _ _ _ h => h) ⟨c0, d0, k0, k1, k2, k3, k4, k5, l0, l1, l2, l3, l4, l5⟩ rfl (by rintro wz ⟨zc0, zd0, zk0, zk1, zk2, zk3, zk4, zk5, zl0, zl1, zl2, zl3, zl4, zl5⟩; go_simp) ?_
      try simp only [List.getElem_toArray, List.getElem_cons_succ, List.getElem_cons_zero, Act.put, List.setIfInBounds_toArray, List.set_cons_zero, List.set_cons_succ]
      refine wpAnyZ_take [] 1 (.slice (some ⟨b, off, none⟩) n mc) rfl (by kernel_rfl) (fun _ _ _ h => h) ⟨c0, d0, k0, k1, k2, k3, k4, k5, l0, l1, l2, l3, l4, l5⟩ rfl (by rintro wz ⟨zc0, zd0, zk0, zk1, zk2, zk3, zk4, zk5, zl0, zl1, zl2, zl3, zl4, zl5⟩; go_simp) ?_
      try simp only [List.getElem_toArray, List.getElem_cons_succ, List.getElem_cons_zero, Act.put, List.setIfInBounds_toArray, List.set_cons_zero, List.set_cons_succ]
      refine wpAnyZ_take [] 2 (.int .i64 (k : Int)) rfl (by kernel_rfl) (fun _ _ _ h => h) ⟨c0, d0, k0, k1, k2, k3, k4, k5, l0, l1, l2, l3, l4, l5⟩ rfl (by rintro wz ⟨zc0, zd0, zk0, zk1, zk2, zk3, zk4, zk5, zl0, zl1, zl2, zl3, zl4, zl5⟩; go_simp) ?_
      try simp only [List.getElem_toArray, List.getElem_cons_succ, List.getElem_cons_zero, Act.put, List.setIfInBounds_toArray, List.set_cons_zero, List.set_cons_succ]
      refine wpAnyZ_take [] 3 (.pointer (some ⟨b, off + k * 6, none⟩)) rfl (by kernel_rfl) (fun _ _ _ h => h) ⟨c0, d0, k0, k1, k2, k3, k4, k5, l0, l1, l2, l3, l4, l5⟩ rfl (by rintro wz ⟨zc0, zd0, zk0, zk1, zk2, zk3, zk4, zk5, zl0, zl1, zl2, zl3, zl4, zl5⟩; go_simp) ?_
      try simp only [List.getElem_toArray, List.getElem_cons_succ, List.getElem_cons_zero, Act.put, List.setIfInBounds_toArray, List.set_cons_zero, List.set_cons_succ]
      refine wpAnyZ_take [] 4 (.agg #[.int .i64 m.of', .int .i64 m.lo, .int .i64 m.hi, .int .i64 m.fr, .int .i64 m.ti, .string m.th]) rfl (by kernel_rfl) (fun _ _ _ h => h) ⟨c0, d0, k0, k1, k2, k3, k4, k5, l0, l1, l2, l3, l4, l5⟩ rfl (by rintro wz ⟨zc0, zd0, zk0, zk1, zk2, zk3, zk4, zk5, zl0, zl1, zl2, zl3, zl4, zl5⟩; go_simp) ?_
      try simp only [List.getElem_toArray, List.getElem_cons_succ, List.getElem_cons_zero, Act.put, List.setIfInBounds_toArray, List.set_cons_zero, List.set_cons_succ]
      refine wpAnyZ_take [] 5 (.pointer (some ⟨w.heap.size + 1, 0, none⟩)) rfl (by kernel_rfl) (fun _ _ _ h => h) ⟨c0, d0, k0, k1, k2, k3, k4, k5, l0, l1, l2, l3, l4, l5⟩ rfl (by rintro wz ⟨zc0, zd0, zk0, zk1, zk2, zk3, zk4, zk5, zl0, zl1, zl2, zl3, zl4, zl5⟩; go_simp) ?_
      try simp only [List.getElem_toArray, List.getElem_cons_succ, List.getElem_cons_zero, Act.put, List.setIfInBounds_toArray, List.set_cons_zero, List.set_cons_succ]
      refine wpAnyZ_take [] 6 (.slice (some ⟨b', off', none⟩) n md) rfl (by kernel_rfl) (fun _ _ _ h => h) ⟨c0, d0, k0, k1, k2, k3, k4, k5, l0, l1, l2, l3, l4, l5⟩ rfl (by rintro wz ⟨zc0, zd0, zk0, zk1, zk2, zk3, zk4, zk5, zl0, zl1, zl2, zl3, zl4, zl5⟩; go_simp) ?_
      try simp only [List.getElem_toArray, List.getElem_cons_succ, List.getElem_cons_zero, Act.put, List.setIfInBounds_toArray, List.set_cons_zero, List.set_cons_succ]
      refine wpAnyZ_take [] 7 (.int .i64 (k : Int)) rfl (by kernel_rfl) (fun _ _ _ h => h) ⟨c0, d0, k0, k1, k2, k3, k4, k5, l0, l1, l2, l3, l4, l5⟩ rfl (by rintro wz ⟨zc0, zd0, zk0, zk1, zk2, zk3, zk4, zk5, zl0, zl1, zl2, zl3, zl4, zl5⟩; go_simp) ?_
      try simp only [List.getElem_toArray, List.getElem_cons_succ, List.getElem_cons_zero, Act.put, List.setIfInBounds_toArray, List.set_cons_zero, List.set_cons_succ]
      refine wpAnyZ_take [] 8 (.pointer (some ⟨b', off' + k * 6, none⟩)) rfl (by kernel_rfl) (fun _ _ _ h => h) ⟨c0, d0, k0, k1, k2, k3, k4, k5, l0, l1, l2, l3, l4, l5⟩ rfl (by rintro wz ⟨zc0, zd0, zk0, zk1, zk2, zk3, zk4, zk5, zl0, zl1, zl2, zl3, zl4, zl5⟩; go_simp) ?_
      try simp only [List.getElem_toArray, List.getElem_cons_succ, List.getElem_cons_zero, Act.put, List.setIfInBounds_toArray, List.set_cons_zero, List.set_cons_succ]
      refine wpAnyZ_take [] 9 (.agg #[.int .i64 m.of', .int .i64 m.lo, .int .i64 m.hi, .int .i64 m.fr, .int .i64 m.ti, .string m.th]) rfl (by kernel_rfl) (fun _ _ _ h => h) ⟨c0, d0, k0, k1, k2, k3, k4, k5, l0, l1, l2, l3, l4, l5⟩ rfl (by rintro wz ⟨zc0, zd0, zk0, zk1, zk2, zk3, zk4, zk5, zl0, zl1, zl2, zl3, zl4, zl5⟩; go_simp) ?_
      try simp only [List.getElem_toArray, List.getElem_cons_succ, List.getElem_cons_zero, Act.put, List.setIfInBounds_toArray, List.set_cons_zero, List.set_cons_succ]
      refine wpAnyZ_take [] 10 (.bool false) rfl (by kernel_rfl) (fun _ _ _ h => h) ⟨c0, d0, k0, k1, k2, k3, k4, k5, l0, l1, l2, l3, l4, l5⟩ rfl (by rintro wz ⟨zc0, zd0, zk0, zk1, zk2, zk3, zk4, zk5, zl0, zl1, zl2, zl3, zl4, zl5⟩; have hez := he wz; go_simp) ?_
      try simp only [List.getElem_toArray, List.getElem_cons_succ, List.getElem_cons_zero, Act.put, List.setIfInBounds_toArray, List.set_cons_zero, List.set_cons_succ]
      refine wpAnyZ_doneB (by kernel_rfl) ?_ _
      go_wp2
      go_roundw
      case rel => exact ⟨k + 1, by omega, by go_num, grown_trans hgr (grown_drew _ _)⟩
      case measure => simp [intOf]; omega
    · have hlt' : ¬ (k : Int) < (n : Int) := by omega
      go_wp2
      go_ret
      exact ⟨rfl, grown_trans G1 hgr⟩
end Go.Proofs.Ytnpkmjdlohdieaa
