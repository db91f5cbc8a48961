import Derived.Test.YtnimehkfnpepfaaVDa
import Derived.Test.YtnimehkfnpepfaaZR
namespace Go.Proofs.Ytnimehkfnpepfaa
open Go.RowKit
set_option maxRecDepth 100000
set_option linter.unusedVariables false
set_option linter.unusedSimpArgs false

theorem or_add (x y k : Nat) (hx : x < 16777216) (hy : y < 2 ^ k) (hk : k ≤ 24) : bits .or .i64 ((x * 2 ^ k : Nat) : Int) (y : Int) = ((x * 2 ^ k + y : Nat) : Int) := by
  have h1 : 2 ^ k ≤ 2 ^ 24 := Nat.pow_le_pow_right (by decide) hk
  have h2 : x * 2 ^ k ≤ 16777216 * 2 ^ 24 := Nat.mul_le_mul (by omega) h1
  rw [i64_or_n _ _ (by omega) (by omega)]
  congr 1
  have h3 := Nat.shiftLeft_add_eq_or_of_lt hy x
  rw [Nat.shiftLeft_eq] at h3
  exact h3.symm
set_option maxHeartbeats 8000000 in
theorem four4_any (a : Option Addr) (n c : Nat) (D : List Nat) (w : World) (hD : Rd w a n c D) (h4 : 4 ≤ n) :
    Calls Try.prog 53 #[.slice a n c] w fun e w' => e = .returned (.int .i64 (hdV D 4 : Nat)) ∧ w.grownBy w' none := by
  obtain ⟨b, off, rfl, hb, hc⟩ := hD.at' (by omega)
  have hB := hD.byte
  have c0 := hc 0 (by omega)
  have c1 := hc 1 (by omega)
  have c2 := hc 2 (by omega)
  have c3 := hc 3 (by omega)
  have v0 := hB.nth 0
  have v1 := hB.nth 1
  have v2 := hB.nth 2
  have v3 := hB.nth 3
  have hV : hdV D 4 = ((nth D 0 * 256 + nth D 1) * 256 + nth D 2) * 256 + nth D 3 := by show (((0 * 256 + nth D 0) * 256 + nth D 1) * 256 + nth D 2) * 256 + nth D 3 = _; omega
  rw [hV]
  clear hV
  rw [Nat.add_zero] at c0
  generalize nth D 0 = x0 at *
  generalize nth D 1 = x1 at *
  generalize nth D 2 = x2 at *
  generalize nth D 3 = x3 at *
  have o1 : bits .or .i64 ((x0 : Int) * 16777216) ((x1 : Int) * 65536) = (x0 : Int) * 16777216 + (x1 : Int) * 65536 := by
    have h := or_add x0 (x1 * 65536) 24 (by omega) (by omega) (by omega)
    rw [show (x0 : Int) * 16777216 = ((x0 * 2 ^ 24 : Nat) : Int) by omega, show (x1 : Int) * 65536 = ((x1 * 65536 : Nat) : Int) by omega, h]
    omega
  have o2 : bits .or .i64 ((x0 : Int) * 16777216 + (x1 : Int) * 65536) ((x2 : Int) * 256) = (x0 : Int) * 16777216 + (x1 : Int) * 65536 + (x2 : Int) * 256 := by
    have h := or_add (x0 * 256 + x1) (x2 * 256) 16 (by omega) (by omega) (by omega)
    rw [show (x0 : Int) * 16777216 + (x1 : Int) * 65536 = (((x0 * 256 + x1) * 2 ^ 16 : Nat) : Int) by omega, show (x2 : Int) * 256 = ((x2 * 256 : Nat) : Int) by omega, h]
    omega
  have o3 : bits .or .i64 ((x0 : Int) * 16777216 + (x1 : Int) * 65536 + (x2 : Int) * 256) (x3 : Int) = (x0 : Int) * 16777216 + (x1 : Int) * 65536 + (x2 : Int) * 256 + (x3 : Int) := by
    have h := or_add ((x0 * 256 + x1) * 256 + x2) x3 8 (by omega) (by omega) (by omega)
    rw [show (x0 : Int) * 16777216 + (x1 : Int) * 65536 + (x2 : Int) * 256 = ((((x0 * 256 + x1) * 256 + x2) * 2 ^ 8 : Nat) : Int) by omega, h]
    omega
  have l0 : ¬ n = 0 := by omega
  have l1 : (1 : Int) < (n : Int) := by omega
  have l2 : (2 : Int) < (n : Int) := by omega
  have l3 : (3 : Int) < (n : Int) := by omega
  clear hc
  have z0 : IntKind.i64.wrap (x0 : Int) = (x0 : Int) := wrap_i64_in _ (by omega) (by omega)
  have z1 : IntKind.i64.wrap (x1 : Int) = (x1 : Int) := wrap_i64_in _ (by omega) (by omega)
  have z2 : IntKind.i64.wrap (x2 : Int) = (x2 : Int) := wrap_i64_in _ (by omega) (by omega)
  have z3 : IntKind.i64.wrap (x3 : Int) = (x3 : Int) := wrap_i64_in _ (by omega) (by omega)
  have z4 : IntKind.i64.wrap ((x0 : Int) * 16777216) = (x0 : Int) * 16777216 := wrap_i64_in _ (by omega) (by omega)
  have z5 : IntKind.i64.wrap ((x1 : Int) * 65536) = (x1 : Int) * 65536 := wrap_i64_in _ (by omega) (by omega)
  have z6 : IntKind.i64.wrap ((x2 : Int) * 256) = (x2 : Int) * 256 := wrap_i64_in _ (by omega) (by omega)
  go_enter Try.func53, Try.ntmps53
  refine wp_seq_k fun K1 hK1 => ?_
  have HK1 : Hid _ := hK1
  clear hK1
  go_wp2
  refine HK1.out _ _ ?_
  clear HK1
  refine wp_seq_k fun K2 hK2 => ?_
  have HK2 : Hid _ := hK2
  clear hK2
  have SS : w.drew.cell? ⟨b, off, none⟩ = some (.int .u8 (x0 : Int)) ∧ w.drew.cell? ⟨b, off + 1, none⟩ = some (.int .u8 (x1 : Int)) ∧ w.drew.cell? ⟨b, off + 2, none⟩ = some (.int .u8 (x2 : Int)) ∧ w.drew.cell? ⟨b, off + 3, none⟩ = some (.int .u8 (x3 : Int)) := ⟨c0, c1, c2, c3⟩
  refine wp_regionL (fun wz => wz.cell? ⟨b, off, none⟩ = some (.int .u8 (x0 : Int)) ∧ wz.cell? ⟨b, off + 1, none⟩ = some (.int .u8 (x1 : Int)) ∧ wz.cell? ⟨b, off + 2, none⟩ = some (.int .u8 (x2 : Int)) ∧ wz.cell? ⟨b, off + 3, none⟩ = some (.int .u8 (x3 : Int))) [] #[false, false, false, false, false, false, false, false, false, false, false, false, false, false, false, false, false, false, false, false, false, false, false] rfl (by kernel_rfl) ?_
  refine wpAnyZ_take [] 0 (.slice (some ⟨b, off, none⟩) n c) rfl (by kernel_rfl) (fun _ _ _ h => h) SS rfl (by intro wz hz; go_simp) ?_
  try simp only [List.getElem_toArray, List.getElem_cons_succ, List.getElem_cons_zero, Act.put, List.setIfInBounds_toArray, List.set_cons_zero, List.set_cons_succ]
  refine wpAnyZ_take [] 1 (.pointer (some ⟨b, off, none⟩)) rfl (by kernel_rfl) (fun _ _ _ h => h) SS rfl (by intro wz hz; go_simp) ?_
  try simp only [List.getElem_toArray, List.getElem_cons_succ, List.getElem_cons_zero, Act.put, List.setIfInBounds_toArray, List.set_cons_zero, List.set_cons_succ]
  refine wpAnyZ_take [] 2 (.int .u8 (x0 : Int)) rfl (by kernel_rfl) (fun _ _ _ h => h) SS rfl (by rintro wz ⟨q0, q1, q2, q3⟩; go_simp) ?_
  try simp only [List.getElem_toArray, List.getElem_cons_succ, List.getElem_cons_zero, Act.put, List.setIfInBounds_toArray, List.set_cons_zero, List.set_cons_succ]
  refine wpAnyZ_take [] 3 (.int .i64 ((x0 : Int))) rfl (by kernel_rfl) (fun _ _ _ h => h) SS rfl (by intro wz hz; go_simp) ?_
  try simp only [List.getElem_toArray, List.getElem_cons_succ, List.getElem_cons_zero, Act.put, List.setIfInBounds_toArray, List.set_cons_zero, List.set_cons_succ]
  refine wpAnyZ_take [] 4 (.int .i64 ((x0 : Int) * 16777216)) rfl (by kernel_rfl) (fun _ _ _ h => h) SS rfl (by intro wz hz; go_simp) ?_
  try simp only [List.getElem_toArray, List.getElem_cons_succ, List.getElem_cons_zero, Act.put, List.setIfInBounds_toArray, List.set_cons_zero, List.set_cons_succ]
  refine wpAnyZ_take [] 5 (.slice (some ⟨b, off, none⟩) n c) rfl (by kernel_rfl) (fun _ _ _ h => h) SS rfl (by intro wz hz; go_simp) ?_
  try simp only [List.getElem_toArray, List.getElem_cons_succ, List.getElem_cons_zero, Act.put, List.setIfInBounds_toArray, List.set_cons_zero, List.set_cons_succ]
  refine wpAnyZ_take [] 6 (.pointer (some ⟨b, off + 1, none⟩)) rfl (by kernel_rfl) (fun _ _ _ h => h) SS rfl (by intro wz hz; go_simp) ?_
  try simp only [List.getElem_toArray, List.getElem_cons_succ, List.getElem_cons_zero, Act.put, List.setIfInBounds_toArray, List.set_cons_zero, List.set_cons_succ]
  refine wpAnyZ_take [] 7 (.int .u8 (x1 : Int)) rfl (by kernel_rfl) (fun _ _ _ h => h) SS rfl (by rintro wz ⟨q0, q1, q2, q3⟩; go_simp) ?_
  try simp only [List.getElem_toArray, List.getElem_cons_succ, List.getElem_cons_zero, Act.put, List.setIfInBounds_toArray, List.set_cons_zero, List.set_cons_succ]
  refine wpAnyZ_take [] 8 (.int .i64 ((x1 : Int))) rfl (by kernel_rfl) (fun _ _ _ h => h) SS rfl (by intro wz hz; go_simp) ?_
  try simp only [List.getElem_toArray, List.getElem_cons_succ, List.getElem_cons_zero, Act.put, List.setIfInBounds_toArray, List.set_cons_zero, List.set_cons_succ]
  refine wpAnyZ_take [] 9 (.int .i64 ((x1 : Int) * 65536)) rfl (by kernel_rfl) (fun _ _ _ h => h) SS rfl (by intro wz hz; go_simp) ?_
  try simp only [List.getElem_toArray, List.getElem_cons_succ, List.getElem_cons_zero, Act.put, List.setIfInBounds_toArray, List.set_cons_zero, List.set_cons_succ]
  refine wpAnyZ_take [] 10 (.int .i64 ((x0 : Int) * 16777216 + (x1 : Int) * 65536)) rfl (by kernel_rfl) (fun _ _ _ h => h) SS rfl (by intro wz hz; go_simp) ?_
  try simp only [List.getElem_toArray, List.getElem_cons_succ, List.getElem_cons_zero, Act.put, List.setIfInBounds_toArray, List.set_cons_zero, List.set_cons_succ]
  refine wpAnyZ_take [] 11 (.slice (some ⟨b, off, none⟩) n c) rfl (by kernel_rfl) (fun _ _ _ h => h) SS rfl (by intro wz hz; go_simp) ?_
  try simp only [List.getElem_toArray, List.getElem_cons_succ, List.getElem_cons_zero, Act.put, List.setIfInBounds_toArray, List.set_cons_zero, List.set_cons_succ]
  refine wpAnyZ_take [] 12 (.pointer (some ⟨b, off + 2, none⟩)) rfl (by kernel_rfl) (fun _ _ _ h => h) SS rfl (by intro wz hz; go_simp) ?_
  try simp only [List.getElem_toArray, List.getElem_cons_succ, List.getElem_cons_zero, Act.put, List.setIfInBounds_toArray, List.set_cons_zero, List.set_cons_succ]
  refine wpAnyZ_take [] 13 (.int .u8 (x2 : Int)) rfl (by kernel_rfl) (fun _ _ _ h => h) SS rfl (by rintro wz ⟨q0, q1, q2, q3⟩; go_simp) ?_
  try simp only [List.getElem_toArray, List.getElem_cons_succ, List.getElem_cons_zero, Act.put, List.setIfInBounds_toArray, List.set_cons_zero, List.set_cons_succ]
  refine wpAnyZ_take [] 14 (.int .i64 ((x2 : Int))) rfl (by kernel_rfl) (fun _ _ _ h => h) SS rfl (by intro wz hz; go_simp) ?_
  try simp only [List.getElem_toArray, List.getElem_cons_succ, List.getElem_cons_zero, Act.put, List.setIfInBounds_toArray, List.set_cons_zero, List.set_cons_succ]
  refine wpAnyZ_take [] 15 (.int .i64 ((x2 : Int) * 256)) rfl (by kernel_rfl) (fun _ _ _ h => h) SS rfl (by intro wz hz; go_simp) ?_
  try simp only [List.getElem_toArray, List.getElem_cons_succ, List.getElem_cons_zero, Act.put, List.setIfInBounds_toArray, List.set_cons_zero, List.set_cons_succ]
  refine wpAnyZ_take [] 16 (.int .i64 ((x0 : Int) * 16777216 + (x1 : Int) * 65536 + (x2 : Int) * 256)) rfl (by kernel_rfl) (fun _ _ _ h => h) SS rfl (by intro wz hz; go_simp) ?_
  try simp only [List.getElem_toArray, List.getElem_cons_succ, List.getElem_cons_zero, Act.put, List.setIfInBounds_toArray, List.set_cons_zero, List.set_cons_succ]
  refine wpAnyZ_take [] 17 (.slice (some ⟨b, off, none⟩) n c) rfl (by kernel_rfl) (fun _ _ _ h => h) SS rfl (by intro wz hz; go_simp) ?_
  try simp only [List.getElem_toArray, List.getElem_cons_succ, List.getElem_cons_zero, Act.put, List.setIfInBounds_toArray, List.set_cons_zero, List.set_cons_succ]
  refine wpAnyZ_take [] 18 (.pointer (some ⟨b, off + 3, none⟩)) rfl (by kernel_rfl) (fun _ _ _ h => h) SS rfl (by intro wz hz; go_simp) ?_
  try simp only [List.getElem_toArray, List.getElem_cons_succ, List.getElem_cons_zero, Act.put, List.setIfInBounds_toArray, List.set_cons_zero, List.set_cons_succ]
  refine wpAnyZ_take [] 19 (.int .u8 (x3 : Int)) rfl (by kernel_rfl) (fun _ _ _ h => h) SS rfl (by rintro wz ⟨q0, q1, q2, q3⟩; go_simp) ?_
  try simp only [List.getElem_toArray, List.getElem_cons_succ, List.getElem_cons_zero, Act.put, List.setIfInBounds_toArray, List.set_cons_zero, List.set_cons_succ]
  refine wpAnyZ_take [] 20 (.int .i64 ((x3 : Int))) rfl (by kernel_rfl) (fun _ _ _ h => h) SS rfl (by intro wz hz; go_simp) ?_
  try simp only [List.getElem_toArray, List.getElem_cons_succ, List.getElem_cons_zero, Act.put, List.setIfInBounds_toArray, List.set_cons_zero, List.set_cons_succ]
  refine wpAnyZ_take [] 21 (.int .i64 ((x0 : Int) * 16777216 + (x1 : Int) * 65536 + (x2 : Int) * 256 + (x3 : Int))) rfl (by kernel_rfl) (fun _ _ _ h => h) SS rfl (by intro wz hz; go_simp) ?_
  try simp only [List.getElem_toArray, List.getElem_cons_succ, List.getElem_cons_zero, Act.put, List.setIfInBounds_toArray, List.set_cons_zero, List.set_cons_succ]
  refine wpAnyZ_take [] 22 (.int .i64 ((x0 : Int) * 16777216 + (x1 : Int) * 65536 + (x2 : Int) * 256 + (x3 : Int))) rfl (by kernel_rfl) (fun _ _ _ h => h) SS rfl (by intro wz hz; go_simp) ?_
  try simp only [List.getElem_toArray, List.getElem_cons_succ, List.getElem_cons_zero, Act.put, List.setIfInBounds_toArray, List.set_cons_zero, List.set_cons_succ]
  refine wpAnyZ_doneB (by kernel_rfl) ?_ _
  refine HK2.out _ _ ?_
  clear HK2
  go_wp2
  go_ret
  have hfin : ((((x0 * 256 + x1) * 256 + x2) * 256 + x3 : Nat) : Int) = (x0 : Int) * 16777216 + (x1 : Int) * 65536 + (x2 : Int) * 256 + (x3 : Int) := by omega
  rw [hfin]
  exact ⟨rfl, grown_drew w none⟩
end Go.Proofs.Ytnimehkfnpepfaa
