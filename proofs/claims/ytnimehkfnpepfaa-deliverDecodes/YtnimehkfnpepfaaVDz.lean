import Derived.Test.YtnimehkfnpepfaaVDv
import Derived.Test.YtnimehkfnpepfaaVDw
import Derived.Test.YtnimehkfnpepfaaVDx
import Derived.Test.YtnimehkfnpepfaaVDy
import Derived.Test.YtnimehkfnpepfaaVDt
import Derived.Test.YtnimehkfnpepfaaVNm
import Derived.Test.YtnimehkfnpepfaaZSub
namespace Go.Proofs.Ytnimehkfnpepfaa
open Go.RowKit
set_option maxRecDepth 100000
set_option linter.unusedVariables false
set_option linter.unusedSimpArgs false

theorem cell_keepN {w w' : World} {b i : Nat} {v : Value} (h : w.cell? ⟨b, i, none⟩ = some v) (hg : w.grownBy w' none) : w'.cell? ⟨b, i, none⟩ = some v := hg.cell h (by simp)

/-- what the document answers -/
def docN (D : List Nat) : Option Nd := if D.length < 4 then none else docK (nth D 0) (nth D 1 * 256 + nth D 2) (D.drop 3)
set_option maxHeartbeats 16000000 in
theorem rnote_any (a : Option Addr) (n cap : Nat) (D : List Nat) (w : World) (hD : Rd w a n cap D) (hn : n ≤ 140737488351232) :
    Calls Try.prog 17 #[.slice a n cap] w (DocP w (docN D)) := by
  have hlen := hD.len
  have hle := hD.le
  have hmx := hD.max
  unfold maxLen at hmx
  have b2 := BxS.new w 27 #[.int .i64 0, .int .i64 0, .string ⟨#[]⟩, .int .i64 0, .int .i64 0, .int .i64 0, .slice none 0 0, .slice none 0 0, .int .i64 0, .int .i64 0]
  have y1 := World.grownBy_alloc w (.cells #[.int .i64 0, .int .i64 0, .string ⟨#[]⟩, .int .i64 0, .int .i64 0, .int .i64 0, .slice none 0 0, .slice none 0 0, .int .i64 0, .int .i64 0] 27) none
  generalize hw1 : w.alloc (.cells #[.int .i64 0, .int .i64 0, .string ⟨#[]⟩, .int .i64 0, .int .i64 0, .int .i64 0, .slice none 0 0, .slice none 0 0, .int .i64 0, .int .i64 0] 27) = w1 at b2 y1
  have i10 := Try.info_nt
  by_cases h4 : n < 4
  · have d4 : (n : Int) < 4 := by omega
    rw [show docN D = none from by unfold docN; rw [if_pos (by omega)]]
    have s0 : True := trivial
    go_enter Try.func17, Try.ntmps17
    go_wp2_with (have _t := s0; clear s0; refine wpList_stX _ rfl _ (.tmp 2) (.tmp 10) rfl w.heap.size _ _ rfl rfl b2 i10 rfl (by simp [Value.oneCell']) ?_; intro w6 b26 u6)
    refine bodyPost_ret (results_cell1t rfl _ _ _ ⟨w.heap.size, 0, none⟩ _ (.int .i64 8) rfl (BxS.load (t := 27) b26 Try.underlying27 Try.info_nt) rfl) rfl ?_
    exact ⟨rfl, grown_far y1 u6 (fun q e => by have e := Option.some.inj e; omega)⟩
  · have d4 : ¬ (n : Int) < 4 := by omega
    rw [show docN D = docK (nth D 0) (nth D 1 * 256 + nth D 2) (D.drop 3) from by unfold docN; rw [if_neg (by omega)]]
    obtain ⟨b, off, rfl, hb, hc⟩ := (hD.keep y1).at' (by omega)
    have hB := hD.byte
    have c0 := hc 0 (by omega)
    have c1 := hc 1 (by omega)
    have c2 := hc 2 (by omega)
    have v0 := hB.nth 0
    have v1 := hB.nth 1
    have v2 := hB.nth 2
    rw [Nat.add_zero] at c0
    have hC : Rd w (some ⟨b, off + 3, none⟩) (n - 3) (cap - 3) (D.drop 3) := by have h := hD.beh (k := 3) (by omega); rw [if_neg (by omega)] at h; exact h
    generalize nth D 0 = x0 at *
    generalize nth D 1 = x1 at *
    generalize nth D 2 = x2 at *
    generalize D.drop 3 = cs at hC ⊢
    have o1 : bits .or .i64 ((x1 : Int) * 256) (x2 : Int) = ((x1 * 256 + x2 : Nat) : Int) := or_256 x1 x2 (by omega) v2
    obtain ⟨id, hid⟩ : ∃ id, x1 * 256 + x2 = id := ⟨_, rfl⟩
    rw [hid] at o1 ⊢
    have hidb : id ≤ 65535 := by omega
    have HID : Hid _ := hid
    clear hid hc
    have z0 : IntKind.i64.wrap (x0 : Int) = (x0 : Int) := wrap_i64_in _ (by omega) (by omega)
    have z1 : IntKind.i64.wrap (x1 : Int) = (x1 : Int) := wrap_i64_in _ (by omega) (by omega)
    have z2 : IntKind.i64.wrap (x2 : Int) = (x2 : Int) := wrap_i64_in _ (by omega) (by omega)
    have z5 : IntKind.i64.wrap ((x1 : Int) * 256) = (x1 : Int) * 256 := wrap_i64_in _ (by omega) (by omega)
    have l0 : ¬ n = 0 := by omega
    have l1 : (1 : Int) < (n : Int) := by omega
    have l2 : (2 : Int) < (n : Int) := by omega
    go_enter Try.func17, Try.ntmps17
    refine wp_seq_k fun K1 hK1 => ?_
    have HK1 : Hid _ := hK1
    clear hK1
    go_wp2
    refine HK1.out _ _ ?_
    clear HK1
    refine wp_seq_k fun K2 hK2 => ?_
    have HK2 : Hid _ := hK2
    clear hK2
    go_wp2
    refine HK2.out _ _ ?_
    clear HK2
    refine wp_seq_k fun K3 hK3 => ?_
    have HK3 : Hid _ := hK3
    clear hK3
    have SS : w1.drew.cell? ⟨b, off, none⟩ = some (.int .u8 (x0 : Int)) ∧ w1.drew.cell? ⟨b, off + 1, none⟩ = some (.int .u8 (x1 : Int)) ∧ w1.drew.cell? ⟨b, off + 2, none⟩ = some (.int .u8 (x2 : Int)) := ⟨c0, c1, c2⟩
    refine wp_regionL (fun wz => wz.cell? ⟨b, off, none⟩ = some (.int .u8 (x0 : Int)) ∧ wz.cell? ⟨b, off + 1, none⟩ = some (.int .u8 (x1 : Int)) ∧ wz.cell? ⟨b, off + 2, none⟩ = some (.int .u8 (x2 : Int))) [16] #[false, false, false, false, false, false, false, false, false, false, false, false, false, false, false, false, false] rfl (by kernel_rfl) ?_
    refine wpAnyZ_take [16] 0 (.slice (some ⟨b, off, none⟩) n cap) rfl (by kernel_rfl) (fun _ _ _ h => h) SS rfl (by intro wz hz; go_simp) ?_
    try simp only [List.getElem_toArray, List.getElem_cons_succ, List.getElem_cons_zero, Act.put, List.setIfInBounds_toArray, List.set_cons_zero, List.set_cons_succ]
    refine wpAnyZ_take [16] 1 (.pointer (some ⟨b, off, none⟩)) rfl (by kernel_rfl) (fun _ _ _ h => h) SS rfl (by intro wz hz; go_simp) ?_
    try simp only [List.getElem_toArray, List.getElem_cons_succ, List.getElem_cons_zero, Act.put, List.setIfInBounds_toArray, List.set_cons_zero, List.set_cons_succ]
    refine wpAnyZ_take [16] 2 (.int .u8 (x0 : Int)) rfl (by kernel_rfl) (fun _ _ _ h => h) SS rfl (by rintro wz ⟨q0, q1, q2⟩; go_simp) ?_
    try simp only [List.getElem_toArray, List.getElem_cons_succ, List.getElem_cons_zero, Act.put, List.setIfInBounds_toArray, List.set_cons_zero, List.set_cons_succ]
    refine wpAnyZ_take [16] 3 (.int .i64 (x0 : Int)) rfl (by kernel_rfl) (fun _ _ _ h => h) SS rfl (by intro wz hz; go_simp) ?_
    try simp only [List.getElem_toArray, List.getElem_cons_succ, List.getElem_cons_zero, Act.put, List.setIfInBounds_toArray, List.set_cons_zero, List.set_cons_succ]
    refine wpAnyZ_take [16] 4 (.slice (some ⟨b, off, none⟩) n cap) rfl (by kernel_rfl) (fun _ _ _ h => h) SS rfl (by intro wz hz; go_simp) ?_
    try simp only [List.getElem_toArray, List.getElem_cons_succ, List.getElem_cons_zero, Act.put, List.setIfInBounds_toArray, List.set_cons_zero, List.set_cons_succ]
    refine wpAnyZ_take [16] 5 (.pointer (some ⟨b, off + 1, none⟩)) rfl (by kernel_rfl) (fun _ _ _ h => h) SS rfl (by intro wz hz; go_simp) ?_
    try simp only [List.getElem_toArray, List.getElem_cons_succ, List.getElem_cons_zero, Act.put, List.setIfInBounds_toArray, List.set_cons_zero, List.set_cons_succ]
    refine wpAnyZ_take [16] 6 (.int .u8 (x1 : Int)) rfl (by kernel_rfl) (fun _ _ _ h => h) SS rfl (by rintro wz ⟨q0, q1, q2⟩; go_simp) ?_
    try simp only [List.getElem_toArray, List.getElem_cons_succ, List.getElem_cons_zero, Act.put, List.setIfInBounds_toArray, List.set_cons_zero, List.set_cons_succ]
    refine wpAnyZ_take [16] 7 (.int .i64 (x1 : Int)) rfl (by kernel_rfl) (fun _ _ _ h => h) SS rfl (by intro wz hz; go_simp) ?_
    try simp only [List.getElem_toArray, List.getElem_cons_succ, List.getElem_cons_zero, Act.put, List.setIfInBounds_toArray, List.set_cons_zero, List.set_cons_succ]
    refine wpAnyZ_take [16] 8 (.int .i64 ((x1 : Int) * 256)) rfl (by kernel_rfl) (fun _ _ _ h => h) SS rfl (by intro wz hz; go_simp) ?_
    try simp only [List.getElem_toArray, List.getElem_cons_succ, List.getElem_cons_zero, Act.put, List.setIfInBounds_toArray, List.set_cons_zero, List.set_cons_succ]
    refine wpAnyZ_take [16] 9 (.slice (some ⟨b, off, none⟩) n cap) rfl (by kernel_rfl) (fun _ _ _ h => h) SS rfl (by intro wz hz; go_simp) ?_
    try simp only [List.getElem_toArray, List.getElem_cons_succ, List.getElem_cons_zero, Act.put, List.setIfInBounds_toArray, List.set_cons_zero, List.set_cons_succ]
    refine wpAnyZ_take [16] 10 (.pointer (some ⟨b, off + 2, none⟩)) rfl (by kernel_rfl) (fun _ _ _ h => h) SS rfl (by intro wz hz; go_simp) ?_
    try simp only [List.getElem_toArray, List.getElem_cons_succ, List.getElem_cons_zero, Act.put, List.setIfInBounds_toArray, List.set_cons_zero, List.set_cons_succ]
    refine wpAnyZ_take [16] 11 (.int .u8 (x2 : Int)) rfl (by kernel_rfl) (fun _ _ _ h => h) SS rfl (by rintro wz ⟨q0, q1, q2⟩; go_simp) ?_
    try simp only [List.getElem_toArray, List.getElem_cons_succ, List.getElem_cons_zero, Act.put, List.setIfInBounds_toArray, List.set_cons_zero, List.set_cons_succ]
    refine wpAnyZ_take [16] 12 (.int .i64 (x2 : Int)) rfl (by kernel_rfl) (fun _ _ _ h => h) SS rfl (by intro wz hz; go_simp) ?_
    try simp only [List.getElem_toArray, List.getElem_cons_succ, List.getElem_cons_zero, Act.put, List.setIfInBounds_toArray, List.set_cons_zero, List.set_cons_succ]
    refine wpAnyZ_take [16] 13 (.int .i64 (id : Int)) rfl (by kernel_rfl) (fun _ _ _ h => h) SS rfl (by intro wz hz; go_simp) ?_
    try simp only [List.getElem_toArray, List.getElem_cons_succ, List.getElem_cons_zero, Act.put, List.setIfInBounds_toArray, List.set_cons_zero, List.set_cons_succ]
    refine wpAnyZ_take [16] 14 (.agg #[.int .i64 (x0 : Int), .int .i64 (id : Int), .string ⟨#[]⟩, .int .i64 0, .int .i64 0, .int .i64 0, .slice none 0 0, .slice none 0 0, .int .i64 0, .int .i64 0]) rfl (by kernel_rfl) (fun _ _ _ h => h) SS rfl (by intro wz hz; go_simp) ?_
    try simp only [List.getElem_toArray, List.getElem_cons_succ, List.getElem_cons_zero, Act.put, List.setIfInBounds_toArray, List.set_cons_zero, List.set_cons_succ]
    have Gd := grown_drew w1 none
    have b2d := b2.keep Gd (by simp)
    have G2 := grown_trans y1 Gd
    have hb2 : b < w1.drew.heap.size := Nat.lt_of_lt_of_le hb Gd.size
    generalize w1.drew = w2 at *
    have b4 := BxS.new w2 27 #[.int .i64 0, .int .i64 0, .string ⟨#[]⟩, .int .i64 0, .int .i64 0, .int .i64 0, .slice none 0 0, .slice none 0 0, .int .i64 0, .int .i64 0]
    have y3 := World.grownBy_alloc w2 (.cells #[.int .i64 0, .int .i64 0, .string ⟨#[]⟩, .int .i64 0, .int .i64 0, .int .i64 0, .slice none 0 0, .slice none 0 0, .int .i64 0, .int .i64 0] 27) none
    refine wpAnyZ_oneB 15 rfl (by kernel_rfl) (fun KK hKK => ?_)
    go_simp
    refine hKK _ _ (fun _ => ⟨cell_keepN SS.1 y3, cell_keepN SS.2.1 y3, cell_keepN SS.2.2 y3⟩) ?_
    try simp only [List.getElem_toArray, List.getElem_cons_succ, List.getElem_cons_zero, Act.put, List.setIfInBounds_toArray, List.set_cons_zero, List.set_cons_succ]
    have b23 := b2d.keep y3 (by simp)
    have hl2 := b2d.lt
    have G3 := grown_trans G2 y3
    generalize w2.alloc (.cells #[.int .i64 0, .int .i64 0, .string ⟨#[]⟩, .int .i64 0, .int .i64 0, .int .i64 0, .slice none 0 0, .slice none 0 0, .int .i64 0, .int .i64 0] 27) = w3 at *
    refine wpAnyZ_oneB 16 rfl (by kernel_rfl) (fun KK hKK => ?_)
    refine step_stX _ rfl _ _ _ rfl w2.heap.size _ _ rfl rfl b4 i10 rfl (by simp [Value.oneCell']) ?_
    intro w5 b45 u5
    refine hKK _ _ (fun h => absurd (by decide) h) ?_
    try simp only [List.getElem_toArray, List.getElem_cons_succ, List.getElem_cons_zero, Act.put, List.setIfInBounds_toArray, List.set_cons_zero, List.set_cons_succ]
    refine wpAnyZ_doneB (by kernel_rfl) ?_ _
    have z9 := G2.size
    have hne : w.heap.size ≠ w2.heap.size := by omega
    have b25 := b23.keep u5 (fun e => hne (Option.some.inj e))
    have G5 := grown_far G3 u5 (fun q e => by have e := Option.some.inj e; omega)
    obtain ⟨g4, hg4⟩ : ∃ g4, w2.heap.size = g4 := ⟨_, rfl⟩
    have h4 : w.heap.size ≤ g4 := by omega
    rw [hg4] at b45 hne ⊢
    refine HK3.out _ _ ?_
    clear HK3
    have d3 : (3 : Int) ≤ (cap : Int) := by omega
    have d5 : (3 : Int) ≤ (n : Int) := by omega
    have d6 : ¬ cap = 3 := by omega
    refine wp_seq_k fun K4 hK4 => ?_
    have HK4 : Hid _ := hK4
    clear hK4
    go_wp2
    refine HK4.out _ _ ?_
    clear HK4
    by_cases e1 : x0 = 1
    · subst e1
      by_cases hl : n - 3 < 4
      · exact no_s1 w5 w w.heap.size g4 id b (off + 3) (n - 3) (cap - 3) cs hC b45 b25 hne (Nat.le_refl _) h4 G5 (by omega) (by omega) hl
      · exact no_k1 w5 w w.heap.size g4 id b (off + 3) (n - 3) (cap - 3) cs hC b45 b25 hne (Nat.le_refl _) h4 G5 (by omega) (by omega) hl
    by_cases e2 : x0 = 2
    · subst e2
      by_cases hl : n - 3 < 4
      · exact no_s2 w5 w w.heap.size g4 id b (off + 3) (n - 3) (cap - 3) cs hC b45 b25 hne (Nat.le_refl _) h4 G5 (by omega) (by omega) hl
      · exact no_k2 w5 w w.heap.size g4 id b (off + 3) (n - 3) (cap - 3) cs hC b45 b25 hne (Nat.le_refl _) h4 G5 (by omega) (by omega) hl
    by_cases e3 : x0 = 3
    · subst e3
      by_cases hl : n - 3 = 8
      · exact no_k3 w5 w w.heap.size g4 id b (off + 3) (n - 3) (cap - 3) cs hC b45 b25 hne (Nat.le_refl _) h4 G5 (by omega) (by omega) hl
      · exact no_n3 w5 w w.heap.size g4 id b (off + 3) (n - 3) (cap - 3) cs hC b45 b25 hne (Nat.le_refl _) h4 G5 (by omega) (by omega) hl
    by_cases e4 : x0 = 4
    · subst e4
      by_cases hl : (n - 3) % 8 = 0
      · by_cases hm : 160 < n - 3
        · exact no_n4b w5 w w.heap.size g4 id b (off + 3) (n - 3) (cap - 3) cs hC b45 b25 hne (Nat.le_refl _) h4 G5 (by omega) (by omega) hl hm
        · exact no_k4 w5 w w.heap.size g4 id b (off + 3) (n - 3) (cap - 3) cs hC b45 b25 hne (Nat.le_refl _) h4 G5 (by omega) (by omega) hl hm
      · exact no_n4a w5 w w.heap.size g4 id b (off + 3) (n - 3) (cap - 3) cs hC b45 b25 hne (Nat.le_refl _) h4 G5 (by omega) (by omega) hl
    by_cases e5 : x0 = 5
    · subst e5
      by_cases hl : n - 3 = 1
      · exact no_k5 w5 w w.heap.size g4 id b (off + 3) (n - 3) (cap - 3) cs hC b45 b25 hne (Nat.le_refl _) h4 G5 (by omega) (by omega) hl
      · exact no_n5 w5 w w.heap.size g4 id b (off + 3) (n - 3) (cap - 3) cs hC b45 b25 hne (Nat.le_refl _) h4 G5 (by omega) (by omega) hl
    by_cases e6 : x0 = 6
    · subst e6
      by_cases hl : n - 3 = 1
      · exact no_k6 w5 w w.heap.size g4 id b (off + 3) (n - 3) (cap - 3) cs hC b45 b25 hne (Nat.le_refl _) h4 G5 (by omega) (by omega) hl
      · exact no_n6 w5 w w.heap.size g4 id b (off + 3) (n - 3) (cap - 3) cs hC b45 b25 hne (Nat.le_refl _) h4 G5 (by omega) (by omega) hl
    exact no_k0 w5 w w.heap.size g4 id b (off + 3) (n - 3) (cap - 3) x0 (by omega) cs hC b45 b25 hne (Nat.le_refl _) h4 G5 (by omega) (by omega)
end Go.Proofs.Ytnimehkfnpepfaa
