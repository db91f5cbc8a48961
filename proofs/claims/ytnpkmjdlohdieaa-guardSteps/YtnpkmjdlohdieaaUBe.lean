import Derived.Test.YtnpkmjdlohdieaaUSg
namespace Go.Proofs.Ytnpkmjdlohdieaa
open Go.RowKit
set_option maxRecDepth 100000
set_option linter.unusedVariables false
set_option linter.unusedSimpArgs false
theorem Try.info_vg : (Try.prog.info? 29).map (fun i => i.size) = some 6 := by kernel_rfl
/-- how a guard stands at first -/
def bgD (E n : Nat) : Vi := if E = 0 then ⟨false, -1, List.replicate n 0, List.replicate n false, 0, []⟩ else ⟨false, 0, [], [], 0, []⟩
def va0 : Va := ⟨none, 0, 0, none, 0, 0, none, 0, 0⟩
theorem gfP_n {F : Nat → Mo} {n : Nat} {si mo wi : Int} {sa : ByteArray} (h : (gfP F n si mo wi sa).1 = 0) : n ≤ 32 := by
  unfold gfP at h
  by_cases hn : 32 < n
  · rw [if_pos hn] at h; cases h
  · omega
set_option maxHeartbeats 8000000 in
theorem begin_any (ma : Option Addr) (n mc : Nat) (si mo wi : Int) (sa : ByteArray) (F : Nat → Mo) (w : World) (hM : RdM w ma n mc F) : Calls Try.prog 8 #[.agg #[.slice ma n mc, .int .i64 si, .int .i64 mo, .int .i64 wi, .string sa]] w fun e w' => ∃ A : Va, e = .returned (.tuple #[.agg (vgA (bgD (gfP F n si mo wi sa).1 n) A), .int .i64 ((gfP F n si mo wi sa).1 : Nat)]) ∧ OwVg w' w.heap.size A (bgD (gfP F n si mo wi sa).1 n) ∧ w.grownBy w' none := by
  have b0 := BxS.new w 24 #[.slice ma n mc, .int .i64 si, .int .i64 mo, .int .i64 wi, .string sa]
  have g0 := World.grownBy_alloc w (.cells #[.slice ma n mc, .int .i64 si, .int .i64 mo, .int .i64 wi, .string sa] 24) none
  generalize hw0 : w.alloc (.cells #[.slice ma n mc, .int .i64 si, .int .i64 mo, .int .i64 wi, .string sa] 24) = w0 at b0 g0
  have hz0 : w0.heap.size = w.heap.size + 1 := by rw [← hw0]; simp
  have b1 := BxS.new w0 29 #[.bool false, .int .i64 0, .slice none 0 0, .slice none 0 0, .int .i64 0, .slice none 0 0]
  have g1 := World.grownBy_alloc w0 (.cells #[.bool false, .int .i64 0, .slice none 0 0, .slice none 0 0, .int .i64 0, .slice none 0 0] 29) none
  generalize hw1 : w0.alloc (.cells #[.bool false, .int .i64 0, .slice none 0 0, .slice none 0 0, .int .i64 0, .slice none 0 0] 29) = w1 at b1 g1
  rw [hz0] at b1
  have b01 := b0.keep g1 (by simp)
  have G1 := grown_trans g0 g1
  have hz1 : w1.heap.size = w.heap.size + 2 := by rw [← hw1]; simp [hz0]
  obtain ⟨c0, c1, c2, c3, c4⟩ := b01.cell5
  have i6 := Try.info_vg
  have hC := check_any ma n mc si mo wi sa F w1 (hM.keep G1)
  have hn := gfP_n (F := F) (n := n) (si := si) (mo := mo) (wi := wi) (sa := sa)
  generalize gfP F n si mo wi sa = p at *
  obtain ⟨E, At⟩ := p
  unfold ftV at hC
  dsimp only at hC hn ⊢
  by_cases hE : E = 0
  · subst hE
    have hn := hn rfl
    rw [show ((0 : Nat) : Int) = 0 from rfl] at hC
    have hnm : n ≤ 1000 := by omega
    have hD : bgD 0 n = ⟨false, -1, List.replicate n 0, List.replicate n false, 0, []⟩ := if_pos rfl
    rw [hD]
    clear hD
    go_enter Try.func8, Try.ntmps8
    go_wp2_with (go_at_call 9; refine hC.mono ?_; rintro e w2 ⟨rfl, g2⟩; clear c0 c1 c2 c3 c4; have gf := World.grownBy_alloc w2 (.cells #[.int .i64 0, .int .i64 (At : Int)] 34) none; have gA := grown_trans g2 gf; obtain ⟨c0, c1, c2, c3, c4⟩ := (b01.keep gA (by simp)).cell5)
    have G3 := grown_trans G1 gA
    have d1 := b1.keep gA (by simp)
    have hsA := gA.size
    generalize w2.alloc (.cells #[.int .i64 0, .int .i64 (At : Int)] 34) = w3 at *
    refine wp_regionL (fun wz => BxS wz (w.heap.size + 1) 29 #[.bool false, .int .i64 0, .slice none 0 0, .slice none 0 0, .int .i64 0, .slice none 0 0]) [5, 6] #[false, false, false, false, false, false, false] rfl (by kernel_rfl) ?_
    refine wpAnyZ_take [5, 6] 0 (.int .i64 (n : Int)) rfl (by kernel_rfl) (fun _ _ _ h => h) d1 rfl (by rintro wz hz; go_simp) ?_
    try simp only [List.getElem_toArray, List.getElem_cons_succ, List.getElem_cons_zero, Act.put, List.setIfInBounds_toArray, List.set_cons_zero, List.set_cons_succ]
    refine wpAnyZ_take [5, 6] 2 (.int .i64 (n : Int)) rfl (by kernel_rfl) (fun _ _ _ h => h) d1 rfl (by rintro wz hz; go_simp) ?_
    try simp only [List.getElem_toArray, List.getElem_cons_succ, List.getElem_cons_zero, Act.put, List.setIfInBounds_toArray, List.set_cons_zero, List.set_cons_succ]
    refine wpAnyZ_twoB 1 3 rfl rfl (by kernel_rfl) (fun K hK => ?_) (fun K hK => ?_)
    · obtain ⟨x1, rI, AI, yI⟩ := run_mkX Try.elI rfl rfl n hnm w3.drew
      refine step_run (w' := x1) (.slice (some ⟨(w3.drew).heap.size, 0, none⟩) n n) rfl (by go_simp) ?_
      refine hK _ _ (fun _ => (d1.keep (grown_drew w3 none) (by simp)).keep yI (by simp)) ?_
      try simp only [List.getElem_toArray, List.getElem_cons_succ, List.getElem_cons_zero, Act.put, List.setIfInBounds_toArray, List.set_cons_zero, List.set_cons_succ]
      obtain ⟨x2, rH, AH, yH⟩ := run_mkX Try.elH rfl rfl n hnm x1
      refine wpAnyZ_oneB 3 rfl (by kernel_rfl) (fun K hK => ?_)
      refine step_run (w' := x2) (.slice (some ⟨(x1).heap.size, 0, none⟩) n n) rfl (by go_simp) ?_
      refine hK _ _ (fun _ => ((d1.keep (grown_drew w3 none) (by simp)).keep yI (by simp)).keep yH (by simp)) ?_
      try simp only [List.getElem_toArray, List.getElem_cons_succ, List.getElem_cons_zero, Act.put, List.setIfInBounds_toArray, List.set_cons_zero, List.set_cons_succ]
      refine wpAnyZ_take [5, 6] 4 (.agg #[.bool false, .int .i64 (-1), .slice (some ⟨(w3.drew).heap.size, 0, none⟩) n n, .slice (some ⟨(x1).heap.size, 0, none⟩) n n, .int .i64 0, .slice none 0 0]) rfl (by kernel_rfl) (fun _ _ _ h => h) (((d1.keep (grown_drew w3 none) (by simp)).keep yI (by simp)).keep yH (by simp)) rfl (by rintro wz hz; go_simp) ?_
      try simp only [List.getElem_toArray, List.getElem_cons_succ, List.getElem_cons_zero, Act.put, List.setIfInBounds_toArray, List.set_cons_zero, List.set_cons_succ]
      refine wpAnyZ_oneB 5 rfl (by kernel_rfl) (fun K hK => ?_)
      refine step_stX _ rfl 29 (.tmp 2) (.tmp 21) rfl (w.heap.size + 1) _ _ rfl rfl (((d1.keep (grown_drew w3 none) (by simp)).keep yI (by simp)).keep yH (by simp)) i6 rfl (by simp [Value.oneCell']) ?_
      intro w9 b9 g9
      refine hK _ _ (fun h => absurd (by decide) h) ?_
      try simp only [List.getElem_toArray, List.getElem_cons_succ, List.getElem_cons_zero, Act.put, List.setIfInBounds_toArray, List.set_cons_zero, List.set_cons_succ]
      refine wpAnyZ_takeF 6 (.int .i64 0) rfl (by kernel_rfl) (fun _ _ _ h => h) rfl (by intro wz; go_simp) ?_
      try simp only [List.getElem_toArray, List.getElem_cons_succ, List.getElem_cons_zero, Act.put, List.setIfInBounds_toArray, List.set_cons_zero, List.set_cons_succ]
      refine wpAnyZ_doneB (by kernel_rfl) ?_ _
      go_wp2
      refine bodyPost_ret (results_cell1t rfl _ _ _ ⟨w.heap.size + 1, 0, none⟩ _ (.int .i64 0) rfl (BxS.load (t := 29) b9 Try.underlying29 i6) rfl) rfl ?_
      have G5 := grown_trans (grown_trans (grown_trans G3 (grown_drew w3 none)) yI) yH
      have s1 := yI.size
      have s2 : (w3.drew).heap.size = w3.heap.size := rfl
      have ltI := AI.lt _ rfl
      refine ⟨⟨some ⟨(w3.drew).heap.size, 0, none⟩, n, n, some ⟨(x1).heap.size, 0, none⟩, n, n, none, 0, 0⟩, rfl, ⟨?_, ?_, AnsX.nil0 _ _ _, fun g h h' => by cases h'⟩, grown_far G5 g9 (fun q e => by have e : w.heap.size + 1 = q := Option.some.inj e; omega)⟩
      · rw [show zys (List.replicate n 0) = List.replicate n (Value.int .i64 0) by simp [zys]]
        exact (AnsX.kept (AI.keep yH) g9 (.inr (fun e => by have e : (w3.drew).heap.size = w.heap.size + 1 := Option.some.inj e; omega))).low (by omega)
      · rw [show hls (List.replicate n false) = List.replicate n (Value.bool false) by simp [hls]]
        exact (AnsX.kept (AH) g9 (.inr (fun e => by have e : x1.heap.size = w.heap.size + 1 := Option.some.inj e; omega))).low (by omega)
    · obtain ⟨x1, rH, AH, yH⟩ := run_mkX Try.elH rfl rfl n hnm w3.drew
      refine step_run (w' := x1) (.slice (some ⟨(w3.drew).heap.size, 0, none⟩) n n) rfl (by go_simp) ?_
      refine hK _ _ (fun _ => (d1.keep (grown_drew w3 none) (by simp)).keep yH (by simp)) ?_
      try simp only [List.getElem_toArray, List.getElem_cons_succ, List.getElem_cons_zero, Act.put, List.setIfInBounds_toArray, List.set_cons_zero, List.set_cons_succ]
      obtain ⟨x2, rI, AI, yI⟩ := run_mkX Try.elI rfl rfl n hnm x1
      refine wpAnyZ_oneB 1 rfl (by kernel_rfl) (fun K hK => ?_)
      refine step_run (w' := x2) (.slice (some ⟨(x1).heap.size, 0, none⟩) n n) rfl (by go_simp) ?_
      refine hK _ _ (fun _ => ((d1.keep (grown_drew w3 none) (by simp)).keep yH (by simp)).keep yI (by simp)) ?_
      try simp only [List.getElem_toArray, List.getElem_cons_succ, List.getElem_cons_zero, Act.put, List.setIfInBounds_toArray, List.set_cons_zero, List.set_cons_succ]
      refine wpAnyZ_take [5, 6] 4 (.agg #[.bool false, .int .i64 (-1), .slice (some ⟨(x1).heap.size, 0, none⟩) n n, .slice (some ⟨(w3.drew).heap.size, 0, none⟩) n n, .int .i64 0, .slice none 0 0]) rfl (by kernel_rfl) (fun _ _ _ h => h) (((d1.keep (grown_drew w3 none) (by simp)).keep yH (by simp)).keep yI (by simp)) rfl (by rintro wz hz; go_simp) ?_
      try simp only [List.getElem_toArray, List.getElem_cons_succ, List.getElem_cons_zero, Act.put, List.setIfInBounds_toArray, List.set_cons_zero, List.set_cons_succ]
      refine wpAnyZ_oneB 5 rfl (by kernel_rfl) (fun K hK => ?_)
      refine step_stX _ rfl 29 (.tmp 2) (.tmp 21) rfl (w.heap.size + 1) _ _ rfl rfl (((d1.keep (grown_drew w3 none) (by simp)).keep yH (by simp)).keep yI (by simp)) i6 rfl (by simp [Value.oneCell']) ?_
      intro w9 b9 g9
      refine hK _ _ (fun h => absurd (by decide) h) ?_
      try simp only [List.getElem_toArray, List.getElem_cons_succ, List.getElem_cons_zero, Act.put, List.setIfInBounds_toArray, List.set_cons_zero, List.set_cons_succ]
      refine wpAnyZ_takeF 6 (.int .i64 0) rfl (by kernel_rfl) (fun _ _ _ h => h) rfl (by intro wz; go_simp) ?_
      try simp only [List.getElem_toArray, List.getElem_cons_succ, List.getElem_cons_zero, Act.put, List.setIfInBounds_toArray, List.set_cons_zero, List.set_cons_succ]
      refine wpAnyZ_doneB (by kernel_rfl) ?_ _
      go_wp2
      refine bodyPost_ret (results_cell1t rfl _ _ _ ⟨w.heap.size + 1, 0, none⟩ _ (.int .i64 0) rfl (BxS.load (t := 29) b9 Try.underlying29 i6) rfl) rfl ?_
      have G5 := grown_trans (grown_trans (grown_trans G3 (grown_drew w3 none)) yH) yI
      have s1 := yH.size
      have s2 : (w3.drew).heap.size = w3.heap.size := rfl
      have ltH := AH.lt _ rfl
      refine ⟨⟨some ⟨(x1).heap.size, 0, none⟩, n, n, some ⟨(w3.drew).heap.size, 0, none⟩, n, n, none, 0, 0⟩, rfl, ⟨?_, ?_, AnsX.nil0 _ _ _, fun g h h' => by cases h'⟩, grown_far G5 g9 (fun q e => by have e : w.heap.size + 1 = q := Option.some.inj e; omega)⟩
      · rw [show zys (List.replicate n 0) = List.replicate n (Value.int .i64 0) by simp [zys]]
        exact (AnsX.kept (AI) g9 (.inr (fun e => by have e : x1.heap.size = w.heap.size + 1 := Option.some.inj e; omega))).low (by omega)
      · rw [show hls (List.replicate n false) = List.replicate n (Value.bool false) by simp [hls]]
        exact (AnsX.kept (AH.keep yI) g9 (.inr (fun e => by have e : (w3.drew).heap.size = w.heap.size + 1 := Option.some.inj e; omega))).low (by omega)
  · have hE' : ((E : Int) != 0) = true := by simp; omega
    have hE2 : ¬ ((E : Int) = 0) := by omega
    have hD : bgD E n = ⟨false, 0, [], [], 0, []⟩ := if_neg hE
    rw [hD]
    clear hD hn
    go_enter Try.func8, Try.ntmps8
    go_wp2_with (go_at_call 9; refine hC.mono ?_; rintro e w2 ⟨rfl, g2⟩)
    have gf := World.grownBy_alloc w2 (.cells #[.int .i64 (E : Int), .int .i64 (At : Int)] 34) none
    have bf := BxS.new w2 34 #[.int .i64 (E : Int), .int .i64 (At : Int)]
    have cf := bf.cell 0 (by show 0 < 2; decide)
    have gA := grown_trans g2 gf
    have G3 := grown_trans G1 gA
    have d1 := b1.keep gA (by simp)
    have hlt2 := g2.size
    generalize w2.alloc (.cells #[.int .i64 (E : Int), .int .i64 (At : Int)] 34) = w3 at *
    change w3.cell? ⟨w2.heap.size, 0, none⟩ = some (.int .i64 (E : Int)) at cf
    refine wp_regionL (fun wz => wz.cell? ⟨w2.heap.size, 0, none⟩ = some (.int .i64 (E : Int)) ∧ BxS wz (w.heap.size + 1) 29 #[.bool false, .int .i64 0, .slice none 0 0, .slice none 0 0, .int .i64 0, .slice none 0 0]) [] #[false, false, false, false, false] rfl (by kernel_rfl) ?_
    refine wpAnyZ_take [] 0 (.agg #[.bool false, .int .i64 0, .slice none 0 0, .slice none 0 0, .int .i64 0, .slice none 0 0]) rfl (by kernel_rfl) (fun _ _ _ h => h) ⟨cf, d1⟩ rfl (by rintro wz ⟨z0, z1⟩; go_simp) ?_
    try simp only [List.getElem_toArray, List.getElem_cons_succ, List.getElem_cons_zero, Act.put, List.setIfInBounds_toArray, List.set_cons_zero, List.set_cons_succ]
    refine wpAnyZ_take [] 1 (.pointer (some ⟨w2.heap.size, 0, none⟩)) rfl (by kernel_rfl) (fun _ _ _ h => h) ⟨cf, d1⟩ rfl (by rintro wz ⟨z0, z1⟩; go_simp) ?_
    try simp only [List.getElem_toArray, List.getElem_cons_succ, List.getElem_cons_zero, Act.put, List.setIfInBounds_toArray, List.set_cons_zero, List.set_cons_succ]
    refine wpAnyZ_take [] 2 (.int .i64 (E : Int)) rfl (by kernel_rfl) (fun _ _ _ h => h) ⟨cf, d1⟩ rfl (by rintro wz ⟨z0, z1⟩; go_simp) ?_
    try simp only [List.getElem_toArray, List.getElem_cons_succ, List.getElem_cons_zero, Act.put, List.setIfInBounds_toArray, List.set_cons_zero, List.set_cons_succ]
    refine wpAnyZ_oneB 3 rfl (by kernel_rfl) (fun K hK => ?_)
    refine step_stX _ rfl 29 (.tmp 2) (.tmp 11) rfl (w.heap.size + 1) _ _ rfl rfl d1 i6 rfl (by simp [Value.oneCell']) ?_
    intro w9 b9 g9
    have cf9 : w9.cell? ⟨w2.heap.size, 0, none⟩ = some (.int .i64 (E : Int)) := ((bf.keep (grown_drew w3 none) (by simp)).keep g9 (fun e => by have := Option.some.inj e; omega)).cell 0 (by show 0 < 2; decide)
    refine hK _ _ (fun _ => ⟨cf9, b9⟩) ?_
    try simp only [List.getElem_toArray, List.getElem_cons_succ, List.getElem_cons_zero, Act.put, List.setIfInBounds_toArray, List.set_cons_zero, List.set_cons_succ]
    refine wpAnyZ_take [] 4 (.int .i64 (E : Int)) rfl (by kernel_rfl) (fun _ _ _ h => h) ⟨cf9, b9⟩ rfl (by rintro wz ⟨z0, z1⟩; go_simp) ?_
    try simp only [List.getElem_toArray, List.getElem_cons_succ, List.getElem_cons_zero, Act.put, List.setIfInBounds_toArray, List.set_cons_zero, List.set_cons_succ]
    refine wpAnyZ_doneB (by kernel_rfl) ?_ _
    go_wp2
    refine bodyPost_ret (results_cell1t rfl _ _ _ ⟨w.heap.size + 1, 0, none⟩ _ (.int .i64 (E : Int)) rfl (BxS.load (t := 29) b9 Try.underlying29 i6) rfl) rfl ?_
    exact ⟨va0, rfl, ⟨AnsX.nil0 _ _ _, AnsX.nil0 _ _ _, AnsX.nil0 _ _ _, fun g h => by cases h⟩, grown_far (grown_trans G3 (grown_drew w3 none)) g9 (fun q e => by have e : w.heap.size + 1 = q := Option.some.inj e; omega)⟩
set_option maxHeartbeats 8000000 in
theorem vigilant_any (ma : Option Addr) (n mc : Nat) (si mo wi : Int) (sa : ByteArray) (F : Nat → Mo) (w : World) (hM : RdM w ma n mc F) : Calls Try.prog 7 #[.agg #[.slice ma n mc, .int .i64 si, .int .i64 mo, .int .i64 wi, .string sa]] w fun e w' => ∃ A : Va, e = .returned (.tuple #[.agg (vgA (bgD (gfP F n si mo wi sa).1 n) A), .int .i64 ((gfP F n si mo wi sa).1 : Nat)]) ∧ OwVg w' w.heap.size A (bgD (gfP F n si mo wi sa).1 n) ∧ w.grownBy w' none := by
  have b0 := BxS.new w 24 #[.slice ma n mc, .int .i64 si, .int .i64 mo, .int .i64 wi, .string sa]
  have g0 := World.grownBy_alloc w (.cells #[.slice ma n mc, .int .i64 si, .int .i64 mo, .int .i64 wi, .string sa] 24) none
  generalize hw0 : w.alloc (.cells #[.slice ma n mc, .int .i64 si, .int .i64 mo, .int .i64 wi, .string sa] 24) = w0 at b0 g0
  have hz0 : w0.heap.size = w.heap.size + 1 := by rw [← hw0]; simp
  have b1 := BxS.new w0 29 #[.bool false, .int .i64 0, .slice none 0 0, .slice none 0 0, .int .i64 0, .slice none 0 0]
  have g1 := World.grownBy_alloc w0 (.cells #[.bool false, .int .i64 0, .slice none 0 0, .slice none 0 0, .int .i64 0, .slice none 0 0] 29) none
  generalize hw1 : w0.alloc (.cells #[.bool false, .int .i64 0, .slice none 0 0, .slice none 0 0, .int .i64 0, .slice none 0 0] 29) = w1 at b1 g1
  rw [hz0] at b1
  have b01 := b0.keep g1 (by simp)
  have G1 := grown_trans g0 g1
  have hz1 : w1.heap.size = w.heap.size + 2 := by rw [← hw1]; simp [hz0]
  obtain ⟨c0, c1, c2, c3, c4⟩ := b01.cell5
  have i6 := Try.info_vg
  have hC := rfault_any ma n mc si mo wi sa F w1 (hM.keep G1)
  have hn := gfP_n (F := F) (n := n) (si := si) (mo := mo) (wi := wi) (sa := sa)
  generalize gfP F n si mo wi sa = p at *
  obtain ⟨E, At⟩ := p
  unfold ftV at hC
  dsimp only at hC hn ⊢
  by_cases hE : E = 0
  · subst hE
    have hn := hn rfl
    rw [show ((0 : Nat) : Int) = 0 from rfl] at hC
    have hnm : n ≤ 1000 := by omega
    have hD : bgD 0 n = ⟨false, -1, List.replicate n 0, List.replicate n false, 0, []⟩ := if_pos rfl
    rw [hD]
    clear hD
    go_enter Try.func7, Try.ntmps7
    go_wp2_with (go_at_call 10; refine hC.mono ?_; rintro e w2 ⟨rfl, g2⟩; clear c0 c1 c2 c3 c4; have gf := World.grownBy_alloc w2 (.cells #[.int .i64 0, .int .i64 (At : Int)] 34) none; have gA := grown_trans g2 gf; obtain ⟨c0, c1, c2, c3, c4⟩ := (b01.keep gA (by simp)).cell5)
    have G3 := grown_trans G1 gA
    have d1 := b1.keep gA (by simp)
    have hsA := gA.size
    generalize w2.alloc (.cells #[.int .i64 0, .int .i64 (At : Int)] 34) = w3 at *
    refine wp_regionL (fun wz => BxS wz (w.heap.size + 1) 29 #[.bool false, .int .i64 0, .slice none 0 0, .slice none 0 0, .int .i64 0, .slice none 0 0]) [5, 6] #[false, false, false, false, false, false, false] rfl (by kernel_rfl) ?_
    refine wpAnyZ_take [5, 6] 0 (.int .i64 (n : Int)) rfl (by kernel_rfl) (fun _ _ _ h => h) d1 rfl (by rintro wz hz; go_simp) ?_
    try simp only [List.getElem_toArray, List.getElem_cons_succ, List.getElem_cons_zero, Act.put, List.setIfInBounds_toArray, List.set_cons_zero, List.set_cons_succ]
    refine wpAnyZ_take [5, 6] 2 (.int .i64 (n : Int)) rfl (by kernel_rfl) (fun _ _ _ h => h) d1 rfl (by rintro wz hz; go_simp) ?_
    try simp only [List.getElem_toArray, List.getElem_cons_succ, List.getElem_cons_zero, Act.put, List.setIfInBounds_toArray, List.set_cons_zero, List.set_cons_succ]
    refine wpAnyZ_twoB 1 3 rfl rfl (by kernel_rfl) (fun K hK => ?_) (fun K hK => ?_)
    · obtain ⟨x1, rI, AI, yI⟩ := run_mkX Try.elI rfl rfl n hnm w3.drew
      refine step_run (w' := x1) (.slice (some ⟨(w3.drew).heap.size, 0, none⟩) n n) rfl (by go_simp) ?_
      refine hK _ _ (fun _ => (d1.keep (grown_drew w3 none) (by simp)).keep yI (by simp)) ?_
      try simp only [List.getElem_toArray, List.getElem_cons_succ, List.getElem_cons_zero, Act.put, List.setIfInBounds_toArray, List.set_cons_zero, List.set_cons_succ]
      obtain ⟨x2, rH, AH, yH⟩ := run_mkX Try.elH rfl rfl n hnm x1
      refine wpAnyZ_oneB 3 rfl (by kernel_rfl) (fun K hK => ?_)
      refine step_run (w' := x2) (.slice (some ⟨(x1).heap.size, 0, none⟩) n n) rfl (by go_simp) ?_
      refine hK _ _ (fun _ => ((d1.keep (grown_drew w3 none) (by simp)).keep yI (by simp)).keep yH (by simp)) ?_
      try simp only [List.getElem_toArray, List.getElem_cons_succ, List.getElem_cons_zero, Act.put, List.setIfInBounds_toArray, List.set_cons_zero, List.set_cons_succ]
      refine wpAnyZ_take [5, 6] 4 (.agg #[.bool false, .int .i64 (-1), .slice (some ⟨(w3.drew).heap.size, 0, none⟩) n n, .slice (some ⟨(x1).heap.size, 0, none⟩) n n, .int .i64 0, .slice none 0 0]) rfl (by kernel_rfl) (fun _ _ _ h => h) (((d1.keep (grown_drew w3 none) (by simp)).keep yI (by simp)).keep yH (by simp)) rfl (by rintro wz hz; go_simp) ?_
      try simp only [List.getElem_toArray, List.getElem_cons_succ, List.getElem_cons_zero, Act.put, List.setIfInBounds_toArray, List.set_cons_zero, List.set_cons_succ]
      refine wpAnyZ_oneB 5 rfl (by kernel_rfl) (fun K hK => ?_)
      refine step_stX _ rfl 29 (.tmp 2) (.tmp 21) rfl (w.heap.size + 1) _ _ rfl rfl (((d1.keep (grown_drew w3 none) (by simp)).keep yI (by simp)).keep yH (by simp)) i6 rfl (by simp [Value.oneCell']) ?_
      intro w9 b9 g9
      refine hK _ _ (fun h => absurd (by decide) h) ?_
      try simp only [List.getElem_toArray, List.getElem_cons_succ, List.getElem_cons_zero, Act.put, List.setIfInBounds_toArray, List.set_cons_zero, List.set_cons_succ]
      refine wpAnyZ_takeF 6 (.int .i64 0) rfl (by kernel_rfl) (fun _ _ _ h => h) rfl (by intro wz; go_simp) ?_
      try simp only [List.getElem_toArray, List.getElem_cons_succ, List.getElem_cons_zero, Act.put, List.setIfInBounds_toArray, List.set_cons_zero, List.set_cons_succ]
      refine wpAnyZ_doneB (by kernel_rfl) ?_ _
      go_wp2
      refine bodyPost_ret (results_cell1t rfl _ _ _ ⟨w.heap.size + 1, 0, none⟩ _ (.int .i64 0) rfl (BxS.load (t := 29) b9 Try.underlying29 i6) rfl) rfl ?_
      have G5 := grown_trans (grown_trans (grown_trans G3 (grown_drew w3 none)) yI) yH
      have s1 := yI.size
      have s2 : (w3.drew).heap.size = w3.heap.size := rfl
      have ltI := AI.lt _ rfl
      refine ⟨⟨some ⟨(w3.drew).heap.size, 0, none⟩, n, n, some ⟨(x1).heap.size, 0, none⟩, n, n, none, 0, 0⟩, rfl, ⟨?_, ?_, AnsX.nil0 _ _ _, fun g h h' => by cases h'⟩, grown_far G5 g9 (fun q e => by have e : w.heap.size + 1 = q := Option.some.inj e; omega)⟩
      · rw [show zys (List.replicate n 0) = List.replicate n (Value.int .i64 0) by simp [zys]]
        exact (AnsX.kept (AI.keep yH) g9 (.inr (fun e => by have e : (w3.drew).heap.size = w.heap.size + 1 := Option.some.inj e; omega))).low (by omega)
      · rw [show hls (List.replicate n false) = List.replicate n (Value.bool false) by simp [hls]]
        exact (AnsX.kept (AH) g9 (.inr (fun e => by have e : x1.heap.size = w.heap.size + 1 := Option.some.inj e; omega))).low (by omega)
    · obtain ⟨x1, rH, AH, yH⟩ := run_mkX Try.elH rfl rfl n hnm w3.drew
      refine step_run (w' := x1) (.slice (some ⟨(w3.drew).heap.size, 0, none⟩) n n) rfl (by go_simp) ?_
      refine hK _ _ (fun _ => (d1.keep (grown_drew w3 none) (by simp)).keep yH (by simp)) ?_
      try simp only [List.getElem_toArray, List.getElem_cons_succ, List.getElem_cons_zero, Act.put, List.setIfInBounds_toArray, List.set_cons_zero, List.set_cons_succ]
      obtain ⟨x2, rI, AI, yI⟩ := run_mkX Try.elI rfl rfl n hnm x1
      refine wpAnyZ_oneB 1 rfl (by kernel_rfl) (fun K hK => ?_)
      refine step_run (w' := x2) (.slice (some ⟨(x1).heap.size, 0, none⟩) n n) rfl (by go_simp) ?_
      refine hK _ _ (fun _ => ((d1.keep (grown_drew w3 none) (by simp)).keep yH (by simp)).keep yI (by simp)) ?_
      try simp only [List.getElem_toArray, List.getElem_cons_succ, List.getElem_cons_zero, Act.put, List.setIfInBounds_toArray, List.set_cons_zero, List.set_cons_succ]
      refine wpAnyZ_take [5, 6] 4 (.agg #[.bool false, .int .i64 (-1), .slice (some ⟨(x1).heap.size, 0, none⟩) n n, .slice (some ⟨(w3.drew).heap.size, 0, none⟩) n n, .int .i64 0, .slice none 0 0]) rfl (by kernel_rfl) (fun _ _ _ h => h) (((d1.keep (grown_drew w3 none) (by simp)).keep yH (by simp)).keep yI (by simp)) rfl (by rintro wz hz; go_simp) ?_
      try simp only [List.getElem_toArray, List.getElem_cons_succ, List.getElem_cons_zero, Act.put, List.setIfInBounds_toArray, List.set_cons_zero, List.set_cons_succ]
      refine wpAnyZ_oneB 5 rfl (by kernel_rfl) (fun K hK => ?_)
      refine step_stX _ rfl 29 (.tmp 2) (.tmp 21) rfl (w.heap.size + 1) _ _ rfl rfl (((d1.keep (grown_drew w3 none) (by simp)).keep yH (by simp)).keep yI (by simp)) i6 rfl (by simp [Value.oneCell']) ?_
      intro w9 b9 g9
      refine hK _ _ (fun h => absurd (by decide) h) ?_
      try simp only [List.getElem_toArray, List.getElem_cons_succ, List.getElem_cons_zero, Act.put, List.setIfInBounds_toArray, List.set_cons_zero, List.set_cons_succ]
      refine wpAnyZ_takeF 6 (.int .i64 0) rfl (by kernel_rfl) (fun _ _ _ h => h) rfl (by intro wz; go_simp) ?_
      try simp only [List.getElem_toArray, List.getElem_cons_succ, List.getElem_cons_zero, Act.put, List.setIfInBounds_toArray, List.set_cons_zero, List.set_cons_succ]
      refine wpAnyZ_doneB (by kernel_rfl) ?_ _
      go_wp2
      refine bodyPost_ret (results_cell1t rfl _ _ _ ⟨w.heap.size + 1, 0, none⟩ _ (.int .i64 0) rfl (BxS.load (t := 29) b9 Try.underlying29 i6) rfl) rfl ?_
      have G5 := grown_trans (grown_trans (grown_trans G3 (grown_drew w3 none)) yH) yI
      have s1 := yH.size
      have s2 : (w3.drew).heap.size = w3.heap.size := rfl
      have ltH := AH.lt _ rfl
      refine ⟨⟨some ⟨(x1).heap.size, 0, none⟩, n, n, some ⟨(w3.drew).heap.size, 0, none⟩, n, n, none, 0, 0⟩, rfl, ⟨?_, ?_, AnsX.nil0 _ _ _, fun g h h' => by cases h'⟩, grown_far G5 g9 (fun q e => by have e : w.heap.size + 1 = q := Option.some.inj e; omega)⟩
      · rw [show zys (List.replicate n 0) = List.replicate n (Value.int .i64 0) by simp [zys]]
        exact (AnsX.kept (AI) g9 (.inr (fun e => by have e : x1.heap.size = w.heap.size + 1 := Option.some.inj e; omega))).low (by omega)
      · rw [show hls (List.replicate n false) = List.replicate n (Value.bool false) by simp [hls]]
        exact (AnsX.kept (AH.keep yI) g9 (.inr (fun e => by have e : (w3.drew).heap.size = w.heap.size + 1 := Option.some.inj e; omega))).low (by omega)
  · have hE' : ((E : Int) != 0) = true := by simp; omega
    have hE2 : ¬ ((E : Int) = 0) := by omega
    have hD : bgD E n = ⟨false, 0, [], [], 0, []⟩ := if_neg hE
    rw [hD]
    clear hD hn
    go_enter Try.func7, Try.ntmps7
    go_wp2_with (go_at_call 10; refine hC.mono ?_; rintro e w2 ⟨rfl, g2⟩)
    have gf := World.grownBy_alloc w2 (.cells #[.int .i64 (E : Int), .int .i64 (At : Int)] 34) none
    have bf := BxS.new w2 34 #[.int .i64 (E : Int), .int .i64 (At : Int)]
    have cf := bf.cell 0 (by show 0 < 2; decide)
    have gA := grown_trans g2 gf
    have G3 := grown_trans G1 gA
    have d1 := b1.keep gA (by simp)
    have hlt2 := g2.size
    generalize w2.alloc (.cells #[.int .i64 (E : Int), .int .i64 (At : Int)] 34) = w3 at *
    change w3.cell? ⟨w2.heap.size, 0, none⟩ = some (.int .i64 (E : Int)) at cf
    refine wp_regionL (fun wz => wz.cell? ⟨w2.heap.size, 0, none⟩ = some (.int .i64 (E : Int)) ∧ BxS wz (w.heap.size + 1) 29 #[.bool false, .int .i64 0, .slice none 0 0, .slice none 0 0, .int .i64 0, .slice none 0 0]) [] #[false, false, false, false, false] rfl (by kernel_rfl) ?_
    refine wpAnyZ_take [] 0 (.agg #[.bool false, .int .i64 0, .slice none 0 0, .slice none 0 0, .int .i64 0, .slice none 0 0]) rfl (by kernel_rfl) (fun _ _ _ h => h) ⟨cf, d1⟩ rfl (by rintro wz ⟨z0, z1⟩; go_simp) ?_
    try simp only [List.getElem_toArray, List.getElem_cons_succ, List.getElem_cons_zero, Act.put, List.setIfInBounds_toArray, List.set_cons_zero, List.set_cons_succ]
    refine wpAnyZ_take [] 1 (.pointer (some ⟨w2.heap.size, 0, none⟩)) rfl (by kernel_rfl) (fun _ _ _ h => h) ⟨cf, d1⟩ rfl (by rintro wz ⟨z0, z1⟩; go_simp) ?_
    try simp only [List.getElem_toArray, List.getElem_cons_succ, List.getElem_cons_zero, Act.put, List.setIfInBounds_toArray, List.set_cons_zero, List.set_cons_succ]
    refine wpAnyZ_take [] 2 (.int .i64 (E : Int)) rfl (by kernel_rfl) (fun _ _ _ h => h) ⟨cf, d1⟩ rfl (by rintro wz ⟨z0, z1⟩; go_simp) ?_
    try simp only [List.getElem_toArray, List.getElem_cons_succ, List.getElem_cons_zero, Act.put, List.setIfInBounds_toArray, List.set_cons_zero, List.set_cons_succ]
    refine wpAnyZ_oneB 3 rfl (by kernel_rfl) (fun K hK => ?_)
    refine step_stX _ rfl 29 (.tmp 2) (.tmp 11) rfl (w.heap.size + 1) _ _ rfl rfl d1 i6 rfl (by simp [Value.oneCell']) ?_
    intro w9 b9 g9
    have cf9 : w9.cell? ⟨w2.heap.size, 0, none⟩ = some (.int .i64 (E : Int)) := ((bf.keep (grown_drew w3 none) (by simp)).keep g9 (fun e => by have := Option.some.inj e; omega)).cell 0 (by show 0 < 2; decide)
    refine hK _ _ (fun _ => ⟨cf9, b9⟩) ?_
    try simp only [List.getElem_toArray, List.getElem_cons_succ, List.getElem_cons_zero, Act.put, List.setIfInBounds_toArray, List.set_cons_zero, List.set_cons_succ]
    refine wpAnyZ_take [] 4 (.int .i64 (E : Int)) rfl (by kernel_rfl) (fun _ _ _ h => h) ⟨cf9, b9⟩ rfl (by rintro wz ⟨z0, z1⟩; go_simp) ?_
    try simp only [List.getElem_toArray, List.getElem_cons_succ, List.getElem_cons_zero, Act.put, List.setIfInBounds_toArray, List.set_cons_zero, List.set_cons_succ]
    refine wpAnyZ_doneB (by kernel_rfl) ?_ _
    go_wp2
    refine bodyPost_ret (results_cell1t rfl _ _ _ ⟨w.heap.size + 1, 0, none⟩ _ (.int .i64 (E : Int)) rfl (BxS.load (t := 29) b9 Try.underlying29 i6) rfl) rfl ?_
    exact ⟨va0, rfl, ⟨AnsX.nil0 _ _ _, AnsX.nil0 _ _ _, AnsX.nil0 _ _ _, fun g h => by cases h⟩, grown_far (grown_trans G3 (grown_drew w3 none)) g9 (fun q e => by have e : w.heap.size + 1 = q := Option.some.inj e; omega)⟩
end Go.Proofs.Ytnpkmjdlohdieaa
