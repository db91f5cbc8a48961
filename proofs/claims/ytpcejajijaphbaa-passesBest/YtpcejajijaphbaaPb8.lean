import Derived.Test.YtpcejajijaphbaaPb7
namespace Go.Proofs.Ytpcejajijaphbaa
open Go.RowKit
set_option maxRecDepth 100000
set_option linter.unusedVariables false
set_option linter.unusedSimpArgs false

section
theorem ch_iff (F : Nat → Pa) (g : Int) : ∀ Q : List Nat, Ch F g Q ↔ ∀ (j a b : Nat), Q[j]? = some a → Q[j + 1]? = some b → mf (F a) (F b) g = true := by
  intro Q
  induction Q with
  | nil => exact ⟨(fun _ j a b h => by cases h), fun _ => trivial⟩
  | cons x Q ih =>
    cases Q with
    | nil => exact ⟨(fun _ j a b _ h => by cases h), fun _ => trivial⟩
    | cons y Q =>
      constructor
      · intro h j a b h1 h2
        cases j with
        | zero =>
          have h1 : x = a := Option.some.inj h1
          have h2 : y = b := Option.some.inj h2
          rw [← h1, ← h2]
          exact h.1
        | succ j => exact (ih.1 h.2) j a b h1 h2
      · intro h
        exact ⟨h 0 x y rfl rfl, ih.2 (fun j a b h1 h2 => h (j + 1) a b h1 h2)⟩
set_option maxHeartbeats 16000000 in
theorem or_t5 {u0 u2 u3 u4 u5 u6 u7 u10 u11 u12 u13 u14 u15 u16 u17 u18 u19 u20 u21 u22 u23 u24 u25 u26 u27 u28 u29 u30 u31 u32 u33 u34 u35 u36 u37 u38 u39 u40 u41 u42 u43 u44 u45 : Value} (Q : Exit → Act → World → Prop) (w : World) (g8 g9 : Nat) (p q : Pa) (g : Int) (hg : 0 ≤ g ∧ g ≤ 1000) (hp : 0 ≤ p.to' ∧ p.to' ≤ 1000000) (b8 : BxS w g8 29 p.arr) (b9 : BxS w g9 29 q.arr)
    (hQn : mf p q g = true → ∀ v10 v32 v33 v34 v35 v36 v37 v38 v39 v40 v41 v42 v43 v44 v45, Q .normal (Act.mk (List.toArray (u0 :: (.int .i64 g) :: u2 :: u3 :: u4 :: u5 :: u6 :: u7 :: (.pointer (some ⟨g8, 0, none⟩)) :: (.pointer (some ⟨g9, 0, none⟩)) :: v10 :: u11 :: u12 :: u13 :: u14 :: u15 :: u16 :: u17 :: u18 :: u19 :: u20 :: u21 :: u22 :: u23 :: u24 :: u25 :: u26 :: u27 :: u28 :: u29 :: u30 :: u31 :: v32 :: v33 :: v34 :: v35 :: v36 :: v37 :: v38 :: v39 :: v40 :: v41 :: v42 :: v43 :: v44 :: v45 :: [])) []) w) (hQr : mf p q g = false → ∀ v10 v32 v33 v34 v35 v36 v37 v38 v39 v40 v41 v42 v43 v44 v45, Q .ret (Act.mk (List.toArray (u0 :: (.int .i64 g) :: u2 :: u3 :: u4 :: u5 :: (.bool false) :: u7 :: (.pointer (some ⟨g8, 0, none⟩)) :: (.pointer (some ⟨g9, 0, none⟩)) :: v10 :: u11 :: u12 :: u13 :: u14 :: u15 :: u16 :: u17 :: u18 :: u19 :: u20 :: u21 :: u22 :: u23 :: u24 :: u25 :: u26 :: u27 :: u28 :: u29 :: u30 :: u31 :: v32 :: v33 :: v34 :: v35 :: v36 :: v37 :: v38 :: v39 :: v40 :: v41 :: v42 :: v43 :: v44 :: v45 :: [])) []) w) :
    Code.wp Try.prog (tailR 5 (Try.f10.body.getD .skip)) Q (Act.mk (List.toArray (u0 :: (.int .i64 g) :: u2 :: u3 :: u4 :: u5 :: u6 :: u7 :: (.pointer (some ⟨g8, 0, none⟩)) :: (.pointer (some ⟨g9, 0, none⟩)) :: u10 :: u11 :: u12 :: u13 :: u14 :: u15 :: u16 :: u17 :: u18 :: u19 :: u20 :: u21 :: u22 :: u23 :: u24 :: u25 :: u26 :: u27 :: u28 :: u29 :: u30 :: u31 :: u32 :: u33 :: u34 :: u35 :: u36 :: u37 :: u38 :: u39 :: u40 :: u41 :: u42 :: u43 :: u44 :: u45 :: [])) []) w := by
  conv => enter [2]; whnf
  obtain ⟨p0, p1, p2, p3⟩ := p
  obtain ⟨q0, q1, q2, q3⟩ := q
  have HN : Hid _ := hQn
  have HR : Hid _ := hQr
  clear hQn hQr
  have c0 : w.cell? ⟨g8, 0, none⟩ = some (.int .i64 p0) := b8.cell 0 (by show 0 < 4; decide)
  have c2 : w.cell? ⟨g8, 2, none⟩ = some (.int .i64 p2) := b8.cell 2 (by show 2 < 4; decide)
  have d0 : w.cell? ⟨g9, 0, none⟩ = some (.int .i64 q0) := b9.cell 0 (by show 0 < 4; decide)
  have d1 : w.cell? ⟨g9, 1, none⟩ = some (.int .i64 q1) := b9.cell 1 (by show 1 < 4; decide)
  dsimp only at hp
  clear b8 b9
  by_cases h1 : p0 = q0
  · subst h1
    by_cases h2 : q1 < p2
    · have hm : mf ⟨p0, p1, p2, p3⟩ ⟨p0, q1, q2, q3⟩ g = false := by
        unfold mf
        simp only [if_true]
        exact decide_eq_false (by omega)
      go_wp2
      (try simp only [Exit.inBlock, Exit.then])
      exact HR.out hm _ _ _ _ _ _ _ _ _ _ _ _ _ _ _
    · have hm : mf ⟨p0, p1, p2, p3⟩ ⟨p0, q1, q2, q3⟩ g = true := by
        unfold mf
        simp only [if_true]
        exact decide_eq_true (by omega)
      go_wp2
      (try simp only [Exit.inBlock, Exit.then])
      exact HN.out hm _ _ _ _ _ _ _ _ _ _ _ _ _ _ _
  · by_cases h2 : q1 < p2 + g
    · have hm : mf ⟨p0, p1, p2, p3⟩ ⟨q0, q1, q2, q3⟩ g = false := by
        unfold mf
        dsimp only
        rw [if_neg h1]
        exact decide_eq_false (by omega)
      go_wp2
      (try simp only [Exit.inBlock, Exit.then])
      exact HR.out hm _ _ _ _ _ _ _ _ _ _ _ _ _ _ _
    · have hm : mf ⟨p0, p1, p2, p3⟩ ⟨q0, q1, q2, q3⟩ g = true := by
        unfold mf
        dsimp only
        rw [if_neg h1]
        exact decide_eq_true (by omega)
      go_wp2
      (try simp only [Exit.inBlock, Exit.then])
      exact HN.out hm _ _ _ _ _ _ _ _ _ _ _ _ _ _ _
theorem range_lt {w : World} {b o : Nat} {p : Pa} (h : w.rangeAt b o p.cells) : b < w.heap.size := by
  have := h 0 _ rfl
  exact cell_ltR this
theorem range_kp {w w' : World} {b o : Nat} {p : Pa} (h : w.rangeAt b o p.cells) (hg : w.grownBy w' none) : w'.rangeAt b o p.cells := range_keep h (range_lt h) hg
theorem range_neR {w w' : World} {b o g : Nat} {p : Pa} (h : w.rangeAt b o p.cells) (hg : w.grownBy w' (some g)) (hne : b ≠ g) : w'.rangeAt b o p.cells := range_ne h (range_lt h) hg hne
theorem cell_neR {w w' : World} {b o g : Nat} {v : Value} (h : w.cell? ⟨b, o, none⟩ = some v) (hg : w.grownBy w' (some g)) (hne : b ≠ g) : w'.cell? ⟨b, o, none⟩ = some v := cell_grown h hg (cell_ltR h) (fun e => hne (Option.some.inj e))
set_option maxHeartbeats 32000000 in
/-- may passes be taken in that order? -/
theorem order_any (w : World) (lb lf ln lc : Nat) (F : Nat → Pa) (g : Int) (gq oq qn qc : Nat) (Q : List Nat) (hP : ∀ i, i < ln → w.rangeAt lb (lf + i * 4) (F i).cells) (hlc : ln ≤ lc ∧ lc ≤ 9223372036854775807) (hok : ∀ i, (F i).ok) (hg : 0 ≤ g ∧ g ≤ 1000) (hQl : Q.length = qn) (hqc : qn ≤ qc ∧ qc ≤ 9223372036854775807) (hq9 : qn ≤ 1000) (hQc : ∀ j p : Nat, Q[j]? = some p → w.cell? ⟨gq, oq + j, none⟩ = some (.int .i64 (p : Int))) (hQm : ∀ p, p ∈ Q → p < ln) :
    Calls Try.prog 10 #[.slice (some ⟨lb, lf, none⟩) ln lc, .int .i64 g, .slice (some ⟨gq, oq, none⟩) qn qc] w fun e w' => ∃ b, e = .returned (.bool b) ∧ (b = true ↔ Ch F g Q) ∧ w.grownBy w' none := by
  have HQC : Hid _ := hQc
  have HQM : Hid _ := hQm
  have HQL : Hid _ := hQl
  have HPP : Hid _ := hP
  clear hQc hQm hQl hP
  go_enter Try.func10, Try.ntmps10
  refine wp_seq_k fun K0 hK0 => ?_
  have HK0 : Hid _ := hK0
  clear hK0
  go_wp2
  refine HK0.out _ _ ?_
  clear HK0
  refine wp_seq_k fun K1 hK1 => ?_
  have HK1 : Hid _ := hK1
  clear hK1
  go_wp2
  go_loopw [7, 8, 9, 10] (fun v7 v8 v9 v10 wr => ∃ j : Nat, j ≤ qn ∧ v7 = .int .i64 ((j : Int) + 1) ∧ Hid (∀ j2 a2 b2 : Nat, j2 < j → Q[j2]? = some a2 → Q[j2 + 1]? = some b2 → mf (F a2) (F b2) g = true) ∧ w.grownBy wr none) (fun v7 v8 v9 v10 _ => qn + 1 - (intOf v7).toNat)
  case atStart => exact ⟨0, Nat.zero_le _, rfl, (fun j2 a2 b2 h => absurd h (by omega)), World.grownBy.refl _ _⟩
  case round =>
    obtain ⟨j, hj, rfl, HC, GR⟩ := hrel
    by_cases hlt : j + 1 < qn
    · have lj : (j : Int) + 1 < (qn : Int) := by omega
      have hql := HQL.out
      obtain ⟨a, ha⟩ : ∃ a, Q[j]? = some a := ⟨Q[j]'(by omega), List.getElem?_eq_getElem _⟩
      obtain ⟨b, hb⟩ : ∃ b, Q[j + 1]? = some b := ⟨Q[j + 1]'(by omega), List.getElem?_eq_getElem _⟩
      have ca := cell_grR (HQC.out j a ha) GR
      have cb := cell_grR (HQC.out (j + 1) b hb) GR
      have hal := HQM.out a (List.mem_of_getElem? ha)
      have hbl := HQM.out b (List.mem_of_getElem? hb)
      have ra := range_kp (HPP.out a hal) GR
      have rb := range_kp (HPP.out b hbl) GR
      have lai : (a : Int) < (ln : Int) := by omega
      have lbi : (b : Int) < (ln : Int) := by omega
      have lji : (j : Int) < (qn : Int) := by omega
      have lneg : ¬ (j : Int) + 1 < 0 := by omega
      have HQA : Hid _ := ha
      have HQB : Hid _ := hb
      have hlbs := range_lt ra
      clear ha hb hql
      refine wp_seq_k fun K4 hK4 => ?_
      have HK4 : Hid _ := hK4
      clear hK4
      go_wp2
      refine HK4.out _ _ ?_
      clear HK4
      refine wp_seq_k fun K5 hK5 => ?_
      have HK5 : Hid _ := hK5
      clear hK5
      refine wp_block ?_
      refine wp_seq_k fun K6 hK6 => ?_
      have HK6 : Hid _ := hK6
      clear hK6
      have Gd := grown_drew wr none
      have SS : (wr.drew.cell? ⟨gq, oq + (j : Nat), none⟩ = some (.int .i64 (a : Int)) ∧ wr.drew.cell? ⟨gq, oq + (j + 1), none⟩ = some (.int .i64 (b : Int))) ∧ wr.drew.rangeAt lb (lf + a * 4) (F a).cells ∧ wr.drew.rangeAt lb (lf + b * 4) (F b).cells := ⟨⟨cell_grR ca Gd, cell_grR cb Gd⟩, range_kp ra Gd, range_kp rb Gd⟩
      refine wp_regionM (fun wz => (wz.cell? ⟨gq, oq + (j : Nat), none⟩ = some (.int .i64 (a : Int)) ∧ wz.cell? ⟨gq, oq + (j + 1), none⟩ = some (.int .i64 (b : Int))) ∧ wz.rangeAt lb (lf + a * 4) (F a).cells ∧ wz.rangeAt lb (lf + b * 4) (F b).cells) [] #[false, false, false, false, false, false, false, false, false, false, false, false, false, false, false, false, false, false, false] rfl (by kernel_rfl) ?_
      generalize wr.drew = wd at *
      refine wpAnyY_takeF 0 (.slice (some ⟨lb, lf, none⟩) ln lc) rfl (by kernel_rfl) (fun _ _ _ h => h) rfl (by intro wz; go_simp; try rfl) ?_
      try simp only [List.getElem_toArray, List.getElem_cons_succ, List.getElem_cons_zero, Act.put, List.setIfInBounds_toArray, List.set_cons_zero, List.set_cons_succ]
      refine wpAnyY_takeF 1 (.slice (some ⟨gq, oq, none⟩) qn qc) rfl (by kernel_rfl) (fun _ _ _ h => h) rfl (by intro wz; go_simp; try rfl) ?_
      try simp only [List.getElem_toArray, List.getElem_cons_succ, List.getElem_cons_zero, Act.put, List.setIfInBounds_toArray, List.set_cons_zero, List.set_cons_succ]
      refine wpAnyY_takeF 2 (.int .i64 ((j : Int) + 1)) rfl (by kernel_rfl) (fun _ _ _ h => h) rfl (by intro wz; go_simp; try rfl) ?_
      try simp only [List.getElem_toArray, List.getElem_cons_succ, List.getElem_cons_zero, Act.put, List.setIfInBounds_toArray, List.set_cons_zero, List.set_cons_succ]
      refine wpAnyY_takeF 3 (.int .i64 (j : Int)) rfl (by kernel_rfl) (fun _ _ _ h => h) rfl (by intro wz; go_simp; rw [IntKind.wrap_i64]; omega) ?_
      try simp only [List.getElem_toArray, List.getElem_cons_succ, List.getElem_cons_zero, Act.put, List.setIfInBounds_toArray, List.set_cons_zero, List.set_cons_succ]
      refine wpAnyY_takeF 4 (.pointer (some ⟨gq, oq + j, none⟩)) rfl (by kernel_rfl) (fun _ _ _ h => h) rfl (by intro wz; go_simp; try rfl) ?_
      try simp only [List.getElem_toArray, List.getElem_cons_succ, List.getElem_cons_zero, Act.put, List.setIfInBounds_toArray, List.set_cons_zero, List.set_cons_succ]
      refine wpAnyY_take [] 5 (.int .i64 (a : Int)) rfl (by kernel_rfl) (fun _ _ _ h => h) SS rfl (by rintro wz ⟨⟨z1, z2⟩, z3, z4⟩; go_simp) ?_
      try simp only [List.getElem_toArray, List.getElem_cons_succ, List.getElem_cons_zero, Act.put, List.setIfInBounds_toArray, List.set_cons_zero, List.set_cons_succ]
      refine wpAnyY_takeF 6 (.pointer (some ⟨lb, lf + a * 4, none⟩)) rfl (by kernel_rfl) (fun _ _ _ h => h) rfl (by intro wz; go_simp; try rfl) ?_
      try simp only [List.getElem_toArray, List.getElem_cons_succ, List.getElem_cons_zero, Act.put, List.setIfInBounds_toArray, List.set_cons_zero, List.set_cons_succ]
      refine wpAnyY_take [] 7 (.agg #[.int .i64 (F a).st, .int .i64 (F a).fr, .int .i64 (F a).to', .int .i64 (F a).wo]) rfl (by kernel_rfl) (fun _ _ _ h => h) SS rfl (by rintro wz ⟨⟨z1, z2⟩, z3, z4⟩; exact ldMR rfl rfl z3 Try.underlying29 rfl Try.info_pa) ?_
      try simp only [List.getElem_toArray, List.getElem_cons_succ, List.getElem_cons_zero, Act.put, List.setIfInBounds_toArray, List.set_cons_zero, List.set_cons_succ]
      refine wpAnyY_takeF 8 (.slice (some ⟨lb, lf, none⟩) ln lc) rfl (by kernel_rfl) (fun _ _ _ h => h) rfl (by intro wz; go_simp; try rfl) ?_
      try simp only [List.getElem_toArray, List.getElem_cons_succ, List.getElem_cons_zero, Act.put, List.setIfInBounds_toArray, List.set_cons_zero, List.set_cons_succ]
      refine wpAnyY_takeF 9 (.slice (some ⟨gq, oq, none⟩) qn qc) rfl (by kernel_rfl) (fun _ _ _ h => h) rfl (by intro wz; go_simp; try rfl) ?_
      try simp only [List.getElem_toArray, List.getElem_cons_succ, List.getElem_cons_zero, Act.put, List.setIfInBounds_toArray, List.set_cons_zero, List.set_cons_succ]
      refine wpAnyY_takeF 10 (.int .i64 ((j : Int) + 1)) rfl (by kernel_rfl) (fun _ _ _ h => h) rfl (by intro wz; go_simp; try rfl) ?_
      try simp only [List.getElem_toArray, List.getElem_cons_succ, List.getElem_cons_zero, Act.put, List.setIfInBounds_toArray, List.set_cons_zero, List.set_cons_succ]
      refine wpAnyY_takeF 11 (.pointer (some ⟨gq, oq + (j + 1), none⟩)) rfl (by kernel_rfl) (fun _ _ _ h => h) rfl (by intro wz; go_simp; try rfl) ?_
      try simp only [List.getElem_toArray, List.getElem_cons_succ, List.getElem_cons_zero, Act.put, List.setIfInBounds_toArray, List.set_cons_zero, List.set_cons_succ]
      refine wpAnyY_take [] 12 (.int .i64 (b : Int)) rfl (by kernel_rfl) (fun _ _ _ h => h) SS rfl (by rintro wz ⟨⟨z1, z2⟩, z3, z4⟩; go_simp) ?_
      try simp only [List.getElem_toArray, List.getElem_cons_succ, List.getElem_cons_zero, Act.put, List.setIfInBounds_toArray, List.set_cons_zero, List.set_cons_succ]
      refine wpAnyY_takeF 13 (.pointer (some ⟨lb, lf + b * 4, none⟩)) rfl (by kernel_rfl) (fun _ _ _ h => h) rfl (by intro wz; go_simp; try rfl) ?_
      try simp only [List.getElem_toArray, List.getElem_cons_succ, List.getElem_cons_zero, Act.put, List.setIfInBounds_toArray, List.set_cons_zero, List.set_cons_succ]
      refine wpAnyY_take [] 14 (.agg #[.int .i64 (F b).st, .int .i64 (F b).fr, .int .i64 (F b).to', .int .i64 (F b).wo]) rfl (by kernel_rfl) (fun _ _ _ h => h) SS rfl (by rintro wz ⟨⟨z1, z2⟩, z3, z4⟩; exact ldMR rfl rfl z4 Try.underlying29 rfl Try.info_pa) ?_
      try simp only [List.getElem_toArray, List.getElem_cons_succ, List.getElem_cons_zero, Act.put, List.setIfInBounds_toArray, List.set_cons_zero, List.set_cons_succ]
      refine wpAnyY_twoB 15 16 rfl rfl (by kernel_rfl) (fun KK hKK => ?_) (fun KK hKK => ?_)
      ·
        go_simp
        have bx := BxS.new wd 29 #[.int .i64 0, .int .i64 0, .int .i64 0, .int .i64 0]
        have Gx := World.grownBy_alloc wd (.cells #[.int .i64 0, .int .i64 0, .int .i64 0, .int .i64 0] 29) none
        generalize wd.alloc (.cells #[.int .i64 0, .int .i64 0, .int .i64 0, .int .i64 0] 29) = wx at *
        refine hKK _ _ (fun h _ => ⟨⟨cell_grR h.1.1 Gx, cell_grR h.1.2 Gx⟩, range_kp h.2.1 Gx, range_kp h.2.2 Gx⟩) ?_
        try simp only [List.getElem_toArray, List.getElem_cons_succ, List.getElem_cons_zero, Act.put, List.setIfInBounds_toArray, List.set_cons_zero, List.set_cons_succ]
        refine wpAnyY_oneB 16 rfl (by kernel_rfl) (fun KK hKK => ?_)
        go_simp
        have by_ := BxS.new wx 29 #[.int .i64 0, .int .i64 0, .int .i64 0, .int .i64 0]
        have Gy := World.grownBy_alloc wx (.cells #[.int .i64 0, .int .i64 0, .int .i64 0, .int .i64 0] 29) none
        generalize wx.alloc (.cells #[.int .i64 0, .int .i64 0, .int .i64 0, .int .i64 0] 29) = wy at *
        refine hKK _ _ (fun h _ => ⟨⟨cell_grR h.1.1 Gy, cell_grR h.1.2 Gy⟩, range_kp h.2.1 Gy, range_kp h.2.2 Gy⟩) ?_
        try simp only [List.getElem_toArray, List.getElem_cons_succ, List.getElem_cons_zero, Act.put, List.setIfInBounds_toArray, List.set_cons_zero, List.set_cons_succ]
        have bx2 := bx.keep Gy (by simp)
        have hxy : wd.heap.size ≠ wx.heap.size := by have := bx.lt; omega
        refine wpAnyY_oneB 17 rfl (by kernel_rfl) (fun KK hKK => ?_)
        refine step_of_listR rfl ?_
        refine wpList_stX _ rfl _ _ _ rfl wd.heap.size _ ((F a).cells).toArray rfl rfl bx2 Try.info_pa rfl (by simp [Pa.cells, Value.oneCell']) ?_
        intro wu bu uu
        show KK _ wu
        refine hKK _ _ (fun h _ => ⟨⟨cell_neR h.1.1 uu (by have := cell_ltR ca; have := Gd.size; omega), cell_neR h.1.2 uu (by have := cell_ltR ca; have := Gd.size; omega)⟩, range_neR h.2.1 uu (by have := Gd.size; omega), range_neR h.2.2 uu (by have := Gd.size; omega)⟩) ?_
        try simp only [List.getElem_toArray, List.getElem_cons_succ, List.getElem_cons_zero, Act.put, List.setIfInBounds_toArray, List.set_cons_zero, List.set_cons_succ]
        have by2 := by_.keep uu (by simp; omega)
        refine wpAnyY_oneB 18 rfl (by kernel_rfl) (fun KK hKK => ?_)
        refine step_of_listR rfl ?_
        refine wpList_stX _ rfl _ _ _ rfl wx.heap.size _ ((F b).cells).toArray rfl rfl by2 Try.info_pa rfl (by simp [Pa.cells, Value.oneCell']) ?_
        intro wv bv uv
        show KK _ wv
        refine hKK _ _ (fun h _ => ⟨⟨cell_neR h.1.1 uv (by have := cell_ltR ca; have := Gd.size; have := Gx.size; omega), cell_neR h.1.2 uv (by have := cell_ltR ca; have := Gd.size; have := Gx.size; omega)⟩, range_neR h.2.1 uv (by have := Gd.size; have := Gx.size; omega), range_neR h.2.2 uv (by have := Gd.size; have := Gx.size; omega)⟩) ?_
        try simp only [List.getElem_toArray, List.getElem_cons_succ, List.getElem_cons_zero, Act.put, List.setIfInBounds_toArray, List.set_cons_zero, List.set_cons_succ]
        have bu2 := bu.keep uv (by simp; omega)
        have GA : w.grownBy wv none := grown_far (grown_far (grown_trans (grown_trans (grown_trans GR Gd) Gx) Gy) uu (fun z e => by cases e; exact (grown_trans GR Gd).size)) uv (fun z e => by cases e; exact (grown_trans (grown_trans GR Gd) Gx).size)
        refine wpAnyY_doneB (by kernel_rfl) ?_ _
        refine HK6.out _ _ ?_
        clear HK6
        refine or_t5 _ wv wd.heap.size wx.heap.size (F a) (F b) g hg ⟨by have h1 := (hok a).to'.1; have h2 := (hok a).fr.1; omega, (hok a).to'.2⟩ bu2 bv ?_ ?_
        · intro hm v10 v32 v33 v34 v35 v36 v37 v38 v39 v40 v41 v42 v43 v44 v45
          (try simp only [Exit.inBlock, Exit.then])
          refine HK5.out _ _ ?_
          clear HK5
          go_wp2
          go_roundw
          case rel =>
            refine ⟨j + 1, by omega, by go_num, fun j2 a2 b2 hj2 e1 e2 => ?_, GA⟩
            by_cases e : j2 = j
            · subst e
              rw [HQA.out] at e1
              rw [HQB.out] at e2
              cases e1
              cases e2
              exact hm
            · exact HC.out j2 a2 b2 (by omega) e1 e2
          case measure => simp [intOf] <;> omega
        · intro hm v10 v32 v33 v34 v35 v36 v37 v38 v39 v40 v41 v42 v43 v44 v45
          (try simp only [Exit.inBlock, Exit.then])
          show bodyPost Try.prog Try.f10 (fun e w' => ∃ b, e = .returned (.bool b) ∧ (b = true ↔ Ch F g Q) ∧ w.grownBy w' none) .ret _ _
          refine bodyPost_ret (results_tmp rfl _ _ _) rfl ?_
          refine ⟨false, rfl, ⟨(fun e => by cases e), fun e => ?_⟩, GA⟩
          have := (ch_iff F g Q).1 e j a b HQA.out HQB.out
          rw [hm] at this
          cases this
      ·
        go_simp
        have bx := BxS.new wd 29 #[.int .i64 0, .int .i64 0, .int .i64 0, .int .i64 0]
        have Gx := World.grownBy_alloc wd (.cells #[.int .i64 0, .int .i64 0, .int .i64 0, .int .i64 0] 29) none
        generalize wd.alloc (.cells #[.int .i64 0, .int .i64 0, .int .i64 0, .int .i64 0] 29) = wx at *
        refine hKK _ _ (fun h _ => ⟨⟨cell_grR h.1.1 Gx, cell_grR h.1.2 Gx⟩, range_kp h.2.1 Gx, range_kp h.2.2 Gx⟩) ?_
        try simp only [List.getElem_toArray, List.getElem_cons_succ, List.getElem_cons_zero, Act.put, List.setIfInBounds_toArray, List.set_cons_zero, List.set_cons_succ]
        refine wpAnyY_oneB 15 rfl (by kernel_rfl) (fun KK hKK => ?_)
        go_simp
        have by_ := BxS.new wx 29 #[.int .i64 0, .int .i64 0, .int .i64 0, .int .i64 0]
        have Gy := World.grownBy_alloc wx (.cells #[.int .i64 0, .int .i64 0, .int .i64 0, .int .i64 0] 29) none
        generalize wx.alloc (.cells #[.int .i64 0, .int .i64 0, .int .i64 0, .int .i64 0] 29) = wy at *
        refine hKK _ _ (fun h _ => ⟨⟨cell_grR h.1.1 Gy, cell_grR h.1.2 Gy⟩, range_kp h.2.1 Gy, range_kp h.2.2 Gy⟩) ?_
        try simp only [List.getElem_toArray, List.getElem_cons_succ, List.getElem_cons_zero, Act.put, List.setIfInBounds_toArray, List.set_cons_zero, List.set_cons_succ]
        have bx2 := bx.keep Gy (by simp)
        have hxy : wd.heap.size ≠ wx.heap.size := by have := bx.lt; omega
        refine wpAnyY_oneB 17 rfl (by kernel_rfl) (fun KK hKK => ?_)
        refine step_of_listR rfl ?_
        refine wpList_stX _ rfl _ _ _ rfl wx.heap.size _ ((F a).cells).toArray rfl rfl by_ Try.info_pa rfl (by simp [Pa.cells, Value.oneCell']) ?_
        intro wu bu uu
        show KK _ wu
        refine hKK _ _ (fun h _ => ⟨⟨cell_neR h.1.1 uu (by have := cell_ltR ca; have := Gd.size; have := Gx.size; omega), cell_neR h.1.2 uu (by have := cell_ltR ca; have := Gd.size; have := Gx.size; omega)⟩, range_neR h.2.1 uu (by have := Gd.size; have := Gx.size; omega), range_neR h.2.2 uu (by have := Gd.size; have := Gx.size; omega)⟩) ?_
        try simp only [List.getElem_toArray, List.getElem_cons_succ, List.getElem_cons_zero, Act.put, List.setIfInBounds_toArray, List.set_cons_zero, List.set_cons_succ]
        have bx3 := bx2.keep uu (by simp; omega)
        refine wpAnyY_oneB 18 rfl (by kernel_rfl) (fun KK hKK => ?_)
        refine step_of_listR rfl ?_
        refine wpList_stX _ rfl _ _ _ rfl wd.heap.size _ ((F b).cells).toArray rfl rfl bx3 Try.info_pa rfl (by simp [Pa.cells, Value.oneCell']) ?_
        intro wv bv uv
        show KK _ wv
        refine hKK _ _ (fun h _ => ⟨⟨cell_neR h.1.1 uv (by have := cell_ltR ca; have := Gd.size; omega), cell_neR h.1.2 uv (by have := cell_ltR ca; have := Gd.size; omega)⟩, range_neR h.2.1 uv (by have := Gd.size; omega), range_neR h.2.2 uv (by have := Gd.size; omega)⟩) ?_
        try simp only [List.getElem_toArray, List.getElem_cons_succ, List.getElem_cons_zero, Act.put, List.setIfInBounds_toArray, List.set_cons_zero, List.set_cons_succ]
        have bu2 := bu.keep uv (by simp; omega)
        have GA : w.grownBy wv none := grown_far (grown_far (grown_trans (grown_trans (grown_trans GR Gd) Gx) Gy) uu (fun z e => by cases e; exact (grown_trans (grown_trans GR Gd) Gx).size)) uv (fun z e => by cases e; exact (grown_trans GR Gd).size)
        refine wpAnyY_doneB (by kernel_rfl) ?_ _
        refine HK6.out _ _ ?_
        clear HK6
        refine or_t5 _ wv wx.heap.size wd.heap.size (F a) (F b) g hg ⟨by have h1 := (hok a).to'.1; have h2 := (hok a).fr.1; omega, (hok a).to'.2⟩ bu2 bv ?_ ?_
        · intro hm v10 v32 v33 v34 v35 v36 v37 v38 v39 v40 v41 v42 v43 v44 v45
          (try simp only [Exit.inBlock, Exit.then])
          refine HK5.out _ _ ?_
          clear HK5
          go_wp2
          go_roundw
          case rel =>
            refine ⟨j + 1, by omega, by go_num, fun j2 a2 b2 hj2 e1 e2 => ?_, GA⟩
            by_cases e : j2 = j
            · subst e
              rw [HQA.out] at e1
              rw [HQB.out] at e2
              cases e1
              cases e2
              exact hm
            · exact HC.out j2 a2 b2 (by omega) e1 e2
          case measure => simp [intOf] <;> omega
        · intro hm v10 v32 v33 v34 v35 v36 v37 v38 v39 v40 v41 v42 v43 v44 v45
          (try simp only [Exit.inBlock, Exit.then])
          show bodyPost Try.prog Try.f10 (fun e w' => ∃ b, e = .returned (.bool b) ∧ (b = true ↔ Ch F g Q) ∧ w.grownBy w' none) .ret _ _
          refine bodyPost_ret (results_tmp rfl _ _ _) rfl ?_
          refine ⟨false, rfl, ⟨(fun e => by cases e), fun e => ?_⟩, GA⟩
          have := (ch_iff F g Q).1 e j a b HQA.out HQB.out
          rw [hm] at this
          cases this
    · have lj : ¬ (j : Int) + 1 < (qn : Int) := by omega
      go_wp2
      refine HK1.out _ _ ?_
      clear HK1
      go_wp2
      first | go_ret | skip
      refine ⟨true, rfl, ⟨fun _ => (ch_iff F g Q).2 (fun j2 a2 b2 e1 e2 => HC.out j2 a2 b2 ?_ e1 e2), fun _ => rfl⟩, GR⟩
      have h1 := (List.getElem?_eq_some_iff.1 e2).1
      have h2 := HQL.out
      omega
end
end Go.Proofs.Ytpcejajijaphbaa
