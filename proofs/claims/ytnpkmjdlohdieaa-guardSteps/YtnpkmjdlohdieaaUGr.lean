import Derived.Test.YtnpkmjdlohdieaaUWt
namespace Go.Proofs.Ytnpkmjdlohdieaa
open Go.RowKit
set_option maxRecDepth 100000
set_option linter.unusedVariables false
set_option linter.unusedSimpArgs false
/-- the silence grows; trips grow older -/
def quF (qu si : Int) (he : Bool) : Int := if he = true then 0 else mnI (qu + 1) si
def olL (tr : List Int) : List Int := tr.map (· + 1)
def grL (tr : List Int) (wi : Int) : List Int := fkL (fun z => z == wi) (olL tr) tr.length
def grV (D : Vi) (G : Gd) (he : Bool) : Vi := ⟨D.sf, D.wy, D.bd, D.tp, quF D.qu G.si he, grL D.tr G.wi⟩
theorem grow1_any (bq g : Nat) (z wi : Int) (w : World) (c0 : w.cell? ⟨bq, 0, none⟩ = some (.pointer (some ⟨g, 0, none⟩))) (c9 : w.cell? ⟨g, 9, none⟩ = some (.int .i64 wi)) : Calls Try.prog 57 #[.int .i64 z, .pointer (some ⟨bq, 0, none⟩)] w fun e w' => e = .returned (.bool (z == wi)) ∧ w' = w := by
  go_enter Try.func57, Try.ntmps57
  go_wp2
  go_ret
  exact ⟨rfl, rfl⟩
theorem olL_nth (tr : List Int) (k : Nat) (h : k < tr.length) : nthI (olL tr) k = nthI tr k + 1 := by
  unfold nthI olL
  rw [List.getD_eq_getElem?_getD, List.getD_eq_getElem?_getD, List.getElem?_map, List.getElem?_eq_getElem h]
  rfl
theorem own_len (a : Option Addr) (n m c d : Nat) : (Value.slice a n c).ownBlock = (Value.slice a m d).ownBlock := by cases a <;> rfl
theorem ext_nth (S T : List Int) (hl : S.length = T.length) (h : ∀ k, k < S.length → nthI S k = nthI T k) : S = T := by
  apply List.ext_getElem hl
  intro i h1 h2
  have := h i h1
  unfold nthI at this
  rw [List.getD_eq_getElem?_getD, List.getD_eq_getElem?_getD, List.getElem?_eq_getElem h1, List.getElem?_eq_getElem h2] at this
  exact this
set_option maxHeartbeats 16000000 in
theorem grow_any (w0 : World) (g : Nat) (G : Gd) (A : Va) (D : Vi) (fa : Option Addr) (fn fc : Nat) (Fr : List Int) (he : Bool) (w : World) (h : WV w0 w g G A D fa fn fc Fr) (htr : D.tr.length ≤ 100) (hq0 : 0 ≤ D.qu) (hq1 : D.qu ≤ 1000000) (hs0 : 0 ≤ G.si) (hs1 : G.si ≤ 1000000) (ht : ∀ k, k < D.tr.length → 0 ≤ nthI D.tr k ∧ nthI D.tr k ≤ 1000000) :
    Calls Try.prog 47 #[.pointer (some ⟨g, 0, none⟩), .bool he] w fun e w' => e = .returned (.tuple #[]) ∧ ∃ A', WV w0 w' g G A' (grV D G he) fa fn fc Fr := by
  have b0 := BxS.new w 65 #[.pointer (some ⟨g, 0, none⟩)]
  have g0 := World.grownBy_alloc w (.cells #[.pointer (some ⟨g, 0, none⟩)] 65) none
  generalize hw0 : w.alloc (.cells #[.pointer (some ⟨g, 0, none⟩)] 65) = wb at b0 g0
  have h := h.keep g0
  have x0 : wb.cell? ⟨w.heap.size, 0, none⟩ = some (.pointer (some ⟨g, 0, none⟩)) := b0.cell 0 (by show 0 < 1; decide)
  have bx := h.box
  unfold wvA at bx
  obtain ⟨c0, c1, c2, c3, c4, c5, c6, c7, c8, c9, c10, c11⟩ := bx.cell12
  have nbg : w.heap.size ≠ g := fun e => by
    have e1 : wb.heap[g]? = _ := bx
    rw [← e, show wb.heap[w.heap.size]? = _ from b0] at e1
    have := Option.some.inj e1
    injection this with _ ht _
    exact absurd ht (by decide)
  obtain ⟨y, hy⟩ : ∃ y : Int, mnI (D.qu + 1) G.si = y := ⟨_, rfl⟩
  have hmin : (if G.si < D.qu + 1 then G.si else D.qu + 1) = y := hy
  have hwr : IntKind.i64.wrap (D.qu + 1) = D.qu + 1 := i64_in (by omega) (by omega)
  have f4 := bx.free 4
  have s0 : True := trivial
  go_enter Try.func47, Try.ntmps47
  go_wp2
  refine wp_regionL (fun wz => wz.cell? ⟨w.heap.size, 0, none⟩ = some (.pointer (some ⟨g, 0, none⟩)) ∧ wz.cell? ⟨g, 4, none⟩ = some (.int .i64 D.qu) ∧ wz.cell? ⟨g, 7, none⟩ = some (.int .i64 G.si)) [16] #[false, false, false, false, false, false, false, false, false, false, false, false, false, false, false, false, false] rfl (by kernel_rfl) ?_
  refine wpAnyZ_take [16] 0 (.pointer (some ⟨g, 0, none⟩)) rfl (by kernel_rfl) (fun _ _ _ h => h) ⟨x0, c4, c7⟩ rfl (by rintro wz ⟨z0, z4, z7⟩; go_simp) ?_
  try simp only [List.getElem_toArray, List.getElem_cons_succ, List.getElem_cons_zero, Act.put, List.setIfInBounds_toArray, List.set_cons_zero, List.set_cons_succ]
  refine wpAnyZ_take [16] 1 (.pointer (some ⟨g, 0, none⟩)) rfl (by kernel_rfl) (fun _ _ _ h => h) ⟨x0, c4, c7⟩ rfl (by rintro wz ⟨z0, z4, z7⟩; go_simp) ?_
  try simp only [List.getElem_toArray, List.getElem_cons_succ, List.getElem_cons_zero, Act.put, List.setIfInBounds_toArray, List.set_cons_zero, List.set_cons_succ]
  refine wpAnyZ_take [16] 2 (.pointer (some ⟨g, 0, none⟩)) rfl (by kernel_rfl) (fun _ _ _ h => h) ⟨x0, c4, c7⟩ rfl (by rintro wz ⟨z0, z4, z7⟩; go_simp) ?_
  try simp only [List.getElem_toArray, List.getElem_cons_succ, List.getElem_cons_zero, Act.put, List.setIfInBounds_toArray, List.set_cons_zero, List.set_cons_succ]
  refine wpAnyZ_take [16] 3 (.pointer (some ⟨g, 0, none⟩)) rfl (by kernel_rfl) (fun _ _ _ h => h) ⟨x0, c4, c7⟩ rfl (by rintro wz ⟨z0, z4, z7⟩; go_simp) ?_
  try simp only [List.getElem_toArray, List.getElem_cons_succ, List.getElem_cons_zero, Act.put, List.setIfInBounds_toArray, List.set_cons_zero, List.set_cons_succ]
  refine wpAnyZ_take [16] 4 (.pointer (some ⟨g, 4, none⟩)) rfl (by kernel_rfl) (fun _ _ _ h => h) ⟨x0, c4, c7⟩ rfl (by rintro wz ⟨z0, z4, z7⟩; go_simp) ?_
  try simp only [List.getElem_toArray, List.getElem_cons_succ, List.getElem_cons_zero, Act.put, List.setIfInBounds_toArray, List.set_cons_zero, List.set_cons_succ]
  refine wpAnyZ_take [16] 5 (.int .i64 D.qu) rfl (by kernel_rfl) (fun _ _ _ h => h) ⟨x0, c4, c7⟩ rfl (by rintro wz ⟨z0, z4, z7⟩; go_simp) ?_
  try simp only [List.getElem_toArray, List.getElem_cons_succ, List.getElem_cons_zero, Act.put, List.setIfInBounds_toArray, List.set_cons_zero, List.set_cons_succ]
  refine wpAnyZ_take [16] 6 (.int .i64 (D.qu + 1)) rfl (by kernel_rfl) (fun _ _ _ h => h) ⟨x0, c4, c7⟩ rfl (by rintro wz ⟨z0, z4, z7⟩; go_simp) ?_
  try simp only [List.getElem_toArray, List.getElem_cons_succ, List.getElem_cons_zero, Act.put, List.setIfInBounds_toArray, List.set_cons_zero, List.set_cons_succ]
  refine wpAnyZ_take [16] 7 (.pointer (some ⟨g, 0, none⟩)) rfl (by kernel_rfl) (fun _ _ _ h => h) ⟨x0, c4, c7⟩ rfl (by rintro wz ⟨z0, z4, z7⟩; go_simp) ?_
  try simp only [List.getElem_toArray, List.getElem_cons_succ, List.getElem_cons_zero, Act.put, List.setIfInBounds_toArray, List.set_cons_zero, List.set_cons_succ]
  refine wpAnyZ_take [16] 8 (.pointer (some ⟨g, 0, none⟩)) rfl (by kernel_rfl) (fun _ _ _ h => h) ⟨x0, c4, c7⟩ rfl (by rintro wz ⟨z0, z4, z7⟩; go_simp) ?_
  try simp only [List.getElem_toArray, List.getElem_cons_succ, List.getElem_cons_zero, Act.put, List.setIfInBounds_toArray, List.set_cons_zero, List.set_cons_succ]
  refine wpAnyZ_take [16] 9 (.pointer (some ⟨g, 6, none⟩)) rfl (by kernel_rfl) (fun _ _ _ h => h) ⟨x0, c4, c7⟩ rfl (by rintro wz ⟨z0, z4, z7⟩; go_simp) ?_
  try simp only [List.getElem_toArray, List.getElem_cons_succ, List.getElem_cons_zero, Act.put, List.setIfInBounds_toArray, List.set_cons_zero, List.set_cons_succ]
  refine wpAnyZ_take [16] 10 (.pointer (some ⟨g, 7, none⟩)) rfl (by kernel_rfl) (fun _ _ _ h => h) ⟨x0, c4, c7⟩ rfl (by rintro wz ⟨z0, z4, z7⟩; go_simp) ?_
  try simp only [List.getElem_toArray, List.getElem_cons_succ, List.getElem_cons_zero, Act.put, List.setIfInBounds_toArray, List.set_cons_zero, List.set_cons_succ]
  refine wpAnyZ_take [16] 11 (.int .i64 G.si) rfl (by kernel_rfl) (fun _ _ _ h => h) ⟨x0, c4, c7⟩ rfl (by rintro wz ⟨z0, z4, z7⟩; go_simp) ?_
  try simp only [List.getElem_toArray, List.getElem_cons_succ, List.getElem_cons_zero, Act.put, List.setIfInBounds_toArray, List.set_cons_zero, List.set_cons_succ]
  refine wpAnyZ_take [16] 12 (.int .i64 y) rfl (by kernel_rfl) (fun _ _ _ h => h) ⟨x0, c4, c7⟩ rfl (by rintro wz ⟨z0, z4, z7⟩; go_simp) ?_
  try simp only [List.getElem_toArray, List.getElem_cons_succ, List.getElem_cons_zero, Act.put, List.setIfInBounds_toArray, List.set_cons_zero, List.set_cons_succ]
  refine wpAnyZ_take [14, 15, 16] 13 (.pointer (some ⟨g, 0, none⟩)) rfl (by kernel_rfl) (fun _ _ _ h => h) ⟨x0, c4, c7⟩ rfl (by rintro wz ⟨z0, z4, z7⟩; go_simp) ?_
  try simp only [List.getElem_toArray, List.getElem_cons_succ, List.getElem_cons_zero, Act.put, List.setIfInBounds_toArray, List.set_cons_zero, List.set_cons_succ]
  refine wpAnyZ_take [15, 16] 14 (.pointer (some ⟨g, 0, none⟩)) rfl (by kernel_rfl) (fun _ _ _ h => h) ⟨x0, c4, c7⟩ rfl (by rintro wz ⟨z0, z4, z7⟩; go_simp) ?_
  try simp only [List.getElem_toArray, List.getElem_cons_succ, List.getElem_cons_zero, Act.put, List.setIfInBounds_toArray, List.set_cons_zero, List.set_cons_succ]
  refine wpAnyZ_take [16] 15 (.pointer (some ⟨g, 4, none⟩)) rfl (by kernel_rfl) (fun _ _ _ h => h) ⟨x0, c4, c7⟩ rfl (by rintro wz ⟨z0, z4, z7⟩; go_simp) ?_
  try simp only [List.getElem_toArray, List.getElem_cons_succ, List.getElem_cons_zero, Act.put, List.setIfInBounds_toArray, List.set_cons_zero, List.set_cons_succ]
  refine wpAnyZ_oneB 16 rfl (by kernel_rfl) (fun K hK => ?_)
  refine step_skip (w' := wb.drew.setCell ⟨g, 4, none⟩ (.int .i64 y)) rfl (by go_simp) ?_
  refine hK _ _ (fun h => absurd (by decide) h) ?_
  try simp only [List.getElem_toArray, List.getElem_cons_succ, List.getElem_cons_zero, Act.put, List.setIfInBounds_toArray, List.set_cons_zero, List.set_cons_succ]
  refine wpAnyZ_doneB (by kernel_rfl) ?_ _
  have u1 := grown_set wb.drew g 4 (.int .i64 y)
  have bx1 : BxS (wb.drew.setCell ⟨g, 4, none⟩ (.int .i64 y)) g 69 #[.bool D.sf, .int .i64 D.wy, .slice (A.ab) (A.nb) (A.cb), .slice (A.ap) (A.np) (A.cp), .int .i64 (y), .slice (A.at') (A.nt) (A.ct), .slice G.ma G.n G.mc, .int .i64 G.si, .int .i64 G.mo, .int .i64 G.wi, .string G.sa, .slice (fa) (fn) (fc)] := by
    have := (bx.keep (grown_drew wb none) (by simp)).set 4 (.int .i64 y)
    exact this
  have h1 := (h.keep (grown_drew wb none)).setS D.sf D.wy y bx1 u1
  have b1 := (b0.keep (grown_drew wb none) (by simp)).keep u1 (fun e => nbg (Option.some.inj e))
  generalize wb.drew.setCell ⟨g, 4, none⟩ (.int .i64 y) = w1 at *
  clear c0 c1 c2 c3 c4 c5 c6 c7 c8 c9 c10 c11 bx h x0 f4 hmin hwr
  -- the two ways meet: w2, with the silence q2
  have hfin : ∀ (a : Act) (w2 : World) (q2 : Int), True := fun _ _ _ => trivial
  clear hfin
  have x1 : w1.cell? ⟨w.heap.size, 0, none⟩ = some (.pointer (some ⟨g, 0, none⟩)) := b1.cell 0 (by show 0 < 1; decide)
  obtain ⟨c0, c1, c2, c3, c4, c5, c6, c7, c8, c9, c10, c11⟩ := bx1.cell12
  have s1 : True := trivial
  cases he
  · have h1' : WV w0 w1 g G A ⟨D.sf, D.wy, D.bd, D.tp, quF D.qu G.si false, D.tr⟩ fa fn fc Fr := by rw [show quF D.qu G.si false = y from hy]; exact h1
    have HQF : Hid (quF D.qu G.si false = y) := hy
    clear hy
    go_wp2
    clear c0 c1 c2 c3 c4 c5 c6 c7 c8 c9 c10 c11
    have hln : D.tr.length = A.nt := by rw [← zys_length]; exact h1.v.t.len
    have HLN : Hid (D.tr.length = A.nt) := hln
    have hn100 : A.nt ≤ 100 := by omega
    clear hln
    go_loopw [32] (fun iv wr => ∃ (k : Nat) (Y : List Int), iv = .int .i64 k ∧ k ≤ A.nt ∧ Y.length = A.nt ∧ WV w0 wr g G A ⟨D.sf, D.wy, D.bd, D.tp, y, Y⟩ fa fn fc Fr ∧ BxS wr w.heap.size 65 #[.pointer (some ⟨g, 0, none⟩)] ∧ (∀ j, j < A.nt → nthI Y j = if j < k then nthI D.tr j + 1 else nthI D.tr j)) (fun iv _ => A.nt - (intOf iv).toNat)
    case atStart => exact ⟨0, D.tr, by go_num, Nat.zero_le _, HLN.out, h1, b1, fun j _ => by rw [if_neg (by omega)]⟩
    case round =>
      obtain ⟨k, Y, rfl, hk, hY, hW, hB, HQ⟩ := hrel
      have HQ' : Hid (∀ j, j < A.nt → nthI Y j = if j < k then nthI D.tr j + 1 else nthI D.tr j) := HQ
      have HY' : Hid (Y.length = A.nt) := hY
      clear HQ hY
      have xr : wr.cell? ⟨w.heap.size, 0, none⟩ = some (.pointer (some ⟨g, 0, none⟩)) := hB.cell 0 (by show 0 < 1; decide)
      have bxr := hW.box
      unfold wvA at bxr
      obtain ⟨c0, c1, c2, c3, c4, c5, c6, c7, c8, c9, c10, c11⟩ := bxr.cell12
      by_cases hlt : k < A.nt
      · have hlt' : (k : Int) < (A.nt : Int) := by omega
        obtain ⟨gt, et, gtl, gth⟩ := hW.v.t.some_of (by omega)
        have hv := hW.v.t
        have hmx := hv.max
        have hmm : maxLen ≤ 9223372036854775807 := by decide
        have hkn : nthI Y k = nthI D.tr k := by rw [HQ'.out k hlt, if_neg (by omega)]
        have hbd := ht k (by rw [HLN.out]; exact hlt)
        have hS := hW.setT et k (nthI D.tr k + 1)
        have nbt : some w.heap.size ≠ some gt := fun e => by
          have e1 := hv.ne_box hB (by decide)
          rw [et] at e1
          exact e1 e.symm
        rw [et] at hv c5
        have ck := hv.cell k _ (zys_at Y k (by rw [HY'.out]; exact hlt))
        rw [hkn] at ck
        have fk := hv.free k
        have HK : Hid (nthI Y k = nthI D.tr k) := hkn
        clear hkn hv ht
        have hb1 := hbd.1
        have hb2 := hbd.2
        generalize hz : nthI D.tr k = z at *
        have HZ : Hid (nthI D.tr k = z) := hz
        clear hz
        go_wp2
        go_roundw
        case rel =>
          refine ⟨k + 1, Y.set k (z + 1), by go_num, by omega, by rw [List.length_set]; exact HY'.out, hS, hB.keep (grown_set _ _ _ _) nbt, fun j hj => ?_⟩
          by_cases e : k = j
          · subst e
            rw [set_at Y k (z + 1) (by rw [HY'.out]; exact hlt), if_pos (by omega), HZ.out]
          · rw [nthI_set_ne Y k j _ e, HQ'.out j hj]
            by_cases h1 : j < k
            · rw [if_pos h1, if_pos (by omega)]
            · rw [if_neg h1, if_neg (by omega)]
        case measure => simp [intOf]; omega
      · have hlt' : ¬ (k : Int) < (A.nt : Int) := by omega
        obtain rfl : k = A.nt := by omega
        have hYe : Y = olL D.tr := by
          apply ext_nth
          · unfold olL; rw [List.length_map, HLN.out]; exact HY'.out
          · intro j hj
            rw [HY'.out] at hj
            rw [HQ'.out j hj, if_pos hj, olL_nth D.tr j (by rw [HLN.out]; exact hj)]
        subst hYe
        have hv := hW.v.t
        have ntg := hv.ne_box hW.box (by decide)
        have ntb := hv.ne_box hB (by decide)
        have hD := fun (wd : World) (hd : wr.grownBy wd none) => deleteF_any (fun z => z == G.wi) (.pointer (some ⟨w.heap.size, 0, none⟩)) A.at' A.nt A.ct w0.heap.size (olL D.tr) wd (hv.keep hd) (by omega) (fun z wz hz => grow1_any w.heap.size g z G.wi wz (((hB.keep hd (by simp)).keep hz (fun e => ntb e.symm)).cell 0 (by show 0 < 1; decide)) (((bxr.keep hd (by simp)).keep hz (fun e => ntg e.symm)).cell12).2.2.2.2.2.2.2.2.2.1)
        have HGL : Hid (fkL (fun z => z == G.wi) (olL D.tr) A.nt = grL D.tr G.wi) := by
          show _ = _
          unfold grL
          rw [HLN.out]
        rw [HGL.out] at hD
        clear ht HQ' HY'
        go_wp2
        refine wp_regionL (fun wz => wz.cell? ⟨w.heap.size, 0, none⟩ = some (.pointer (some ⟨g, 0, none⟩)) ∧ wz.cell? ⟨g, 5, none⟩ = some (.slice A.at' A.nt A.ct)) [11] #[false, false, false, false, false, false, false, false, false, false, false, false] rfl (by kernel_rfl) ?_
        refine wpAnyZ_take [8, 9, 10, 11] 0 (.pointer (some ⟨g, 0, none⟩)) rfl (by kernel_rfl) (fun _ _ _ h => h) ⟨xr, c5⟩ rfl (by rintro wz ⟨z0, z5⟩; go_simp) ?_
        try simp only [List.getElem_toArray, List.getElem_cons_succ, List.getElem_cons_zero, Act.put, List.setIfInBounds_toArray, List.set_cons_zero, List.set_cons_succ]
        refine wpAnyZ_take [2, 3, 4, 5, 7, 11] 1 (.pointer (some ⟨g, 0, none⟩)) rfl (by kernel_rfl) (fun _ _ _ h => h) ⟨xr, c5⟩ rfl (by rintro wz ⟨z0, z5⟩; go_simp) ?_
        try simp only [List.getElem_toArray, List.getElem_cons_succ, List.getElem_cons_zero, Act.put, List.setIfInBounds_toArray, List.set_cons_zero, List.set_cons_succ]
        refine wpAnyZ_take [3, 4, 5, 7, 11] 2 (.pointer (some ⟨g, 0, none⟩)) rfl (by kernel_rfl) (fun _ _ _ h => h) ⟨xr, c5⟩ rfl (by rintro wz ⟨z0, z5⟩; go_simp) ?_
        try simp only [List.getElem_toArray, List.getElem_cons_succ, List.getElem_cons_zero, Act.put, List.setIfInBounds_toArray, List.set_cons_zero, List.set_cons_succ]
        refine wpAnyZ_take [4, 5, 7, 11] 3 (.pointer (some ⟨g, 0, none⟩)) rfl (by kernel_rfl) (fun _ _ _ h => h) ⟨xr, c5⟩ rfl (by rintro wz ⟨z0, z5⟩; go_simp) ?_
        try simp only [List.getElem_toArray, List.getElem_cons_succ, List.getElem_cons_zero, Act.put, List.setIfInBounds_toArray, List.set_cons_zero, List.set_cons_succ]
        refine wpAnyZ_take [5, 7, 11] 4 (.pointer (some ⟨g, 5, none⟩)) rfl (by kernel_rfl) (fun _ _ _ h => h) ⟨xr, c5⟩ rfl (by rintro wz ⟨z0, z5⟩; go_simp) ?_
        try simp only [List.getElem_toArray, List.getElem_cons_succ, List.getElem_cons_zero, Act.put, List.setIfInBounds_toArray, List.set_cons_zero, List.set_cons_succ]
        refine wpAnyZ_take [7, 11] 5 (.slice A.at' A.nt A.ct) rfl (by kernel_rfl) (fun _ _ _ h => h) ⟨xr, c5⟩ rfl (by rintro wz ⟨z0, z5⟩; go_simp) ?_
        try simp only [List.getElem_toArray, List.getElem_cons_succ, List.getElem_cons_zero, Act.put, List.setIfInBounds_toArray, List.set_cons_zero, List.set_cons_succ]
        refine wpAnyZ_take [7, 11] 6 (.func (.func 57) #[] #[.pointer (some ⟨w.heap.size, 0, none⟩)]) rfl (by kernel_rfl) (fun _ _ _ h => h) ⟨xr, c5⟩ rfl (by rintro wz ⟨z0, z5⟩; go_simp) ?_
        try simp only [List.getElem_toArray, List.getElem_cons_succ, List.getElem_cons_zero, Act.put, List.setIfInBounds_toArray, List.set_cons_zero, List.set_cons_succ]
        refine wpAnyZ_oneB 7 rfl (by kernel_rfl) (fun K hK => ?_)
        go_simp
        go_at_call 56
        refine (hD _ (grown_drew wr none)).mono ?_
        rintro e wq ⟨rfl, vq, uq⟩
        dsimp only
        have uq' : wr.grownBy wq (Value.slice A.at' A.nt A.ct).ownBlock := grown_trans (grown_drew wr _) uq
        have xq : wq.cell? ⟨w.heap.size, 0, none⟩ = some (.pointer (some ⟨g, 0, none⟩)) := (hB.keep uq' (fun e => ntb e.symm)).cell 0 (by show 0 < 1; decide)
        have bxq := bxr.keep uq' (fun e => ntg e.symm)
        have cq := bxq.cell12
        have c5q := cq.2.2.2.2.2.1
        have f5q := bxq.free 5
        refine hK _ _ (fun _ => ⟨xq, c5q⟩) ?_
        try simp only [List.getElem_toArray, List.getElem_cons_succ, List.getElem_cons_zero, Act.put, List.setIfInBounds_toArray, List.set_cons_zero, List.set_cons_succ]
        refine wpAnyZ_take [9, 10, 11] 8 (.pointer (some ⟨g, 0, none⟩)) rfl (by kernel_rfl) (fun _ _ _ h => h) ⟨xq, c5q⟩ rfl (by rintro wz ⟨z0, z5⟩; go_simp) ?_
        try simp only [List.getElem_toArray, List.getElem_cons_succ, List.getElem_cons_zero, Act.put, List.setIfInBounds_toArray, List.set_cons_zero, List.set_cons_succ]
        refine wpAnyZ_take [10, 11] 9 (.pointer (some ⟨g, 0, none⟩)) rfl (by kernel_rfl) (fun _ _ _ h => h) ⟨xq, c5q⟩ rfl (by rintro wz ⟨z0, z5⟩; go_simp) ?_
        try simp only [List.getElem_toArray, List.getElem_cons_succ, List.getElem_cons_zero, Act.put, List.setIfInBounds_toArray, List.set_cons_zero, List.set_cons_succ]
        refine wpAnyZ_take [11] 10 (.pointer (some ⟨g, 5, none⟩)) rfl (by kernel_rfl) (fun _ _ _ h => h) ⟨xq, c5q⟩ rfl (by rintro wz ⟨z0, z5⟩; go_simp) ?_
        try simp only [List.getElem_toArray, List.getElem_cons_succ, List.getElem_cons_zero, Act.put, List.setIfInBounds_toArray, List.set_cons_zero, List.set_cons_succ]
        refine wpAnyZ_oneB 11 rfl (by kernel_rfl) (fun K hK => ?_)
        refine step_skip (w' := wq.setCell ⟨g, 5, none⟩ (.slice A.at' (grL D.tr G.wi).length A.ct)) rfl (by go_simp) ?_
        refine hK _ _ (fun h => absurd (by decide) h) ?_
        try simp only [List.getElem_toArray, List.getElem_cons_succ, List.getElem_cons_zero, Act.put, List.setIfInBounds_toArray, List.set_cons_zero, List.set_cons_succ]
        refine wpAnyZ_doneB (by kernel_rfl) ?_ _
        have u9 := grown_set wq g 5 (.slice A.at' (grL D.tr G.wi).length A.ct)
        have bx9 := bxq.set 5 (.slice A.at' (grL D.tr G.wi).length A.ct)
        have h9 := hW.newT (a' := A.at') (n' := (grL D.tr G.wi).length) (c' := A.ct) (tr := grL D.tr G.wi) vq uq' (fun x e => .inl ((own_len _ _ _ _ _).trans e)) bx9 u9
        go_wp2
        go_end0
        exact ⟨rfl, _, by unfold grV; rw [HQF.out]; exact h9⟩
  · have HQF : Hid (quF D.qu G.si true = 0) := rfl
    go_wp2_with (have _t := s1; clear s1; refine wpList_stC _ rfl _ _ _ rfl g 4 69 _ #[.bool D.sf, .int .i64 D.wy, .slice (A.ab) (A.nb) (A.cb), .slice (A.ap) (A.np) (A.cp), .int .i64 (0), .slice (A.at') (A.nt) (A.ct), .slice G.ma G.n G.mc, .int .i64 G.si, .int .i64 G.mo, .int .i64 G.wi, .string G.sa, .slice (fa) (fn) (fc)] (.int .i64 0) rfl rfl bx1 (stc_int _ _ _) (by show 4 < 12; decide) rfl ?_; intro w2 bx2 u2; clear c0 c1 c2 c3 c4 c5 c6 c7 c8 c9 c10 c11; obtain ⟨c0, c1, c2, c3, c4, c5, c6, c7, c8, c9, c10, c11⟩ := bx2.cell12; have b2 := b1.keep u2 (fun e => nbg (Option.some.inj e)); have h2 := h1.setS D.sf D.wy 0 bx2 u2; have x2 : w2.cell? ⟨w.heap.size, 0, none⟩ = some (.pointer (some ⟨g, 0, none⟩)) := b2.cell 0 (by show 0 < 1; decide))
    clear c0 c1 c2 c3 c4 c5 c6 c7 c8 c9 c10 c11
    have hln : D.tr.length = A.nt := by rw [← zys_length]; exact h2.v.t.len
    have HLN : Hid (D.tr.length = A.nt) := hln
    have hn100 : A.nt ≤ 100 := by omega
    clear hln
    go_loopw [32] (fun iv wr => ∃ (k : Nat) (Y : List Int), iv = .int .i64 k ∧ k ≤ A.nt ∧ Y.length = A.nt ∧ WV w0 wr g G A ⟨D.sf, D.wy, D.bd, D.tp, 0, Y⟩ fa fn fc Fr ∧ BxS wr w.heap.size 65 #[.pointer (some ⟨g, 0, none⟩)] ∧ (∀ j, j < A.nt → nthI Y j = if j < k then nthI D.tr j + 1 else nthI D.tr j)) (fun iv _ => A.nt - (intOf iv).toNat)
    case atStart => exact ⟨0, D.tr, by go_num, Nat.zero_le _, HLN.out, h2, b2, fun j _ => by rw [if_neg (by omega)]⟩
    case round =>
      obtain ⟨k, Y, rfl, hk, hY, hW, hB, HQ⟩ := hrel
      have HQ' : Hid (∀ j, j < A.nt → nthI Y j = if j < k then nthI D.tr j + 1 else nthI D.tr j) := HQ
      have HY' : Hid (Y.length = A.nt) := hY
      clear HQ hY
      have xr : wr.cell? ⟨w.heap.size, 0, none⟩ = some (.pointer (some ⟨g, 0, none⟩)) := hB.cell 0 (by show 0 < 1; decide)
      have bxr := hW.box
      unfold wvA at bxr
      obtain ⟨c0, c1, c2, c3, c4, c5, c6, c7, c8, c9, c10, c11⟩ := bxr.cell12
      by_cases hlt : k < A.nt
      · have hlt' : (k : Int) < (A.nt : Int) := by omega
        obtain ⟨gt, et, gtl, gth⟩ := hW.v.t.some_of (by omega)
        have hv := hW.v.t
        have hmx := hv.max
        have hmm : maxLen ≤ 9223372036854775807 := by decide
        have hkn : nthI Y k = nthI D.tr k := by rw [HQ'.out k hlt, if_neg (by omega)]
        have hbd := ht k (by rw [HLN.out]; exact hlt)
        have hS := hW.setT et k (nthI D.tr k + 1)
        have nbt : some w.heap.size ≠ some gt := fun e => by
          have e1 := hv.ne_box hB (by decide)
          rw [et] at e1
          exact e1 e.symm
        rw [et] at hv c5
        have ck := hv.cell k _ (zys_at Y k (by rw [HY'.out]; exact hlt))
        rw [hkn] at ck
        have fk := hv.free k
        have HK : Hid (nthI Y k = nthI D.tr k) := hkn
        clear hkn hv ht
        have hb1 := hbd.1
        have hb2 := hbd.2
        generalize hz : nthI D.tr k = z at *
        have HZ : Hid (nthI D.tr k = z) := hz
        clear hz
        go_wp2
        go_roundw
        case rel =>
          refine ⟨k + 1, Y.set k (z + 1), by go_num, by omega, by rw [List.length_set]; exact HY'.out, hS, hB.keep (grown_set _ _ _ _) nbt, fun j hj => ?_⟩
          by_cases e : k = j
          · subst e
            rw [set_at Y k (z + 1) (by rw [HY'.out]; exact hlt), if_pos (by omega), HZ.out]
          · rw [nthI_set_ne Y k j _ e, HQ'.out j hj]
            by_cases h1 : j < k
            · rw [if_pos h1, if_pos (by omega)]
            · rw [if_neg h1, if_neg (by omega)]
        case measure => simp [intOf]; omega
      · have hlt' : ¬ (k : Int) < (A.nt : Int) := by omega
        obtain rfl : k = A.nt := by omega
        have hYe : Y = olL D.tr := by
          apply ext_nth
          · unfold olL; rw [List.length_map, HLN.out]; exact HY'.out
          · intro j hj
            rw [HY'.out] at hj
            rw [HQ'.out j hj, if_pos hj, olL_nth D.tr j (by rw [HLN.out]; exact hj)]
        subst hYe
        have hv := hW.v.t
        have ntg := hv.ne_box hW.box (by decide)
        have ntb := hv.ne_box hB (by decide)
        have hD := fun (wd : World) (hd : wr.grownBy wd none) => deleteF_any (fun z => z == G.wi) (.pointer (some ⟨w.heap.size, 0, none⟩)) A.at' A.nt A.ct w0.heap.size (olL D.tr) wd (hv.keep hd) (by omega) (fun z wz hz => grow1_any w.heap.size g z G.wi wz (((hB.keep hd (by simp)).keep hz (fun e => ntb e.symm)).cell 0 (by show 0 < 1; decide)) (((bxr.keep hd (by simp)).keep hz (fun e => ntg e.symm)).cell12).2.2.2.2.2.2.2.2.2.1)
        have HGL : Hid (fkL (fun z => z == G.wi) (olL D.tr) A.nt = grL D.tr G.wi) := by
          show _ = _
          unfold grL
          rw [HLN.out]
        rw [HGL.out] at hD
        clear ht HQ' HY'
        go_wp2
        refine wp_regionL (fun wz => wz.cell? ⟨w.heap.size, 0, none⟩ = some (.pointer (some ⟨g, 0, none⟩)) ∧ wz.cell? ⟨g, 5, none⟩ = some (.slice A.at' A.nt A.ct)) [11] #[false, false, false, false, false, false, false, false, false, false, false, false] rfl (by kernel_rfl) ?_
        refine wpAnyZ_take [8, 9, 10, 11] 0 (.pointer (some ⟨g, 0, none⟩)) rfl (by kernel_rfl) (fun _ _ _ h => h) ⟨xr, c5⟩ rfl (by rintro wz ⟨z0, z5⟩; go_simp) ?_
        try simp only [List.getElem_toArray, List.getElem_cons_succ, List.getElem_cons_zero, Act.put, List.setIfInBounds_toArray, List.set_cons_zero, List.set_cons_succ]
        refine wpAnyZ_take [2, 3, 4, 5, 7, 11] 1 (.pointer (some ⟨g, 0, none⟩)) rfl (by kernel_rfl) (fun _ _ _ h => h) ⟨xr, c5⟩ rfl (by rintro wz ⟨z0, z5⟩; go_simp) ?_
        try simp only [List.getElem_toArray, List.getElem_cons_succ, List.getElem_cons_zero, Act.put, List.setIfInBounds_toArray, List.set_cons_zero, List.set_cons_succ]
        refine wpAnyZ_take [3, 4, 5, 7, 11] 2 (.pointer (some ⟨g, 0, none⟩)) rfl (by kernel_rfl) (fun _ _ _ h => h) ⟨xr, c5⟩ rfl (by rintro wz ⟨z0, z5⟩; go_simp) ?_
        try simp only [List.getElem_toArray, List.getElem_cons_succ, List.getElem_cons_zero, Act.put, List.setIfInBounds_toArray, List.set_cons_zero, List.set_cons_succ]
        refine wpAnyZ_take [4, 5, 7, 11] 3 (.pointer (some ⟨g, 0, none⟩)) rfl (by kernel_rfl) (fun _ _ _ h => h) ⟨xr, c5⟩ rfl (by rintro wz ⟨z0, z5⟩; go_simp) ?_
        try simp only [List.getElem_toArray, List.getElem_cons_succ, List.getElem_cons_zero, Act.put, List.setIfInBounds_toArray, List.set_cons_zero, List.set_cons_succ]
        refine wpAnyZ_take [5, 7, 11] 4 (.pointer (some ⟨g, 5, none⟩)) rfl (by kernel_rfl) (fun _ _ _ h => h) ⟨xr, c5⟩ rfl (by rintro wz ⟨z0, z5⟩; go_simp) ?_
        try simp only [List.getElem_toArray, List.getElem_cons_succ, List.getElem_cons_zero, Act.put, List.setIfInBounds_toArray, List.set_cons_zero, List.set_cons_succ]
        refine wpAnyZ_take [7, 11] 5 (.slice A.at' A.nt A.ct) rfl (by kernel_rfl) (fun _ _ _ h => h) ⟨xr, c5⟩ rfl (by rintro wz ⟨z0, z5⟩; go_simp) ?_
        try simp only [List.getElem_toArray, List.getElem_cons_succ, List.getElem_cons_zero, Act.put, List.setIfInBounds_toArray, List.set_cons_zero, List.set_cons_succ]
        refine wpAnyZ_take [7, 11] 6 (.func (.func 57) #[] #[.pointer (some ⟨w.heap.size, 0, none⟩)]) rfl (by kernel_rfl) (fun _ _ _ h => h) ⟨xr, c5⟩ rfl (by rintro wz ⟨z0, z5⟩; go_simp) ?_
        try simp only [List.getElem_toArray, List.getElem_cons_succ, List.getElem_cons_zero, Act.put, List.setIfInBounds_toArray, List.set_cons_zero, List.set_cons_succ]
        refine wpAnyZ_oneB 7 rfl (by kernel_rfl) (fun K hK => ?_)
        go_simp
        go_at_call 56
        refine (hD _ (grown_drew wr none)).mono ?_
        rintro e wq ⟨rfl, vq, uq⟩
        dsimp only
        have uq' : wr.grownBy wq (Value.slice A.at' A.nt A.ct).ownBlock := grown_trans (grown_drew wr _) uq
        have xq : wq.cell? ⟨w.heap.size, 0, none⟩ = some (.pointer (some ⟨g, 0, none⟩)) := (hB.keep uq' (fun e => ntb e.symm)).cell 0 (by show 0 < 1; decide)
        have bxq := bxr.keep uq' (fun e => ntg e.symm)
        have cq := bxq.cell12
        have c5q := cq.2.2.2.2.2.1
        have f5q := bxq.free 5
        refine hK _ _ (fun _ => ⟨xq, c5q⟩) ?_
        try simp only [List.getElem_toArray, List.getElem_cons_succ, List.getElem_cons_zero, Act.put, List.setIfInBounds_toArray, List.set_cons_zero, List.set_cons_succ]
        refine wpAnyZ_take [9, 10, 11] 8 (.pointer (some ⟨g, 0, none⟩)) rfl (by kernel_rfl) (fun _ _ _ h => h) ⟨xq, c5q⟩ rfl (by rintro wz ⟨z0, z5⟩; go_simp) ?_
        try simp only [List.getElem_toArray, List.getElem_cons_succ, List.getElem_cons_zero, Act.put, List.setIfInBounds_toArray, List.set_cons_zero, List.set_cons_succ]
        refine wpAnyZ_take [10, 11] 9 (.pointer (some ⟨g, 0, none⟩)) rfl (by kernel_rfl) (fun _ _ _ h => h) ⟨xq, c5q⟩ rfl (by rintro wz ⟨z0, z5⟩; go_simp) ?_
        try simp only [List.getElem_toArray, List.getElem_cons_succ, List.getElem_cons_zero, Act.put, List.setIfInBounds_toArray, List.set_cons_zero, List.set_cons_succ]
        refine wpAnyZ_take [11] 10 (.pointer (some ⟨g, 5, none⟩)) rfl (by kernel_rfl) (fun _ _ _ h => h) ⟨xq, c5q⟩ rfl (by rintro wz ⟨z0, z5⟩; go_simp) ?_
        try simp only [List.getElem_toArray, List.getElem_cons_succ, List.getElem_cons_zero, Act.put, List.setIfInBounds_toArray, List.set_cons_zero, List.set_cons_succ]
        refine wpAnyZ_oneB 11 rfl (by kernel_rfl) (fun K hK => ?_)
        refine step_skip (w' := wq.setCell ⟨g, 5, none⟩ (.slice A.at' (grL D.tr G.wi).length A.ct)) rfl (by go_simp) ?_
        refine hK _ _ (fun h => absurd (by decide) h) ?_
        try simp only [List.getElem_toArray, List.getElem_cons_succ, List.getElem_cons_zero, Act.put, List.setIfInBounds_toArray, List.set_cons_zero, List.set_cons_succ]
        refine wpAnyZ_doneB (by kernel_rfl) ?_ _
        have u9 := grown_set wq g 5 (.slice A.at' (grL D.tr G.wi).length A.ct)
        have bx9 := bxq.set 5 (.slice A.at' (grL D.tr G.wi).length A.ct)
        have h9 := hW.newT (a' := A.at') (n' := (grL D.tr G.wi).length) (c' := A.ct) (tr := grL D.tr G.wi) vq uq' (fun x e => .inl ((own_len _ _ _ _ _).trans e)) bx9 u9
        go_wp2
        go_end0
        exact ⟨rfl, _, by unfold grV; rw [HQF.out]; exact h9⟩
end Go.Proofs.Ytnpkmjdlohdieaa
