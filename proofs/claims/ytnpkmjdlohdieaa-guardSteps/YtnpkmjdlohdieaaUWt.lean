import Derived.Test.YtnpkmjdlohdieaaUWv
namespace Go.Proofs.Ytnpkmjdlohdieaa
open Go.RowKit
set_option maxRecDepth 100000
set_option linter.unusedVariables false
set_option linter.unusedSimpArgs false
/-- the least of two -/
def mnI (a b : Int) : Int := if b < a then b else a
/-- a monitor is watched: the vigil and those that have tripped -/
def wtV (m : Mo) (x : Int) (i : Nat) (D : Vi) : Vi :=
  if kwB x m.lo m.hi = true then (D.b (D.bd.set i 0)).p (D.tp.set i false)
  else if (mnI (nthI D.bd i + 1) m.fr == m.fr && !hat D.tp i) = true then vfT (D.b (D.bd.set i (mnI (nthI D.bd i + 1) m.fr))) i
  else D.b (D.bd.set i (mnI (nthI D.bd i + 1) m.fr))
def wtF (m : Mo) (x : Int) (i : Nat) (D : Vi) (Fr : List Int) : List Int :=
  if kwB x m.lo m.hi = true then Fr
  else if (mnI (nthI D.bd i + 1) m.fr == m.fr && !hat D.tp i) = true then Fr ++ [(i : Int)]
  else Fr
theorem i64_in {n : Int} (h0 : -9223372036854775808 ≤ n) (h1 : n ≤ 9223372036854775807) : IntKind.i64.wrap n = n := by
  exact wrap_i64_in n h0 h1
theorem set_at (S : List Int) (i : Nat) (z : Int) (h : i < S.length) : nthI (S.set i z) i = z := by
  unfold nthI
  rw [List.getD_eq_getElem?_getD]
  simp [h]
set_option maxHeartbeats 16000000 in
theorem watch_any (w0 : World) (g : Nat) (G : Gd) (A : Va) (D : Vi) (fa : Option Addr) (fn fc : Nat) (Fr : List Int) (m : Mo) (x : Int) (i : Nat) (w : World) (h : WV w0 w g G A D fa fn fc Fr) (hi : i < D.tp.length) (hib : i < D.bd.length) (htp : D.tp.length ≤ 32) (hfr : Fr.length ≤ 100) (htr : D.tr.length ≤ 100) (hb0 : 0 ≤ nthI D.bd i) (hb1 : nthI D.bd i ≤ 1000) (hf1 : m.fr ≤ 1000) (hf0 : 0 ≤ m.fr) :
    Calls Try.prog 48 #[.pointer (some ⟨g, 0, none⟩), .int .i64 (i : Int), .agg #[.int .i64 m.of', .int .i64 m.lo, .int .i64 m.hi, .int .i64 m.fr, .int .i64 m.ti, .string m.th], .int .i64 x] w fun e w' => e = .returned (.tuple #[]) ∧ ∃ A' fa' fn' fc', WV w0 w' g G A' (wtV m x i D) fa' fn' fc' (wtF m x i D Fr) := by
  have bm := BxS.new w 51 #[.int .i64 m.of', .int .i64 m.lo, .int .i64 m.hi, .int .i64 m.fr, .int .i64 m.ti, .string m.th]
  have gm := World.grownBy_alloc w (.cells #[.int .i64 m.of', .int .i64 m.lo, .int .i64 m.hi, .int .i64 m.fr, .int .i64 m.ti, .string m.th] 51) none
  generalize hwm : w.alloc (.cells #[.int .i64 m.of', .int .i64 m.lo, .int .i64 m.hi, .int .i64 m.fr, .int .i64 m.ti, .string m.th] 51) = wm at bm gm
  obtain ⟨m0, m1, m2, m3, m4, m5⟩ := bm.cell6
  have h := h.keep gm
  have lp : D.tp.length = A.np := by rw [← hls_len]; exact h.v.p.len
  have lb : D.bd.length = A.nb := by rw [← zys_length]; exact h.v.b.len
  obtain ⟨gp, ep, gpl, gph⟩ := h.v.p.some_of (by omega)
  obtain ⟨gb, eb, gbl, gbh⟩ := h.v.b.some_of (by omega)
  have hmm : maxLen ≤ 9223372036854775807 := by decide
  have hmxp := h.v.p.max
  have hmxb := h.v.b.max
  have bx := h.box
  have hp := h.v.p
  have hb := h.v.b
  have npb := h.v.p.ne_box h.box (by decide)
  have nbb := h.v.b.ne_box h.box (by decide)
  have apb := ans_apart h.v.b h.v.p (by decide)
  unfold wvA at bx
  rw [ep, eb] at bx
  rw [ep] at hp npb apb
  rw [eb] at hb nbb apb
  have ngp : gp ≠ g := fun e => npb (by rw [e]; rfl)
  have ngb : gb ≠ g := fun e => nbb (by rw [e]; rfl)
  have nbp : gb ≠ gp := fun e => apb gb rfl (by rw [e]; rfl)
  have nmb : gb ≠ w.heap.size := fun e => by
    have e1 := hb.ne_box bm (by decide)
    exact e1 (by rw [e]; rfl)
  have nmp : gp ≠ w.heap.size := fun e => by
    have e1 := hp.ne_box bm (by decide)
    exact e1 (by rw [e]; rfl)
  have nmg : g ≠ w.heap.size := fun e => by
    have e1 : wm.heap[g]? = _ := bx
    rw [e, show wm.heap[w.heap.size]? = _ from bm] at e1
    have := Option.some.inj e1
    injection this with _ ht _
    exact absurd ht (by decide)
  clear apb npb nbb
  obtain ⟨c0, c1, c2, c3, c4, c5, c6, c7, c8, c9, c10, c11⟩ := bx.cell12
  have cp := hp.cell i _ (hls_at D.tp i hi)
  have fp := hp.free i
  have cb := hb.cell i _ (zys_at D.bd i hib)
  have fb := hb.free i
  have hil : i < A.np := by omega
  have hil' : (i : Int) < (A.np : Int) := by omega
  have hjl : i < A.nb := by omega
  have hjl' : (i : Int) < (A.nb : Int) := by omega
  have hq := fun wz => gwithin_any x m.lo m.hi wz
  unfold wtV wtF
  generalize kwB x m.lo m.hi = kq at *
  clear lp lb
  cases kq
  case true =>
    have h1 := (h.keep (grown_drew wm none)).setB eb i 0
    have h2 := h1.setP ep i false
    have hp1 := h1.v.p
    have bx1 := h1.box
    unfold wvA at bx1
    rw [ep, eb] at bx1
    rw [ep] at hp1
    obtain ⟨d0, d1, d2, d3, d4, d5, d6, d7, d8, d9, d10, d11⟩ := bx1.cell12
    have cp1 := hp1.cell i _ (hls_at D.tp i hi)
    have fp1 := hp1.free i
    clear hp1 hp hb bx1
    try dsimp only [Vi.b] at d2 d3 cp1 fp1
    go_enter Try.func48, Try.ntmps48
    go_wp2_with (go_at_call 35; refine (hq _).mono ?_; rintro e w1 ⟨rfl, hw⟩; have hw := hw.symm; subst hw)
    refine wp_regionL (fun wz => wz.cell? ⟨g, 2, none⟩ = some (.slice (some ⟨gb, 0, none⟩) A.nb A.cb) ∧ wz.cell? ⟨g, 3, none⟩ = some (.slice (some ⟨gp, 0, none⟩) A.np A.cp)) [] #[false, false, false, false, false, false, false, false, false, false, false, false, false, false, false, false] rfl (by kernel_rfl) ?_
    refine wpAnyZ_take [] 0 (.pointer (some ⟨g, 0, none⟩)) rfl (by kernel_rfl) (fun _ _ _ h => h) ⟨c2, c3⟩ rfl (by rintro wz ⟨z2, z3⟩; go_simp) ?_
    try simp only [List.getElem_toArray, List.getElem_cons_succ, List.getElem_cons_zero, Act.put, List.setIfInBounds_toArray, List.set_cons_zero, List.set_cons_succ]
    refine wpAnyZ_take [] 1 (.pointer (some ⟨g, 0, none⟩)) rfl (by kernel_rfl) (fun _ _ _ h => h) ⟨c2, c3⟩ rfl (by rintro wz ⟨z2, z3⟩; go_simp) ?_
    try simp only [List.getElem_toArray, List.getElem_cons_succ, List.getElem_cons_zero, Act.put, List.setIfInBounds_toArray, List.set_cons_zero, List.set_cons_succ]
    refine wpAnyZ_take [] 2 (.pointer (some ⟨g, 0, none⟩)) rfl (by kernel_rfl) (fun _ _ _ h => h) ⟨c2, c3⟩ rfl (by rintro wz ⟨z2, z3⟩; go_simp) ?_
    try simp only [List.getElem_toArray, List.getElem_cons_succ, List.getElem_cons_zero, Act.put, List.setIfInBounds_toArray, List.set_cons_zero, List.set_cons_succ]
    refine wpAnyZ_take [] 3 (.pointer (some ⟨g, 2, none⟩)) rfl (by kernel_rfl) (fun _ _ _ h => h) ⟨c2, c3⟩ rfl (by rintro wz ⟨z2, z3⟩; go_simp) ?_
    try simp only [List.getElem_toArray, List.getElem_cons_succ, List.getElem_cons_zero, Act.put, List.setIfInBounds_toArray, List.set_cons_zero, List.set_cons_succ]
    refine wpAnyZ_take [] 4 (.slice (some ⟨gb, 0, none⟩) A.nb A.cb) rfl (by kernel_rfl) (fun _ _ _ h => h) ⟨c2, c3⟩ rfl (by rintro wz ⟨z2, z3⟩; go_simp) ?_
    try simp only [List.getElem_toArray, List.getElem_cons_succ, List.getElem_cons_zero, Act.put, List.setIfInBounds_toArray, List.set_cons_zero, List.set_cons_succ]
    refine wpAnyZ_take [] 5 (.int .i64 (i : Int)) rfl (by kernel_rfl) (fun _ _ _ h => h) ⟨c2, c3⟩ rfl (by rintro wz ⟨z2, z3⟩; go_simp) ?_
    try simp only [List.getElem_toArray, List.getElem_cons_succ, List.getElem_cons_zero, Act.put, List.setIfInBounds_toArray, List.set_cons_zero, List.set_cons_succ]
    refine wpAnyZ_take [] 6 (.pointer (some ⟨g, 0, none⟩)) rfl (by kernel_rfl) (fun _ _ _ h => h) ⟨c2, c3⟩ rfl (by rintro wz ⟨z2, z3⟩; go_simp) ?_
    try simp only [List.getElem_toArray, List.getElem_cons_succ, List.getElem_cons_zero, Act.put, List.setIfInBounds_toArray, List.set_cons_zero, List.set_cons_succ]
    refine wpAnyZ_take [] 7 (.pointer (some ⟨g, 0, none⟩)) rfl (by kernel_rfl) (fun _ _ _ h => h) ⟨c2, c3⟩ rfl (by rintro wz ⟨z2, z3⟩; go_simp) ?_
    try simp only [List.getElem_toArray, List.getElem_cons_succ, List.getElem_cons_zero, Act.put, List.setIfInBounds_toArray, List.set_cons_zero, List.set_cons_succ]
    refine wpAnyZ_take [] 8 (.pointer (some ⟨g, 0, none⟩)) rfl (by kernel_rfl) (fun _ _ _ h => h) ⟨c2, c3⟩ rfl (by rintro wz ⟨z2, z3⟩; go_simp) ?_
    try simp only [List.getElem_toArray, List.getElem_cons_succ, List.getElem_cons_zero, Act.put, List.setIfInBounds_toArray, List.set_cons_zero, List.set_cons_succ]
    refine wpAnyZ_take [] 9 (.pointer (some ⟨g, 3, none⟩)) rfl (by kernel_rfl) (fun _ _ _ h => h) ⟨c2, c3⟩ rfl (by rintro wz ⟨z2, z3⟩; go_simp) ?_
    try simp only [List.getElem_toArray, List.getElem_cons_succ, List.getElem_cons_zero, Act.put, List.setIfInBounds_toArray, List.set_cons_zero, List.set_cons_succ]
    refine wpAnyZ_take [] 10 (.slice (some ⟨gp, 0, none⟩) A.np A.cp) rfl (by kernel_rfl) (fun _ _ _ h => h) ⟨c2, c3⟩ rfl (by rintro wz ⟨z2, z3⟩; go_simp) ?_
    try simp only [List.getElem_toArray, List.getElem_cons_succ, List.getElem_cons_zero, Act.put, List.setIfInBounds_toArray, List.set_cons_zero, List.set_cons_succ]
    refine wpAnyZ_take [] 11 (.int .i64 (i : Int)) rfl (by kernel_rfl) (fun _ _ _ h => h) ⟨c2, c3⟩ rfl (by rintro wz ⟨z2, z3⟩; go_simp) ?_
    try simp only [List.getElem_toArray, List.getElem_cons_succ, List.getElem_cons_zero, Act.put, List.setIfInBounds_toArray, List.set_cons_zero, List.set_cons_succ]
    refine wpAnyZ_take [] 12 (.pointer (some ⟨gb, i, none⟩)) rfl (by kernel_rfl) (fun _ _ _ h => h) ⟨c2, c3⟩ rfl (by rintro wz ⟨z2, z3⟩; go_simp) ?_
    try simp only [List.getElem_toArray, List.getElem_cons_succ, List.getElem_cons_zero, Act.put, List.setIfInBounds_toArray, List.set_cons_zero, List.set_cons_succ]
    refine wpAnyZ_oneB 13 rfl (by kernel_rfl) (fun K hK => ?_)
    refine step_skip (w' := wm.drew.setCell ⟨gb, i, none⟩ (.int .i64 0)) rfl (by go_simp) ?_
    refine hK _ _ (fun _ => ⟨d2, d3⟩) ?_
    try simp only [List.getElem_toArray, List.getElem_cons_succ, List.getElem_cons_zero, Act.put, List.setIfInBounds_toArray, List.set_cons_zero, List.set_cons_succ]
    refine wpAnyZ_take [] 14 (.pointer (some ⟨gp, i, none⟩)) rfl (by kernel_rfl) (fun _ _ _ h => h) ⟨d2, d3⟩ rfl (by rintro wz ⟨z2, z3⟩; go_simp) ?_
    try simp only [List.getElem_toArray, List.getElem_cons_succ, List.getElem_cons_zero, Act.put, List.setIfInBounds_toArray, List.set_cons_zero, List.set_cons_succ]
    refine wpAnyZ_oneB 15 rfl (by kernel_rfl) (fun K hK => ?_)
    refine step_skip (w' := (wm.drew.setCell ⟨gb, i, none⟩ (.int .i64 0)).setCell ⟨gp, i, none⟩ (.bool false)) rfl (by go_simp) ?_
    have bx2 := h2.box
    unfold wvA at bx2
    rw [ep, eb] at bx2
    obtain ⟨e0, e1, e2, e3, e4, e5, e6, e7, e8, e9, e10, e11⟩ := bx2.cell12
    refine hK _ _ (fun _ => ⟨e2, e3⟩) ?_
    try simp only [List.getElem_toArray, List.getElem_cons_succ, List.getElem_cons_zero, Act.put, List.setIfInBounds_toArray, List.set_cons_zero, List.set_cons_succ]
    refine wpAnyZ_doneB (by kernel_rfl) ?_ _
    go_wp2
    refine bodyPost_ret (results_none rfl _ _ _) rfl ?_
    exact ⟨rfl, _, _, _, _, h2⟩
  case false =>
    have hmn : Hid (mnI (nthI D.bd i + 1) m.fr = mnI (nthI D.bd i + 1) m.fr) := rfl
    have hz1 : ∃ y : Int, mnI (nthI D.bd i + 1) m.fr = y := ⟨_, rfl⟩
    obtain ⟨y, hy⟩ := hz1
    have hmin : (if m.fr < nthI D.bd i + 1 then m.fr else nthI D.bd i + 1) = y := hy
    rw [hy]
    have hyb : 0 ≤ y ∧ y ≤ 1000 := by
      unfold mnI at hy
      split at hy <;> omega
    have h1 := (h.keep (grown_drew wm none)).setB eb i y
    have hp1 := h1.v.p
    have hb1' := h1.v.b
    have bx1 := h1.box
    unfold wvA at bx1
    rw [ep, eb] at bx1
    rw [ep] at hp1
    rw [eb] at hb1'
    obtain ⟨d0, d1, d2, d3, d4, d5, d6, d7, d8, d9, d10, d11⟩ := bx1.cell12
    have cp1 := hp1.cell i _ (hls_at D.tp i hi)
    have cb1 := hb1'.cell i _ (zys_at (D.bd.set i y) i (by rw [List.length_set]; exact hib))
    rw [set_at D.bd i y hib] at cb1
    have u1 := grown_set wm.drew gb i (.int .i64 y)
    have bm1 := (bm.keep (grown_drew wm none) (by simp)).keep u1 (fun e => nmb (Option.some.inj e).symm)
    obtain ⟨n0, n1, n2, n3, n4, n5⟩ := bm1.cell6
    have hT := fun (wz : World) (hz : WV w0 wz g G A (D.b (D.bd.set i y)) fa fn fc Fr) => trip_any w0 g G A (D.b (D.bd.set i y)) fa fn fc Fr i wz hz hi htp hfr htr
    clear hp hb hp1 hb1' bx bx1 h hmn hy
    try dsimp only [Vi.b] at d2 d3 cp1
    generalize nthI D.bd i = bz at *
    generalize hat D.tp i = tz at *
    generalize m.fr = fz at *
    have hbx : IntKind.i64.wrap (bz + 1) = bz + 1 := i64_in (by omega) (by omega)
    go_enter Try.func48, Try.ntmps48
    go_wp2_with (go_at_call 35; refine (hq _).mono ?_; rintro e w1 ⟨rfl, hw⟩; have hw := hw.symm; subst hw)
    refine wp_regionL (fun wz => wz.cell? ⟨g, 2, none⟩ = some (.slice (some ⟨gb, 0, none⟩) A.nb A.cb) ∧ wz.cell? ⟨gb, i, none⟩ = some (.int .i64 bz) ∧ wz.cell? ⟨w.heap.size, 3, none⟩ = some (.int .i64 fz)) [19] #[false, false, false, false, false, false, false, false, false, false, false, false, false, false, false, false, false, false, false, false] rfl (by kernel_rfl) ?_
    refine wpAnyZ_take [19] 0 (.pointer (some ⟨g, 0, none⟩)) rfl (by kernel_rfl) (fun _ _ _ h => h) ⟨c2, cb, m3⟩ rfl (by rintro wz ⟨z2, zb, zm⟩; go_simp) ?_
    try simp only [List.getElem_toArray, List.getElem_cons_succ, List.getElem_cons_zero, Act.put, List.setIfInBounds_toArray, List.set_cons_zero, List.set_cons_succ]
    refine wpAnyZ_take [19] 1 (.pointer (some ⟨g, 0, none⟩)) rfl (by kernel_rfl) (fun _ _ _ h => h) ⟨c2, cb, m3⟩ rfl (by rintro wz ⟨z2, zb, zm⟩; go_simp) ?_
    try simp only [List.getElem_toArray, List.getElem_cons_succ, List.getElem_cons_zero, Act.put, List.setIfInBounds_toArray, List.set_cons_zero, List.set_cons_succ]
    refine wpAnyZ_take [19] 2 (.pointer (some ⟨g, 0, none⟩)) rfl (by kernel_rfl) (fun _ _ _ h => h) ⟨c2, cb, m3⟩ rfl (by rintro wz ⟨z2, zb, zm⟩; go_simp) ?_
    try simp only [List.getElem_toArray, List.getElem_cons_succ, List.getElem_cons_zero, Act.put, List.setIfInBounds_toArray, List.set_cons_zero, List.set_cons_succ]
    refine wpAnyZ_take [19] 3 (.pointer (some ⟨g, 2, none⟩)) rfl (by kernel_rfl) (fun _ _ _ h => h) ⟨c2, cb, m3⟩ rfl (by rintro wz ⟨z2, zb, zm⟩; go_simp) ?_
    try simp only [List.getElem_toArray, List.getElem_cons_succ, List.getElem_cons_zero, Act.put, List.setIfInBounds_toArray, List.set_cons_zero, List.set_cons_succ]
    refine wpAnyZ_take [19] 4 (.slice (some ⟨gb, 0, none⟩) A.nb A.cb) rfl (by kernel_rfl) (fun _ _ _ h => h) ⟨c2, cb, m3⟩ rfl (by rintro wz ⟨z2, zb, zm⟩; go_simp) ?_
    try simp only [List.getElem_toArray, List.getElem_cons_succ, List.getElem_cons_zero, Act.put, List.setIfInBounds_toArray, List.set_cons_zero, List.set_cons_succ]
    refine wpAnyZ_take [19] 5 (.int .i64 (i : Int)) rfl (by kernel_rfl) (fun _ _ _ h => h) ⟨c2, cb, m3⟩ rfl (by rintro wz ⟨z2, zb, zm⟩; go_simp) ?_
    try simp only [List.getElem_toArray, List.getElem_cons_succ, List.getElem_cons_zero, Act.put, List.setIfInBounds_toArray, List.set_cons_zero, List.set_cons_succ]
    refine wpAnyZ_take [19] 6 (.pointer (some ⟨g, 0, none⟩)) rfl (by kernel_rfl) (fun _ _ _ h => h) ⟨c2, cb, m3⟩ rfl (by rintro wz ⟨z2, zb, zm⟩; go_simp) ?_
    try simp only [List.getElem_toArray, List.getElem_cons_succ, List.getElem_cons_zero, Act.put, List.setIfInBounds_toArray, List.set_cons_zero, List.set_cons_succ]
    refine wpAnyZ_take [19] 7 (.pointer (some ⟨g, 0, none⟩)) rfl (by kernel_rfl) (fun _ _ _ h => h) ⟨c2, cb, m3⟩ rfl (by rintro wz ⟨z2, zb, zm⟩; go_simp) ?_
    try simp only [List.getElem_toArray, List.getElem_cons_succ, List.getElem_cons_zero, Act.put, List.setIfInBounds_toArray, List.set_cons_zero, List.set_cons_succ]
    refine wpAnyZ_take [19] 8 (.pointer (some ⟨g, 0, none⟩)) rfl (by kernel_rfl) (fun _ _ _ h => h) ⟨c2, cb, m3⟩ rfl (by rintro wz ⟨z2, zb, zm⟩; go_simp) ?_
    try simp only [List.getElem_toArray, List.getElem_cons_succ, List.getElem_cons_zero, Act.put, List.setIfInBounds_toArray, List.set_cons_zero, List.set_cons_succ]
    refine wpAnyZ_take [19] 9 (.pointer (some ⟨g, 2, none⟩)) rfl (by kernel_rfl) (fun _ _ _ h => h) ⟨c2, cb, m3⟩ rfl (by rintro wz ⟨z2, zb, zm⟩; go_simp) ?_
    try simp only [List.getElem_toArray, List.getElem_cons_succ, List.getElem_cons_zero, Act.put, List.setIfInBounds_toArray, List.set_cons_zero, List.set_cons_succ]
    refine wpAnyZ_take [19] 10 (.slice (some ⟨gb, 0, none⟩) A.nb A.cb) rfl (by kernel_rfl) (fun _ _ _ h => h) ⟨c2, cb, m3⟩ rfl (by rintro wz ⟨z2, zb, zm⟩; go_simp) ?_
    try simp only [List.getElem_toArray, List.getElem_cons_succ, List.getElem_cons_zero, Act.put, List.setIfInBounds_toArray, List.set_cons_zero, List.set_cons_succ]
    refine wpAnyZ_take [19] 11 (.int .i64 (i : Int)) rfl (by kernel_rfl) (fun _ _ _ h => h) ⟨c2, cb, m3⟩ rfl (by rintro wz ⟨z2, zb, zm⟩; go_simp) ?_
    try simp only [List.getElem_toArray, List.getElem_cons_succ, List.getElem_cons_zero, Act.put, List.setIfInBounds_toArray, List.set_cons_zero, List.set_cons_succ]
    refine wpAnyZ_take [19] 12 (.pointer (some ⟨gb, i, none⟩)) rfl (by kernel_rfl) (fun _ _ _ h => h) ⟨c2, cb, m3⟩ rfl (by rintro wz ⟨z2, zb, zm⟩; go_simp) ?_
    try simp only [List.getElem_toArray, List.getElem_cons_succ, List.getElem_cons_zero, Act.put, List.setIfInBounds_toArray, List.set_cons_zero, List.set_cons_succ]
    refine wpAnyZ_take [19] 13 (.int .i64 bz) rfl (by kernel_rfl) (fun _ _ _ h => h) ⟨c2, cb, m3⟩ rfl (by rintro wz ⟨z2, zb, zm⟩; go_simp) ?_
    try simp only [List.getElem_toArray, List.getElem_cons_succ, List.getElem_cons_zero, Act.put, List.setIfInBounds_toArray, List.set_cons_zero, List.set_cons_succ]
    refine wpAnyZ_take [19] 14 (.int .i64 (bz + 1)) rfl (by kernel_rfl) (fun _ _ _ h => h) ⟨c2, cb, m3⟩ rfl (by rintro wz ⟨z2, zb, zm⟩; go_simp) ?_
    try simp only [List.getElem_toArray, List.getElem_cons_succ, List.getElem_cons_zero, Act.put, List.setIfInBounds_toArray, List.set_cons_zero, List.set_cons_succ]
    refine wpAnyZ_take [19] 15 (.pointer (some ⟨w.heap.size, 3, none⟩)) rfl (by kernel_rfl) (fun _ _ _ h => h) ⟨c2, cb, m3⟩ rfl (by rintro wz ⟨z2, zb, zm⟩; go_simp) ?_
    try simp only [List.getElem_toArray, List.getElem_cons_succ, List.getElem_cons_zero, Act.put, List.setIfInBounds_toArray, List.set_cons_zero, List.set_cons_succ]
    refine wpAnyZ_take [19] 16 (.int .i64 fz) rfl (by kernel_rfl) (fun _ _ _ h => h) ⟨c2, cb, m3⟩ rfl (by rintro wz ⟨z2, zb, zm⟩; go_simp) ?_
    try simp only [List.getElem_toArray, List.getElem_cons_succ, List.getElem_cons_zero, Act.put, List.setIfInBounds_toArray, List.set_cons_zero, List.set_cons_succ]
    refine wpAnyZ_take [19] 17 (.int .i64 y) rfl (by kernel_rfl) (fun _ _ _ h => h) ⟨c2, cb, m3⟩ rfl (by rintro wz ⟨z2, zb, zm⟩; go_simp) ?_
    try simp only [List.getElem_toArray, List.getElem_cons_succ, List.getElem_cons_zero, Act.put, List.setIfInBounds_toArray, List.set_cons_zero, List.set_cons_succ]
    refine wpAnyZ_take [19] 18 (.pointer (some ⟨gb, i, none⟩)) rfl (by kernel_rfl) (fun _ _ _ h => h) ⟨c2, cb, m3⟩ rfl (by rintro wz ⟨z2, zb, zm⟩; go_simp) ?_
    try simp only [List.getElem_toArray, List.getElem_cons_succ, List.getElem_cons_zero, Act.put, List.setIfInBounds_toArray, List.set_cons_zero, List.set_cons_succ]
    refine wpAnyZ_oneB 19 rfl (by kernel_rfl) (fun K hK => ?_)
    refine step_skip (w' := wm.drew.setCell ⟨gb, i, none⟩ (.int .i64 y)) rfl (by go_simp) ?_
    refine hK _ _ (fun h => absurd (by decide) h) ?_
    try simp only [List.getElem_toArray, List.getElem_cons_succ, List.getElem_cons_zero, Act.put, List.setIfInBounds_toArray, List.set_cons_zero, List.set_cons_succ]
    refine wpAnyZ_doneB (by kernel_rfl) ?_ _
    generalize hwq : wm.drew.setCell ⟨gb, i, none⟩ (.int .i64 y) = wq at *
    clear hwq
    by_cases hyf : y = fz
    · subst hyf
      cases tz
      · go_wp2
        go_quiet (fail)
        have hT2 := hT _ (h1.keep (grown_drewN wq nq none))
        go_wp2_with (go_at_call 58; refine hT2.mono ?_; rintro e w6 ⟨rfl, A6, fa6, fn6, fc6, h6⟩)
        go_end0
        simp only [Bool.false_eq_true, if_false, beq_self_eq_true, Bool.not_false, Bool.and_self, if_true]
        exact ⟨by trivial, _, _, _, _, h6⟩
      · go_wp2
        go_quiet (fail)
        go_wp2
        go_end0
        simp only [Bool.false_eq_true, if_false, beq_self_eq_true, Bool.not_true, Bool.and_false, if_false]
        exact ⟨by trivial, _, _, _, _, h1.keep (grown_drewN wq nq none)⟩
    · have hyf' : (y == fz) = false := beq_false_of_ne hyf
      clear hyf
      go_wp2
      go_quiet (fail)
      go_wp2
      go_end0
      simp only [Bool.false_eq_true, if_false, hyf', Bool.false_and]
      exact ⟨by trivial, _, _, _, _, h1.keep (grown_drewN wq nq none)⟩
end Go.Proofs.Ytnpkmjdlohdieaa
