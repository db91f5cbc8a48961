import Derived.Test.YtlfacjpehhcdiaaOn7
namespace Go.Proofs.Ytlfacjpehhcdiaa
open Go.RowKit
set_option maxRecDepth 100000
set_option linter.unusedVariables false
set_option linter.unusedSimpArgs false

section
/-- a hand that may be at work -/
structure Hk (d : Hd) : Prop where
  cr : 0 ≤ d.cr ∧ d.cr ≤ 1023
  nx : 0 ≤ d.nx ∧ d.nx ≤ 255
  ah : (d.S.length : Int) ≤ d.ah ∧ d.ah ≤ 127
  q : d.Q.length ≤ 100
  fS : ∀ i, i < d.S.length → 1 ≤ (d.S.getD i []).length ∧ (d.S.getD i []).length ≤ 1017
  fQ : ∀ i, i < d.Q.length → 1 ≤ (d.Q.getD i []).length ∧ (d.Q.getD i []).length ≤ 1017
structure Hk2 (d : Hd) : Prop extends Hk d where
  ti : 0 ≤ d.ti ∧ d.ti ≤ 100000
  tr : 0 ≤ d.tr ∧ d.tr ≤ 100000
theorem hk_of {d : Hd} (h : hndB d = true) : Hk2 d ∧ (0 ≤ d.si ∧ d.si ≤ d.pu ∧ d.pu ≤ 1000) := by
  obtain ⟨c1, n1, n2, _, _, f1, f2⟩ := hnd_ok h
  unfold hndB hnB cmB at h
  simp only [Bool.and_eq_true, decide_eq_true_eq] at h
  obtain ⟨⟨⟨⟨⟨⟨⟨⟨⟨⟨⟨h1, h2⟩, h3⟩, h4⟩, h5⟩, h6⟩, h7, h7'⟩, h8, h8'⟩, h9⟩, h10⟩, h11⟩, h12⟩ := h
  have a2 := kwB_ok h2
  have a3 := kwB_ok h3
  have a4 := kwB_ok h4
  have a5 := kwB_ok h5
  have a6 := kwB_ok h6
  have a9 := kwB_ok h9
  have a10 := kwB_ok h10
  have a11 := kwB_ok h11
  exact ⟨⟨⟨c1, a6, ⟨h7, a2.2⟩, n2, f1, f2⟩, ⟨a9.1, by omega⟩, ⟨a10.1, by omega⟩⟩, a11.1, a11.2, a4.2⟩
theorem getD_drop (R : List (List Nat)) (m i : Nat) : (R.drop m).getD i [] = R.getD (m + i) [] := by
  rw [List.getD_eq_getElem?_getD, List.getElem?_drop, List.getD_eq_getElem?_getD]
/-- what settle leaves as it was -/
theorem Hk2.seD {d : Hd} (h : Hk2 d) (m : Nat) (sh : Bool) : Hk2 (seD d m sh) := by
  have hd : ∀ i, i < (d.S.drop m).length → 1 ≤ ((d.S.drop m).getD i []).length ∧ ((d.S.drop m).getD i []).length ≤ 1017 := fun i hi => by
    rw [List.length_drop] at hi
    rw [getD_drop]
    exact h.fS _ (by omega)
  have hl : ((d.S.drop m).length : Int) ≤ d.ah := by rw [List.length_drop]; have := h.ah.1; omega
  unfold Go.Proofs.Ytlfacjpehhcdiaa.seD
  split
  · exact ⟨⟨h.cr, h.nx, h.ah, h.q, h.fS, h.fQ⟩, h.ti, h.tr⟩
  · split
    · split
      · exact ⟨⟨h.cr, h.nx, ⟨hl, h.ah.2⟩, h.q, hd, h.fQ⟩, ⟨Int.le_refl _, by show (0 : Int) ≤ 100000; decide⟩, ⟨Int.le_refl _, by show (0 : Int) ≤ 100000; decide⟩⟩
      · exact ⟨⟨h.cr, h.nx, ⟨hl, h.ah.2⟩, h.q, hd, h.fQ⟩, ⟨Int.le_refl _, by show (0 : Int) ≤ 100000; decide⟩, ⟨Int.le_refl _, by show (0 : Int) ≤ 100000; decide⟩⟩
    · split
      · exact ⟨⟨h.cr, h.nx, h.ah, h.q, h.fS, h.fQ⟩, h.ti, h.tr⟩
      · exact h
theorem Hk2.saD {d : Hd} (h : Hk2 d) (wt ag : Bool) : Hk (saD d wt ag) := by
  unfold Go.Proofs.Ytlfacjpehhcdiaa.saD
  split
  · exact ⟨h.cr, h.nx, h.ah, h.q, h.fS, h.fQ⟩
  · split
    · exact ⟨h.cr, h.nx, h.ah, h.q, h.fS, h.fQ⟩
    · split
      · exact ⟨h.cr, h.nx, h.ah, h.q, h.fS, h.fQ⟩
      · exact ⟨h.cr, h.nx, h.ah, h.q, h.fS, h.fQ⟩
theorem saU_len (d : Hd) (wt ag : Bool) : (saU d wt ag).length ≤ d.S.length := by
  unfold saU
  split
  · exact Nat.zero_le _
  · split
    · exact Nat.zero_le _
    · split
      · exact Nat.zero_le _
      · rw [upL_len]; exact Nat.le_refl _
/-- a tick of a hand that does not stand still, in its parts -/
def tkA (d : Hd) : Hd := ⟨d.cr, d.nx, d.ah, d.ti, d.pa, d.tr, d.li, (if d.pu < d.si + 1 then d.pu else d.si + 1), d.pu, d.hl, d.S, d.Q⟩
def tkH (z : Int) (b : Bool) : Bool := b && decide (stE z = 0)
def tkG (z : Int) (b : Bool) (k : Nat) : Bool := tkH z b && stB z k
def tkB (d : Hd) (z : Int) (b : Bool) : Hd := if tkH z b = true then seD (tkA d) (stM (tkA d) (stN z)) (stB z 13) else tkA d
def tkC (d : Hd) (z : Int) (b : Bool) : Hd := if (tkB d z b).hl = 0 then saD (tkB d z b) (tkG z b 12) (tkG z b 11) else tkB d z b
def tkCU (d : Hd) (z : Int) (b : Bool) : List (List Nat) := if (tkB d z b).hl = 0 then saU (tkB d z b) (tkG z b 12) (tkG z b 11) else []
def tkO (d : Hd) (z : Int) (b : Bool) : Bool := decide ((tkC d z b).hl = 0) && !tkG z b 12
def tkD (d : Hd) (z : Int) (b : Bool) : Hd := if tkO d z b = true then snD (tkC d z b) else tkC d z b
def tkU (d : Hd) (z : Int) (b : Bool) : List (List Nat) := tkCU d z b ++ (if tkO d z b = true then snU (tkC d z b) else [])
theorem stN_lt (z : Int) : stN z < 256 := by unfold stN; split <;> omega
set_option maxHeartbeats 64000000 in
theorem tick_any (lo : Nat) (w : World) (g : Nat) (d : Hd) (Z : Hx) (rs qs : List Rw) (ua : Option Addr) (un uc : Nat) (us : List Rw) (U : List (List Nat)) (h : HW lo w g d Z rs qs ua un uc us U) (z : Int) (b : Bool) (hk : Hk2 d) (hsi : 0 ≤ d.si ∧ d.si ≤ 100000) (hun : un ≤ 100) :
    Calls Try.prog 21 #[.pointer (some ⟨g, 0, none⟩), .int .i64 z, .bool b] w fun e w' => e = .returned (.tuple #[]) ∧ ∃ (Z' : Hx) (rs' qs' : List Rw) (ua' : Option Addr) (un' uc' : Nat) (us' : List Rw), HW lo w' g (tkD d z b) Z' rs' qs' ua' un' uc' us' (U ++ tkU d z b) ∧ Fz (fun i => lo ≤ i) w w' := by
  have hW := h
  have hgl := h.gl
  have hbd := hW.box.keep (grown_drew w none) (by simp)
  obtain ⟨s, hs⟩ : ∃ s : Int, s = (if d.pu < d.si + 1 then d.pu else d.si + 1) := ⟨_, rfl⟩
  have hw1 : IntKind.i64.wrap (d.si + 1) = d.si + 1 := wrap_in _ (by omega) (by omega)
  have F0 : Fz (fun i => lo ≤ i) w w.drew := (Fz.refl _ w).step (grown_drew w none) (fun k e _ => by cases e)
  go_enter Try.func21, Try.ntmps21
  go_wp2
  refine wp_regionL (fun wz => BxS wz g 57 #[.int .i64 d.cr, .int .i64 d.nx, .int .i64 d.ah, .slice Z.sa Z.sn Z.sc, .slice Z.qa Z.qn Z.qc, .int .i64 d.ti, .int .i64 d.pa, .int .i64 d.tr, .int .i64 d.li, .int .i64 d.si, .int .i64 d.pu, .int .i64 d.hl, .slice ua un uc]) [16] #[false, false, false, false, false, false, false, false, false, false, false, false, false, false, false, false, false] rfl (by kernel_rfl) ?_
  refine wpAnyZ_take [16] 0 (.pointer (some ⟨g, 0, none⟩)) rfl (by kernel_rfl) (fun _ _ _ h => h) hbd rfl (by intro wz hz; obtain ⟨z0, z1, z2, z3, z4, z5, z6, z7, z8, z9, z10, z11, z12⟩ := BxS.cell13 hz; go_simp) ?_
  try simp only [List.getElem_toArray, List.getElem_cons_succ, List.getElem_cons_zero, Act.put, List.setIfInBounds_toArray, List.set_cons_zero, List.set_cons_succ]
  refine wpAnyZ_take [16] 1 (.pointer (some ⟨g, 0, none⟩)) rfl (by kernel_rfl) (fun _ _ _ h => h) hbd rfl (by intro wz hz; obtain ⟨z0, z1, z2, z3, z4, z5, z6, z7, z8, z9, z10, z11, z12⟩ := BxS.cell13 hz; go_simp) ?_
  try simp only [List.getElem_toArray, List.getElem_cons_succ, List.getElem_cons_zero, Act.put, List.setIfInBounds_toArray, List.set_cons_zero, List.set_cons_succ]
  refine wpAnyZ_take [16] 2 (.pointer (some ⟨g, 0, none⟩)) rfl (by kernel_rfl) (fun _ _ _ h => h) hbd rfl (by intro wz hz; obtain ⟨z0, z1, z2, z3, z4, z5, z6, z7, z8, z9, z10, z11, z12⟩ := BxS.cell13 hz; go_simp) ?_
  try simp only [List.getElem_toArray, List.getElem_cons_succ, List.getElem_cons_zero, Act.put, List.setIfInBounds_toArray, List.set_cons_zero, List.set_cons_succ]
  refine wpAnyZ_take [16] 3 (.pointer (some ⟨g, 0, none⟩)) rfl (by kernel_rfl) (fun _ _ _ h => h) hbd rfl (by intro wz hz; obtain ⟨z0, z1, z2, z3, z4, z5, z6, z7, z8, z9, z10, z11, z12⟩ := BxS.cell13 hz; go_simp) ?_
  try simp only [List.getElem_toArray, List.getElem_cons_succ, List.getElem_cons_zero, Act.put, List.setIfInBounds_toArray, List.set_cons_zero, List.set_cons_succ]
  refine wpAnyZ_take [16] 4 (.pointer (some ⟨g, 9, none⟩)) rfl (by kernel_rfl) (fun _ _ _ h => h) hbd rfl (by intro wz hz; obtain ⟨z0, z1, z2, z3, z4, z5, z6, z7, z8, z9, z10, z11, z12⟩ := BxS.cell13 hz; go_simp) ?_
  try simp only [List.getElem_toArray, List.getElem_cons_succ, List.getElem_cons_zero, Act.put, List.setIfInBounds_toArray, List.set_cons_zero, List.set_cons_succ]
  refine wpAnyZ_take [16] 5 (.int .i64 d.si) rfl (by kernel_rfl) (fun _ _ _ h => h) hbd rfl (by intro wz hz; obtain ⟨z0, z1, z2, z3, z4, z5, z6, z7, z8, z9, z10, z11, z12⟩ := BxS.cell13 hz; go_simp) ?_
  try simp only [List.getElem_toArray, List.getElem_cons_succ, List.getElem_cons_zero, Act.put, List.setIfInBounds_toArray, List.set_cons_zero, List.set_cons_succ]
  refine wpAnyZ_take [16] 6 (.int .i64 (d.si + 1)) rfl (by kernel_rfl) (fun _ _ _ h => h) hbd rfl (by intro wz hz; obtain ⟨z0, z1, z2, z3, z4, z5, z6, z7, z8, z9, z10, z11, z12⟩ := BxS.cell13 hz; go_simp) ?_
  try simp only [List.getElem_toArray, List.getElem_cons_succ, List.getElem_cons_zero, Act.put, List.setIfInBounds_toArray, List.set_cons_zero, List.set_cons_succ]
  refine wpAnyZ_take [16] 7 (.pointer (some ⟨g, 0, none⟩)) rfl (by kernel_rfl) (fun _ _ _ h => h) hbd rfl (by intro wz hz; obtain ⟨z0, z1, z2, z3, z4, z5, z6, z7, z8, z9, z10, z11, z12⟩ := BxS.cell13 hz; go_simp) ?_
  try simp only [List.getElem_toArray, List.getElem_cons_succ, List.getElem_cons_zero, Act.put, List.setIfInBounds_toArray, List.set_cons_zero, List.set_cons_succ]
  refine wpAnyZ_take [16] 8 (.pointer (some ⟨g, 0, none⟩)) rfl (by kernel_rfl) (fun _ _ _ h => h) hbd rfl (by intro wz hz; obtain ⟨z0, z1, z2, z3, z4, z5, z6, z7, z8, z9, z10, z11, z12⟩ := BxS.cell13 hz; go_simp) ?_
  try simp only [List.getElem_toArray, List.getElem_cons_succ, List.getElem_cons_zero, Act.put, List.setIfInBounds_toArray, List.set_cons_zero, List.set_cons_succ]
  refine wpAnyZ_take [16] 9 (.pointer (some ⟨g, 0, none⟩)) rfl (by kernel_rfl) (fun _ _ _ h => h) hbd rfl (by intro wz hz; obtain ⟨z0, z1, z2, z3, z4, z5, z6, z7, z8, z9, z10, z11, z12⟩ := BxS.cell13 hz; go_simp) ?_
  try simp only [List.getElem_toArray, List.getElem_cons_succ, List.getElem_cons_zero, Act.put, List.setIfInBounds_toArray, List.set_cons_zero, List.set_cons_succ]
  refine wpAnyZ_take [16] 10 (.pointer (some ⟨g, 10, none⟩)) rfl (by kernel_rfl) (fun _ _ _ h => h) hbd rfl (by intro wz hz; obtain ⟨z0, z1, z2, z3, z4, z5, z6, z7, z8, z9, z10, z11, z12⟩ := BxS.cell13 hz; go_simp) ?_
  try simp only [List.getElem_toArray, List.getElem_cons_succ, List.getElem_cons_zero, Act.put, List.setIfInBounds_toArray, List.set_cons_zero, List.set_cons_succ]
  refine wpAnyZ_take [16] 11 (.int .i64 d.pu) rfl (by kernel_rfl) (fun _ _ _ h => h) hbd rfl (by intro wz hz; obtain ⟨z0, z1, z2, z3, z4, z5, z6, z7, z8, z9, z10, z11, z12⟩ := BxS.cell13 hz; go_simp) ?_
  try simp only [List.getElem_toArray, List.getElem_cons_succ, List.getElem_cons_zero, Act.put, List.setIfInBounds_toArray, List.set_cons_zero, List.set_cons_succ]
  refine wpAnyZ_take [16] 12 (.int .i64 s) rfl (by kernel_rfl) (fun _ _ _ h => h) hbd rfl (by intro wz hz; obtain ⟨z0, z1, z2, z3, z4, z5, z6, z7, z8, z9, z10, z11, z12⟩ := BxS.cell13 hz; try rw [hs]; go_simp) ?_
  try simp only [List.getElem_toArray, List.getElem_cons_succ, List.getElem_cons_zero, Act.put, List.setIfInBounds_toArray, List.set_cons_zero, List.set_cons_succ]
  refine wpAnyZ_take [14, 15, 16] 13 (.pointer (some ⟨g, 0, none⟩)) rfl (by kernel_rfl) (fun _ _ _ h => h) hbd rfl (by intro wz hz; obtain ⟨z0, z1, z2, z3, z4, z5, z6, z7, z8, z9, z10, z11, z12⟩ := BxS.cell13 hz; go_simp) ?_
  try simp only [List.getElem_toArray, List.getElem_cons_succ, List.getElem_cons_zero, Act.put, List.setIfInBounds_toArray, List.set_cons_zero, List.set_cons_succ]
  refine wpAnyZ_take [15, 16] 14 (.pointer (some ⟨g, 0, none⟩)) rfl (by kernel_rfl) (fun _ _ _ h => h) hbd rfl (by intro wz hz; obtain ⟨z0, z1, z2, z3, z4, z5, z6, z7, z8, z9, z10, z11, z12⟩ := BxS.cell13 hz; go_simp) ?_
  try simp only [List.getElem_toArray, List.getElem_cons_succ, List.getElem_cons_zero, Act.put, List.setIfInBounds_toArray, List.set_cons_zero, List.set_cons_succ]
  refine wpAnyZ_take [16] 15 (.pointer (some ⟨g, 9, none⟩)) rfl (by kernel_rfl) (fun _ _ _ h => h) hbd rfl (by intro wz hz; obtain ⟨z0, z1, z2, z3, z4, z5, z6, z7, z8, z9, z10, z11, z12⟩ := BxS.cell13 hz; go_simp) ?_
  try simp only [List.getElem_toArray, List.getElem_cons_succ, List.getElem_cons_zero, Act.put, List.setIfInBounds_toArray, List.set_cons_zero, List.set_cons_succ]
  refine wpAnyZ_oneB 16 rfl (by kernel_rfl) (fun K hK => ?_)
  refine step_stC _ rfl _ _ _ rfl g 9 57 _ #[.int .i64 d.cr, .int .i64 d.nx, .int .i64 d.ah, .slice Z.sa Z.sn Z.sc, .slice Z.qa Z.qn Z.qc, .int .i64 d.ti, .int .i64 d.pa, .int .i64 d.tr, .int .i64 d.li, .int .i64 s, .int .i64 d.pu, .int .i64 d.hl, .slice ua un uc] (.int .i64 s) rfl rfl hbd (stc_int _ _ _) (by show 9 < 13; decide) rfl ?_
  intro w1 b1 u1
  refine hK _ _ (fun h => absurd (by decide) h) ?_
  try simp only [List.getElem_toArray, List.getElem_cons_succ, List.getElem_cons_zero, Act.put, List.setIfInBounds_toArray, List.set_cons_zero, List.set_cons_succ]
  refine wpAnyZ_doneB (by kernel_rfl) ?_ _
  have hW1 := (hW.keep (grown_drew w none)).setI ⟨d.cr, d.nx, d.ah, d.ti, d.pa, d.tr, d.li, s, d.pu, d.hl, d.S, d.Q⟩ rfl rfl b1 u1
  have F1 := F0.step u1 (fun k e _ => by cases e; exact hgl)
  have HA : Hid (tkA d = ⟨d.cr, d.nx, d.ah, d.ti, d.pa, d.tr, d.li, s, d.pu, d.hl, d.S, d.Q⟩) := by show _ = _; unfold tkA; rw [hs]
  have hk1 : Hk2 ⟨d.cr, d.nx, d.ah, d.ti, d.pa, d.tr, d.li, s, d.pu, d.hl, d.S, d.Q⟩ := ⟨⟨hk.cr, hk.nx, hk.ah, hk.q, hk.fS, hk.fQ⟩, hk.ti, hk.tr⟩
  clear hs hbd hw1 b1
  generalize Hd.mk d.cr d.nx d.ah d.ti d.pa d.tr d.li s d.pu d.hl d.S d.Q = d1 at *
  have bg0 := BxS.new w1 28 #[.int .i64 0, .int .i64 0, .int .i64 0, .bool false, .bool false, .bool false, .int .i64 0]
  have g0 := World.grownBy_alloc w1 (.cells #[.int .i64 0, .int .i64 0, .int .i64 0, .bool false, .bool false, .bool false, .int .i64 0] 28) none
  obtain ⟨gg, egg⟩ : ∃ gg, w1.heap.size = gg := ⟨_, rfl⟩
  have ngg : ¬ gg = g := fun e => by have := hW1.box.lt; omega
  have F2 := F1.step g0 (fun k e _ => by cases e)
  have hW2 := hW1.keep g0
  cases b
  · go_upto_region 7 with fail
    rw [egg] at bg0
    generalize w1.alloc (.cells #[.int .i64 0, .int .i64 0, .int .i64 0, .bool false, .bool false, .bool false, .int .i64 0] 28) = w2 at *
    try rw [egg]
    clear egg
    have HD2 : Hid (tkB d z false = d1) := HA.out
    have HWT : Hid (tkG z false 12 = false) := rfl
    have HAG : Hid (tkG z false 11 = false) := rfl
    have bg2 := bg0
    have hk2 := hk1
    generalize d1 = d2 at *
    obtain ⟨h0, h1, h2, h3, h4, h5, h6, h7, h8, h9, h10, h11, h12⟩ := hW2.box.cell13
    obtain ⟨q0, q1, q2, q3, q4, q5, q6⟩ := bg2.cell7
    by_cases hh : d2.hl = 0
    · have hh' : (d2.hl == 0) = true := by rw [hh]; rfl
      have kA := sendAgain_any lo w2 g d2 Z rs qs ua un uc us U hW2 0 0 false false false hk2.cr hk2.nx (by have := hk2.ah; omega) hk2.fS hk2.ti hk2.tr (by omega)
      have HD3 : Hid (tkC d z false = saD d2 false false) := by show _ = _; unfold tkC; rw [HD2.out, HWT.out, HAG.out, if_pos hh]
      have HU3 : Hid (tkCU d z false = saU d2 false false) := by show _ = _; unfold tkCU; rw [HD2.out, HWT.out, HAG.out, if_pos hh]
      have hk3 := hk2.saD false false
      have hl3 := saU_len d2 false false
      generalize saD d2 false false = d3 at *
      generalize saU d2 false false = U3 at *
      have s1 : True := trivial
      by_cases hh3 : d3.hl = 0
      · have hh3' : (d3.hl == 0) = true := by rw [hh3]; rfl
        have HO : Hid (tkO d z false = true) := by show _ = _; unfold tkO; rw [HD3.out, HWT.out, decide_eq_true hh3]; rfl
        have HD4 : Hid (tkD d z false = snD d3) := by show _ = _; unfold tkD; rw [HO.out, HD3.out]; rfl
        have HU4 : Hid (tkU d z false = U3 ++ snU d3) := by show _ = _; unfold tkU; rw [HO.out, HD3.out, HU3.out]; rfl
        go_wp2_with (first
          | (go_at_call 31; have _t := s1; clear s1; refine kA.mono ?_; rintro e w3 ⟨rfl, ua3, un3, uc3, us3, hW3, F3⟩; clear h0 h1 h2 h3 h4 h5 h6 h7 h8 h9 h10 h11 h12; clear q0 q1 q2 q3 q4 q5 q6; obtain ⟨h0, h1, h2, h3, h4, h5, h6, h7, h8, h9, h10, h11, h12⟩ := hW3.box.cell13; have bg3 := bg2.fz F3 (fun e => by rcases e with e | e; exact ngg e; exact ofr_box hW2.u.o bg2 (by decide) (by decide) (.inl e) rfl); obtain ⟨q0, q1, q2, q3, q4, q5, q6⟩ := bg3.cell7; have FF3 := Fz.trans F2 F3 (fun i _ hi => by rcases hi with hi | hi; exact hi ▸ h.gl; exact hW2.u.o.new i hi); have s2 : True := trivial)
          | (go_at_call 32; have _t := s2; clear s2; have hl4 := hW3.u.len; refine (sendNew_any lo _ g d3 Z rs qs ua3 un3 uc3 us3 (U ++ U3) hW3 hk3.cr hk3.nx hk3.ah hk3.q hk3.fQ (by rw [List.length_append] at hl4; have := hW2.u.len; have := hk2.ah; omega)).mono ?_; rintro e w5 ⟨rfl, Z5, rs5, qs5, ua5, un5, uc5, us5, hW5, F5⟩))
        go_end0
        rw [HD4.out, HU4.out, ← List.append_assoc]
        first | exact ⟨rfl, Z5, rs5, qs5, ua5, un5, uc5, us5, hW5, Fz.trans FF3 F5 (fun i _ hi => hi)⟩ | exact ⟨rfl, ⟨Z5, rs5, qs5, ua5, un5, uc5, us5, hW5⟩, Fz.trans FF3 F5 (fun i _ hi => hi)⟩
      · have hh3' : (d3.hl == 0) = false := beq_false_of_ne hh3
        have HO : Hid (tkO d z false = false) := by show _ = _; unfold tkO; rw [HD3.out, HWT.out, decide_eq_false hh3]; rfl
        have HD4 : Hid (tkD d z false = d3) := by show _ = _; unfold tkD; rw [HO.out, HD3.out]; rfl
        have HU4 : Hid (tkU d z false = U3) := by show _ = _; unfold tkU; rw [HO.out, HU3.out]; exact List.append_nil _
        go_wp2_with (go_at_call 31; have _t := s1; clear s1; refine kA.mono ?_; rintro e w3 ⟨rfl, ua3, un3, uc3, us3, hW3, F3⟩; clear h0 h1 h2 h3 h4 h5 h6 h7 h8 h9 h10 h11 h12; clear q0 q1 q2 q3 q4 q5 q6; obtain ⟨h0, h1, h2, h3, h4, h5, h6, h7, h8, h9, h10, h11, h12⟩ := hW3.box.cell13; have bg3 := bg2.fz F3 (fun e => by rcases e with e | e; exact ngg e; exact ofr_box hW2.u.o bg2 (by decide) (by decide) (.inl e) rfl); obtain ⟨q0, q1, q2, q3, q4, q5, q6⟩ := bg3.cell7; have FF3 := Fz.trans F2 F3 (fun i _ hi => by rcases hi with hi | hi; exact hi ▸ h.gl; exact hW2.u.o.new i hi); have s2 : True := trivial)
        go_end0
        rw [HD4.out, HU4.out]
        first | exact ⟨rfl, Z, rs, qs, ua3, un3, uc3, us3, hW3, FF3⟩ | exact ⟨rfl, ⟨Z, rs, qs, ua3, un3, uc3, us3, hW3⟩, FF3⟩
    · have hh' : (d2.hl == 0) = false := beq_false_of_ne hh
      have HD3 : Hid (tkC d z false = d2) := by show _ = _; unfold tkC; rw [HD2.out, if_neg hh]
      have HU3 : Hid (tkCU d z false = []) := by show _ = _; unfold tkCU; rw [HD2.out, if_neg hh]
      have HO : Hid (tkO d z false = false) := by show _ = _; unfold tkO; rw [HD3.out, HWT.out, decide_eq_false hh]; rfl
      have HD4 : Hid (tkD d z false = d2) := by show _ = _; unfold tkD; rw [HO.out, HD3.out]; rfl
      have HU4 : Hid (tkU d z false = []) := by show _ = _; unfold tkU; rw [HO.out, HU3.out]; rfl
      go_wp2
      go_end0
      rw [HD4.out, HU4.out, List.append_nil]
      first | exact ⟨rfl, Z, rs, qs, ua, un, uc, us, hW2, F2⟩ | exact ⟨rfl, ⟨Z, rs, qs, ua, un, uc, us, hW2⟩, F2⟩
  · have kRd := fun wz => read_any z wz
    unfold gtA at kRd
    have hN := stN_lt z
    have i7 := Try.info_gt
    rw [egg] at bg0
    have hgg : gg < (w1.alloc (.cells #[.int .i64 0, .int .i64 0, .int .i64 0, .bool false, .bool false, .bool false, .int .i64 0] 28)).heap.size := bg0.lt
    have s0 : True := trivial
    by_cases hE : stE z = 0
    · have HD2 : Hid (tkB d z true = seD d1 (stM d1 (stN z)) (stB z 13)) := by show _ = _; unfold tkB tkH; rw [HA.out, hE]; rfl
      have HWT : Hid (tkG z true 12 = stB z 12) := by show _ = _; unfold tkG tkH; rw [hE]; rfl
      have HAG : Hid (tkG z true 11 = stB z 11) := by show _ = _; unfold tkG tkH; rw [hE]; rfl
      have hk2 := hk1.seD (stM d1 (stN z)) (stB z 13)
      simp only [hE] at kRd
      generalize stN z = N at *
      generalize stC z = C at *
      generalize stB z 13 = sh at *
      generalize stB z 12 = wt at *
      generalize stB z 11 = ag at *
      clear hE hW2 F2
      go_upto_region 7 with (first
        | (go_at_call 29; have _t := s0; clear s0; refine (kRd _).mono ?_; rintro e w3 ⟨rfl, y3⟩; have bgx := bg0.keep y3 (by simp); have bt0 := BxS.new w3 28 #[.int .i64 0, .int .i64 0, .int .i64 0, .bool false, .bool false, .bool false, .int .i64 0]; have gt0 := World.grownBy_alloc w3 (.cells #[.int .i64 0, .int .i64 0, .int .i64 0, .bool false, .bool false, .bool false, .int .i64 0] 28) none; have hgx := bgx.lt; have s1 : True := trivial)
        | (have _t := s1; clear s1; refine wpList_stX _ rfl _ (.tmp 7) (.tmp 29) rfl w3.heap.size _ _ rfl rfl bt0 i7 rfl (by simp [Value.oneCell']) ?_; intro w4 bt4 u4; have bg4 := (bgx.keep gt0 (by simp)).keep u4 (fun e => by have := Option.some.inj e; omega); obtain ⟨t0, t1, t2, t3, t4, t5, t6⟩ := bt4.cell7; have s2 : True := trivial)
        | (have _t := s2; clear s2; refine wpList_stX _ rfl _ (.tmp 6) (.tmp 33) rfl gg _ _ rfl rfl bg4 i7 rfl (by simp [Value.oneCell']) ?_; intro w5 bg5 u5; have G5 := grown_far (grown_far (grown_trans (grown_trans g0 y3) gt0) u4 (fun q e => by have e := Option.some.inj e; omega)) u5 (fun q e => by have e := Option.some.inj e; omega); have hW5 := hW1.keep G5; clear t0 t1 t2 t3 t4 t5 t6; obtain ⟨q0, q1, q2, q3, q4, q5, q6⟩ := bg5.cell7; have s3 : True := trivial)
        | (go_at_call 30; have _t := s3; clear s3; refine (settle_any lo w5 g d1 Z rs qs ua un uc us U hW5 N C sh wt ag hN hk1.nx (by have := hk1.ah; omega)).mono ?_; rintro e w2 ⟨rfl, Z2, rs2, hW2, FS⟩))
      have F5 := F1.step G5 (fun k e _ => by cases e)
      have F2 := Fz.trans F5 FS (fun i _ hi => by rcases hi with hi | hi; exact hi ▸ h.gl; exact hW5.o.s.o.new i hi)
      have bg2 := bg5.fz FS (fun e => by rcases e with e | e; exact ngg e; exact ofr_box hW5.o.s.o bg5 (by decide) (by decide) (.inl e) rfl)
      clear q0 q1 q2 q3 q4 q5 q6
      generalize seD d1 (stM d1 N) sh = d2 at *
      obtain ⟨h0, h1, h2, h3, h4, h5, h6, h7, h8, h9, h10, h11, h12⟩ := hW2.box.cell13
      obtain ⟨q0, q1, q2, q3, q4, q5, q6⟩ := bg2.cell7
      by_cases hh : d2.hl = 0
      · have hh' : (d2.hl == 0) = true := by rw [hh]; rfl
        have kA := sendAgain_any lo w2 g d2 Z2 rs2 qs ua un uc us U hW2 N C sh wt ag hk2.cr hk2.nx (by have := hk2.ah; omega) hk2.fS hk2.ti hk2.tr (by omega)
        have HD3 : Hid (tkC d z true = saD d2 wt ag) := by show _ = _; unfold tkC; rw [HD2.out, HWT.out, HAG.out, if_pos hh]
        have HU3 : Hid (tkCU d z true = saU d2 wt ag) := by show _ = _; unfold tkCU; rw [HD2.out, HWT.out, HAG.out, if_pos hh]
        have hk3 := hk2.saD wt ag
        have hl3 := saU_len d2 wt ag
        generalize saD d2 wt ag = d3 at *
        generalize saU d2 wt ag = U3 at *
        have s1 : True := trivial
        by_cases hh3 : d3.hl = 0
        · have hh3' : (d3.hl == 0) = true := by rw [hh3]; rfl
          cases wt
          · have HO : Hid (tkO d z true = true) := by show _ = _; unfold tkO; rw [HD3.out, HWT.out, decide_eq_true hh3]; rfl
            have HD4 : Hid (tkD d z true = snD d3) := by show _ = _; unfold tkD; rw [HO.out, HD3.out]; rfl
            have HU4 : Hid (tkU d z true = U3 ++ snU d3) := by show _ = _; unfold tkU; rw [HO.out, HD3.out, HU3.out]; rfl
            go_wp2_with (first
              | (go_at_call 31; have _t := s1; clear s1; refine kA.mono ?_; rintro e w3 ⟨rfl, ua3, un3, uc3, us3, hW3, F3⟩; clear h0 h1 h2 h3 h4 h5 h6 h7 h8 h9 h10 h11 h12; clear q0 q1 q2 q3 q4 q5 q6; obtain ⟨h0, h1, h2, h3, h4, h5, h6, h7, h8, h9, h10, h11, h12⟩ := hW3.box.cell13; have bg3 := bg2.fz F3 (fun e => by rcases e with e | e; exact ngg e; exact ofr_box hW2.u.o bg2 (by decide) (by decide) (.inl e) rfl); obtain ⟨q0, q1, q2, q3, q4, q5, q6⟩ := bg3.cell7; have FF3 := Fz.trans F2 F3 (fun i _ hi => by rcases hi with hi | hi; exact hi ▸ h.gl; exact hW2.u.o.new i hi); have s2 : True := trivial)
              | (go_at_call 32; have _t := s2; clear s2; have hl4 := hW3.u.len; refine (sendNew_any lo _ g d3 Z2 rs2 qs ua3 un3 uc3 us3 (U ++ U3) hW3 hk3.cr hk3.nx hk3.ah hk3.q hk3.fQ (by rw [List.length_append] at hl4; have := hW2.u.len; have := hk2.ah; omega)).mono ?_; rintro e w5 ⟨rfl, Z5, rs5, qs5, ua5, un5, uc5, us5, hW5, F5⟩))
            go_end0
            rw [HD4.out, HU4.out, ← List.append_assoc]
            first | exact ⟨rfl, Z5, rs5, qs5, ua5, un5, uc5, us5, hW5, Fz.trans FF3 F5 (fun i _ hi => hi)⟩ | exact ⟨rfl, ⟨Z5, rs5, qs5, ua5, un5, uc5, us5, hW5⟩, Fz.trans FF3 F5 (fun i _ hi => hi)⟩
          · have HO : Hid (tkO d z true = false) := by show _ = _; unfold tkO; rw [HD3.out, HWT.out, decide_eq_true hh3]; rfl
            have HD4 : Hid (tkD d z true = d3) := by show _ = _; unfold tkD; rw [HO.out, HD3.out]; rfl
            have HU4 : Hid (tkU d z true = U3) := by show _ = _; unfold tkU; rw [HO.out, HU3.out]; exact List.append_nil _
            go_wp2_with (go_at_call 31; have _t := s1; clear s1; refine kA.mono ?_; rintro e w3 ⟨rfl, ua3, un3, uc3, us3, hW3, F3⟩; clear h0 h1 h2 h3 h4 h5 h6 h7 h8 h9 h10 h11 h12; clear q0 q1 q2 q3 q4 q5 q6; obtain ⟨h0, h1, h2, h3, h4, h5, h6, h7, h8, h9, h10, h11, h12⟩ := hW3.box.cell13; have bg3 := bg2.fz F3 (fun e => by rcases e with e | e; exact ngg e; exact ofr_box hW2.u.o bg2 (by decide) (by decide) (.inl e) rfl); obtain ⟨q0, q1, q2, q3, q4, q5, q6⟩ := bg3.cell7; have FF3 := Fz.trans F2 F3 (fun i _ hi => by rcases hi with hi | hi; exact hi ▸ h.gl; exact hW2.u.o.new i hi); have s2 : True := trivial)
            go_end0
            rw [HD4.out, HU4.out]
            first | exact ⟨rfl, Z2, rs2, qs, ua3, un3, uc3, us3, hW3, FF3⟩ | exact ⟨rfl, ⟨Z2, rs2, qs, ua3, un3, uc3, us3, hW3⟩, FF3⟩
        · have hh3' : (d3.hl == 0) = false := beq_false_of_ne hh3
          have HO : Hid (tkO d z true = false) := by show _ = _; unfold tkO; rw [HD3.out, HWT.out, decide_eq_false hh3]; rfl
          have HD4 : Hid (tkD d z true = d3) := by show _ = _; unfold tkD; rw [HO.out, HD3.out]; rfl
          have HU4 : Hid (tkU d z true = U3) := by show _ = _; unfold tkU; rw [HO.out, HU3.out]; exact List.append_nil _
          go_wp2_with (go_at_call 31; have _t := s1; clear s1; refine kA.mono ?_; rintro e w3 ⟨rfl, ua3, un3, uc3, us3, hW3, F3⟩; clear h0 h1 h2 h3 h4 h5 h6 h7 h8 h9 h10 h11 h12; clear q0 q1 q2 q3 q4 q5 q6; obtain ⟨h0, h1, h2, h3, h4, h5, h6, h7, h8, h9, h10, h11, h12⟩ := hW3.box.cell13; have bg3 := bg2.fz F3 (fun e => by rcases e with e | e; exact ngg e; exact ofr_box hW2.u.o bg2 (by decide) (by decide) (.inl e) rfl); obtain ⟨q0, q1, q2, q3, q4, q5, q6⟩ := bg3.cell7; have FF3 := Fz.trans F2 F3 (fun i _ hi => by rcases hi with hi | hi; exact hi ▸ h.gl; exact hW2.u.o.new i hi); have s2 : True := trivial)
          go_end0
          rw [HD4.out, HU4.out]
          first | exact ⟨rfl, Z2, rs2, qs, ua3, un3, uc3, us3, hW3, FF3⟩ | exact ⟨rfl, ⟨Z2, rs2, qs, ua3, un3, uc3, us3, hW3⟩, FF3⟩
      · have hh' : (d2.hl == 0) = false := beq_false_of_ne hh
        have HD3 : Hid (tkC d z true = d2) := by show _ = _; unfold tkC; rw [HD2.out, if_neg hh]
        have HU3 : Hid (tkCU d z true = []) := by show _ = _; unfold tkCU; rw [HD2.out, if_neg hh]
        have HO : Hid (tkO d z true = false) := by show _ = _; unfold tkO; rw [HD3.out, HWT.out, decide_eq_false hh]; rfl
        have HD4 : Hid (tkD d z true = d2) := by show _ = _; unfold tkD; rw [HO.out, HD3.out]; rfl
        have HU4 : Hid (tkU d z true = []) := by show _ = _; unfold tkU; rw [HO.out, HU3.out]; rfl
        go_wp2
        go_end0
        rw [HD4.out, HU4.out, List.append_nil]
        first | exact ⟨rfl, Z2, rs2, qs, ua, un, uc, us, hW2, F2⟩ | exact ⟨rfl, ⟨Z2, rs2, qs, ua, un, uc, us, hW2⟩, F2⟩
    · have hE' : ((stE z : Int) == 0) = false := by simp; omega
      have HD2 : Hid (tkB d z true = d1) := by show _ = _; unfold tkB tkH; rw [HA.out, decide_eq_false hE]; rfl
      have HWT : Hid (tkG z true 12 = false) := by show _ = _; unfold tkG tkH; rw [decide_eq_false hE]; rfl
      have HAG : Hid (tkG z true 11 = false) := by show _ = _; unfold tkG tkH; rw [decide_eq_false hE]; rfl
      generalize stN z = N at *
      generalize stC z = C at *
      generalize stB z 13 = sh at *
      generalize stB z 12 = wt at *
      generalize stB z 11 = ag at *
      generalize stE z = E at *
      clear hE hW2 F2
      go_upto_region 7 with (first
        | (go_at_call 29; have _t := s0; clear s0; refine (kRd _).mono ?_; rintro e w3 ⟨rfl, y3⟩; have bgx := bg0.keep y3 (by simp); have bt0 := BxS.new w3 28 #[.int .i64 0, .int .i64 0, .int .i64 0, .bool false, .bool false, .bool false, .int .i64 0]; have gt0 := World.grownBy_alloc w3 (.cells #[.int .i64 0, .int .i64 0, .int .i64 0, .bool false, .bool false, .bool false, .int .i64 0] 28) none; have hgx := bgx.lt; have s1 : True := trivial)
        | (have _t := s1; clear s1; refine wpList_stX _ rfl _ (.tmp 7) (.tmp 29) rfl w3.heap.size _ _ rfl rfl bt0 i7 rfl (by simp [Value.oneCell']) ?_; intro w2 bt4 u4; have bg2 := (bgx.keep gt0 (by simp)).keep u4 (fun e => by have := Option.some.inj e; omega); have s2 : True := trivial))
      have G5 := grown_far (grown_trans (grown_trans g0 y3) gt0) u4 (fun q e => by have e := Option.some.inj e; omega)
      have hW2 := hW1.keep G5
      have F2 := F1.step G5 (fun k e _ => by cases e)
      have hk2 := hk1
      generalize d1 = d2 at *
      obtain ⟨h0, h1, h2, h3, h4, h5, h6, h7, h8, h9, h10, h11, h12⟩ := hW2.box.cell13
      obtain ⟨q0, q1, q2, q3, q4, q5, q6⟩ := bg2.cell7
      by_cases hh : d2.hl = 0
      · have hh' : (d2.hl == 0) = true := by rw [hh]; rfl
        have kA := sendAgain_any lo w2 g d2 Z rs qs ua un uc us U hW2 0 0 false false false hk2.cr hk2.nx (by have := hk2.ah; omega) hk2.fS hk2.ti hk2.tr (by omega)
        have HD3 : Hid (tkC d z true = saD d2 false false) := by show _ = _; unfold tkC; rw [HD2.out, HWT.out, HAG.out, if_pos hh]
        have HU3 : Hid (tkCU d z true = saU d2 false false) := by show _ = _; unfold tkCU; rw [HD2.out, HWT.out, HAG.out, if_pos hh]
        have hk3 := hk2.saD false false
        have hl3 := saU_len d2 false false
        generalize saD d2 false false = d3 at *
        generalize saU d2 false false = U3 at *
        have s1 : True := trivial
        by_cases hh3 : d3.hl = 0
        · have hh3' : (d3.hl == 0) = true := by rw [hh3]; rfl
          have HO : Hid (tkO d z true = true) := by show _ = _; unfold tkO; rw [HD3.out, HWT.out, decide_eq_true hh3]; rfl
          have HD4 : Hid (tkD d z true = snD d3) := by show _ = _; unfold tkD; rw [HO.out, HD3.out]; rfl
          have HU4 : Hid (tkU d z true = U3 ++ snU d3) := by show _ = _; unfold tkU; rw [HO.out, HD3.out, HU3.out]; rfl
          go_wp2_with (first
            | (go_at_call 31; have _t := s1; clear s1; refine kA.mono ?_; rintro e w3 ⟨rfl, ua3, un3, uc3, us3, hW3, F3⟩; clear h0 h1 h2 h3 h4 h5 h6 h7 h8 h9 h10 h11 h12; clear q0 q1 q2 q3 q4 q5 q6; obtain ⟨h0, h1, h2, h3, h4, h5, h6, h7, h8, h9, h10, h11, h12⟩ := hW3.box.cell13; have bg3 := bg2.fz F3 (fun e => by rcases e with e | e; exact ngg e; exact ofr_box hW2.u.o bg2 (by decide) (by decide) (.inl e) rfl); obtain ⟨q0, q1, q2, q3, q4, q5, q6⟩ := bg3.cell7; have FF3 := Fz.trans F2 F3 (fun i _ hi => by rcases hi with hi | hi; exact hi ▸ h.gl; exact hW2.u.o.new i hi); have s2 : True := trivial)
            | (go_at_call 32; have _t := s2; clear s2; have hl4 := hW3.u.len; refine (sendNew_any lo _ g d3 Z rs qs ua3 un3 uc3 us3 (U ++ U3) hW3 hk3.cr hk3.nx hk3.ah hk3.q hk3.fQ (by rw [List.length_append] at hl4; have := hW2.u.len; have := hk2.ah; omega)).mono ?_; rintro e w5 ⟨rfl, Z5, rs5, qs5, ua5, un5, uc5, us5, hW5, F5⟩))
          go_end0
          rw [HD4.out, HU4.out, ← List.append_assoc]
          first | exact ⟨rfl, Z5, rs5, qs5, ua5, un5, uc5, us5, hW5, Fz.trans FF3 F5 (fun i _ hi => hi)⟩ | exact ⟨rfl, ⟨Z5, rs5, qs5, ua5, un5, uc5, us5, hW5⟩, Fz.trans FF3 F5 (fun i _ hi => hi)⟩
        · have hh3' : (d3.hl == 0) = false := beq_false_of_ne hh3
          have HO : Hid (tkO d z true = false) := by show _ = _; unfold tkO; rw [HD3.out, HWT.out, decide_eq_false hh3]; rfl
          have HD4 : Hid (tkD d z true = d3) := by show _ = _; unfold tkD; rw [HO.out, HD3.out]; rfl
          have HU4 : Hid (tkU d z true = U3) := by show _ = _; unfold tkU; rw [HO.out, HU3.out]; exact List.append_nil _
          go_wp2_with (go_at_call 31; have _t := s1; clear s1; refine kA.mono ?_; rintro e w3 ⟨rfl, ua3, un3, uc3, us3, hW3, F3⟩; clear h0 h1 h2 h3 h4 h5 h6 h7 h8 h9 h10 h11 h12; clear q0 q1 q2 q3 q4 q5 q6; obtain ⟨h0, h1, h2, h3, h4, h5, h6, h7, h8, h9, h10, h11, h12⟩ := hW3.box.cell13; have bg3 := bg2.fz F3 (fun e => by rcases e with e | e; exact ngg e; exact ofr_box hW2.u.o bg2 (by decide) (by decide) (.inl e) rfl); obtain ⟨q0, q1, q2, q3, q4, q5, q6⟩ := bg3.cell7; have FF3 := Fz.trans F2 F3 (fun i _ hi => by rcases hi with hi | hi; exact hi ▸ h.gl; exact hW2.u.o.new i hi); have s2 : True := trivial)
          go_end0
          rw [HD4.out, HU4.out]
          first | exact ⟨rfl, Z, rs, qs, ua3, un3, uc3, us3, hW3, FF3⟩ | exact ⟨rfl, ⟨Z, rs, qs, ua3, un3, uc3, us3, hW3⟩, FF3⟩
      · have hh' : (d2.hl == 0) = false := beq_false_of_ne hh
        have HD3 : Hid (tkC d z true = d2) := by show _ = _; unfold tkC; rw [HD2.out, if_neg hh]
        have HU3 : Hid (tkCU d z true = []) := by show _ = _; unfold tkCU; rw [HD2.out, if_neg hh]
        have HO : Hid (tkO d z true = false) := by show _ = _; unfold tkO; rw [HD3.out, HWT.out, decide_eq_false hh]; rfl
        have HD4 : Hid (tkD d z true = d2) := by show _ = _; unfold tkD; rw [HO.out, HD3.out]; rfl
        have HU4 : Hid (tkU d z true = []) := by show _ = _; unfold tkU; rw [HO.out, HU3.out]; rfl
        go_wp2
        go_end0
        rw [HD4.out, HU4.out, List.append_nil]
        first | exact ⟨rfl, Z, rs, qs, ua, un, uc, us, hW2, F2⟩ | exact ⟨rfl, ⟨Z, rs, qs, ua, un, uc, us, hW2⟩, F2⟩

/-- two variables: what was reported, and whether it was heard -/
def VrS (gs gh : Nat) (z : Int) (b : Bool) (w : World) : Prop := BxS w gs 3 #[.int .i64 z] ∧ BxS w gh 4 #[.bool b]
theorem VrS.keep {gs gh : Nat} {z : Int} {b : Bool} (x y : World) (h : VrS gs gh z b x) (hg : x.grownBy y none) : VrS gs gh z b y := ⟨h.1.keep hg (by simp), h.2.keep hg (by simp)⟩
/-- what a tick makes of a hand that may be -/
def tsV (d : Hd) (z : Int) (b : Bool) : Hd := if d.hl = 0 then tkD d z b else d
def tsR (d : Hd) (z : Int) (b : Bool) : List (List Nat) := if d.hl = 0 then tkU d z b else []
/-- what Step answers -/
def spV (d : Hd) (z : Int) (b : Bool) : Hd := if hndB d = true then tsV d z b else hd0
def spR (d : Hd) (z : Int) (b : Bool) : List (List Nat) := if hndB d = true then tsR d z b else []
def spE (d : Hd) : Nat := if hndB d = true then 0 else 11
set_option maxHeartbeats 64000000 in
theorem step1_any (gs gh : Nat) (z : Int) (b : Bool) (d : Hd) (lo : Nat) (wz : World) (g : Nat) (Z : Hx) (rs qs : List Rw) (hv : VrS gs gh z b wz) (hlo : lo ≤ g) (hB : BxS wz g 57 #[.int .i64 d.cr, .int .i64 d.nx, .int .i64 d.ah, .slice Z.sa Z.sn Z.sc, .slice Z.qa Z.qn Z.qc, .int .i64 d.ti, .int .i64 d.pa, .int .i64 d.tr, .int .i64 d.li, .int .i64 d.si, .int .i64 d.pu, .int .i64 d.hl, .slice none 0 0]) (hO : OwHd wz lo Z rs qs d) (hq : hndB d = true) :
    Calls Try.prog 20 #[.pointer (some ⟨g, 0, none⟩), .pointer (some ⟨gs, 0, none⟩), .pointer (some ⟨gh, 0, none⟩)] wz fun e w' => ∃ (P1 : Hx) (rs1 qs1 : List Rw) (xa : Option Addr) (xn xc : Nat) (us1 : List Rw), e = .returned (.int .i64 ((0 : Nat) : Int)) ∧ BxS w' g 57 #[.int .i64 (tsV d z b).cr, .int .i64 (tsV d z b).nx, .int .i64 (tsV d z b).ah, .slice P1.sa P1.sn P1.sc, .slice P1.qa P1.qn P1.qc, .int .i64 (tsV d z b).ti, .int .i64 (tsV d z b).pa, .int .i64 (tsV d z b).tr, .int .i64 (tsV d z b).li, .int .i64 (tsV d z b).si, .int .i64 (tsV d z b).pu, .int .i64 (tsV d z b).hl, .slice xa xn xc] ∧ OwHd w' lo P1 rs1 qs1 (tsV d z b) ∧ OwW w' lo xa xn xc us1 (tsR d z b) ∧ (∀ x, Ofr (.slice xa xn xc) us1 x → ¬ Hbl P1 rs1 qs1 x) ∧ Fz (fun i => lo ≤ i) wz w' := by
  have x0 : wz.cell? ⟨gs, 0, none⟩ = some (.int .i64 z) := hv.1.cell 0 (by show 0 < 1; decide)
  have x1 : wz.cell? ⟨gh, 0, none⟩ = some (.bool b) := hv.2.cell 0 (by show 0 < 1; decide)
  have hW : HW lo wz g d Z rs qs none 0 0 [] [] := ⟨hB, hlo, hO, OwW.nil _ _, fun x hx => absurd hx (ofr_nil x)⟩
  obtain ⟨hk, hs1, hs2, hs3⟩ := hk_of hq
  obtain ⟨h0, h1, h2, h3, h4, h5, h6, h7, h8, h9, h10, h11, h12⟩ := hB.cell13
  by_cases hh : d.hl = 0
  · have kT := tick_any lo wz g d Z rs qs none 0 0 [] [] hW z b hk ⟨hs1, by omega⟩ (by decide)
    have eV : tsV d z b = tkD d z b := if_pos hh
    have eR : tsR d z b = tkU d z b := if_pos hh
    rw [List.nil_append] at kT
    rw [eV, eR]
    have hh' : (d.hl == 0) = true := by rw [hh]; rfl
    clear eV eR hh
    generalize tkD d z b = V at *
    generalize tkU d z b = R at *
    go_enter Try.func20, Try.ntmps20
    go_wp2_with (go_at_call 21; refine kT.mono ?_; rintro e w1 ⟨rfl, Z1, rs1, qs1, ua1, un1, uc1, us1, hW1, F1⟩)
    go_ret
    exact ⟨Z1, rs1, qs1, ua1, un1, uc1, us1, rfl, hW1.box, hW1.o, hW1.u, hW1.ap, F1⟩
  · have eV : tsV d z b = d := if_neg hh
    have eR : tsR d z b = [] := if_neg hh
    rw [eV, eR]
    have hh' : (d.hl == 0) = false := beq_false_of_ne hh
    clear eV eR
    go_enter Try.func20, Try.ntmps20
    go_wp2
    go_ret
    exact ⟨Z, rs, qs, none, 0, 0, [], rfl, hB, hO, OwW.nil _ _, (fun x hx => absurd hx (ofr_nil x)), Fz.refl _ _⟩
set_option maxHeartbeats 64000000 in
theorem apart_step (gs gh : Nat) (d W : Hd) (R : List (List Nat)) (Er : Nat) (X : Hx) (w : World) (I : World → Prop) (hI : ∀ a b, I a → a.grownBy b none → I b) (hI0 : I w) (hB : hndB d = true) (hd : RdHd w X d)
    (hS : ∀ (lo : Nat) (wz : World) (g : Nat) (Z : Hx) (rs qs : List Rw), I wz → lo ≤ g → BxS wz g 57 #[.int .i64 d.cr, .int .i64 d.nx, .int .i64 d.ah, .slice Z.sa Z.sn Z.sc, .slice Z.qa Z.qn Z.qc, .int .i64 d.ti, .int .i64 d.pa, .int .i64 d.tr, .int .i64 d.li, .int .i64 d.si, .int .i64 d.pu, .int .i64 d.hl, .slice none 0 0] → OwHd wz lo Z rs qs d → Calls Try.prog 20 #[.pointer (some ⟨g, 0, none⟩), .pointer (some ⟨gs, 0, none⟩), .pointer (some ⟨gh, 0, none⟩)] wz fun e w' => ∃ (P1 : Hx) (rs1 qs1 : List Rw) (xa : Option Addr) (xn xc : Nat) (us1 : List Rw), e = .returned (.int .i64 (Er : Int)) ∧ BxS w' g 57 #[.int .i64 W.cr, .int .i64 W.nx, .int .i64 W.ah, .slice P1.sa P1.sn P1.sc, .slice P1.qa P1.qn P1.qc, .int .i64 W.ti, .int .i64 W.pa, .int .i64 W.tr, .int .i64 W.li, .int .i64 W.si, .int .i64 W.pu, .int .i64 W.hl, .slice xa xn xc] ∧ OwHd w' lo P1 rs1 qs1 W ∧ OwW w' lo xa xn xc us1 R ∧ (∀ x, Ofr (.slice xa xn xc) us1 x → ¬ Hbl P1 rs1 qs1 x) ∧ Fz (fun i => lo ≤ i) wz w') :
    Calls Try.prog 16 #[.agg #[.int .i64 d.cr, .int .i64 d.nx, .int .i64 d.ah, .slice X.sa X.sn X.sc, .slice X.qa X.qn X.qc, .int .i64 d.ti, .int .i64 d.pa, .int .i64 d.tr, .int .i64 d.li, .int .i64 d.si, .int .i64 d.pu, .int .i64 d.hl], .func (.func 20) #[] #[.pointer (some ⟨gs, 0, none⟩), .pointer (some ⟨gh, 0, none⟩)]] w fun e w' => ∃ (P1 : Hx) (rs1 qs1 : List Rw) (xa : Option Addr) (xn xc : Nat) (us1 : List Rw), e = .returned (.tuple #[.agg #[.int .i64 W.cr, .int .i64 W.nx, .int .i64 W.ah, .slice P1.sa P1.sn P1.sc, .slice P1.qa P1.qn P1.qc, .int .i64 W.ti, .int .i64 W.pa, .int .i64 W.tr, .int .i64 W.li, .int .i64 W.si, .int .i64 W.pu, .int .i64 W.hl], .slice xa xn xc, .int .i64 (Er : Int)]) ∧ OwHd w' w.heap.size P1 rs1 qs1 W ∧ OwW w' w.heap.size xa xn xc us1 R ∧ (∀ x, Ofr (.slice xa xn xc) us1 x → ¬ Hbl P1 rs1 qs1 x) ∧ w.grownBy w' none := by
  obtain ⟨F, hF1, hF2⟩ := hd.s.ex
  obtain ⟨K, hK1, hK2⟩ := hd.q.ex
  have l1 := hd.s.len
  have l2 := hd.q.len
  have hq := hnd_of hF1 hF2 hK1 hK2 l1 l2
  rw [hB] at hq
  obtain ⟨_, n1, n2, _, _, f1, f2⟩ := hnd_ok hB
  have b0 := BxS.new w 26 #[.int .i64 d.cr, .int .i64 d.nx, .int .i64 d.ah, .slice X.sa X.sn X.sc, .slice X.qa X.qn X.qc, .int .i64 d.ti, .int .i64 d.pa, .int .i64 d.tr, .int .i64 d.li, .int .i64 d.si, .int .i64 d.pu, .int .i64 d.hl]
  have g0 := World.grownBy_alloc w (.cells #[.int .i64 d.cr, .int .i64 d.nx, .int .i64 d.ah, .slice X.sa X.sn X.sc, .slice X.qa X.qn X.qc, .int .i64 d.ti, .int .i64 d.pa, .int .i64 d.tr, .int .i64 d.li, .int .i64 d.si, .int .i64 d.pu, .int .i64 d.hl] 26) none
  generalize hw0 : w.alloc (.cells #[.int .i64 d.cr, .int .i64 d.nx, .int .i64 d.ah, .slice X.sa X.sn X.sc, .slice X.qa X.qn X.qc, .int .i64 d.ti, .int .i64 d.pa, .int .i64 d.tr, .int .i64 d.li, .int .i64 d.si, .int .i64 d.pu, .int .i64 d.hl] 26) = w0 at b0 g0
  have hz0 : w0.heap.size = w.heap.size + 1 := by rw [← hw0]; simp
  have b1 := BxS.new w0 26 #[.int .i64 0, .int .i64 0, .int .i64 0, .slice none 0 0, .slice none 0 0, .int .i64 0, .int .i64 0, .int .i64 0, .int .i64 0, .int .i64 0, .int .i64 0, .int .i64 0]
  have g1 := World.grownBy_alloc w0 (.cells #[.int .i64 0, .int .i64 0, .int .i64 0, .slice none 0 0, .slice none 0 0, .int .i64 0, .int .i64 0, .int .i64 0, .int .i64 0, .int .i64 0, .int .i64 0, .int .i64 0] 26) none
  generalize hw1 : w0.alloc (.cells #[.int .i64 0, .int .i64 0, .int .i64 0, .slice none 0 0, .slice none 0 0, .int .i64 0, .int .i64 0, .int .i64 0, .int .i64 0, .int .i64 0, .int .i64 0, .int .i64 0] 26) = w1 at b1 g1
  rw [hz0] at b1
  have p0 := b0.keep g1 (by simp)
  have G1 := grown_trans g0 g1
  have hM := hmay_any d.cr d.nx d.ah X.sa X.sn X.sc F X.qa X.qn X.qc K d.ti d.pa d.tr d.li d.si d.pu d.hl w1 (hF1.keep G1) (hK1.keep G1)
  unfold hnA at hM
  rw [hq] at hM
  have kCS := fun wz (h : RdW wz X.sa X.sn X.sc d.S) => copyAll2_any X.sa X.sn X.sc d.S wz h f1 (by omega)
  have kCQ := fun wz (h : RdW wz X.qa X.qn X.qc d.Q) => copyAll2_any X.qa X.qn X.qc d.Q wz h f2 (by omega)
  clear hq hF1 hF2 hK1 hK2 f1 f2 hB
  have i12 := Try.info_hn3
  have sz1 : w.heap.size + 2 ≤ w1.heap.size := by rw [← hw1]; simp [hz0]
  obtain ⟨c0, c1, c2, c3, c4, c5, c6, c7, c8, c9, c10, c11⟩ := p0.cell12
  have s0 : True := trivial
  go_enter Try.func16, Try.ntmps16
  go_wp2_with (go_at_call 14; have _t := s0; clear s0; refine hM.mono ?_; rintro e w2 ⟨rfl, y2⟩; have sz2 := y2.size; have p0s := p0.keep y2 (by simp); have p1w := b1.keep y2 (by simp); clear c0 c1 c2 c3 c4 c5 c6 c7 c8 c9 c10 c11; obtain ⟨c0, c1, c2, c3, c4, c5, c6, c7, c8, c9, c10, c11⟩ := p0s.cell12)
  have yA := World.grownBy_alloc w2 (.cells #[.int .i64 d.cr, .int .i64 d.nx, .int .i64 d.ah, .slice X.sa X.sn X.sc, .slice X.qa X.qn X.qc, .int .i64 d.ti, .int .i64 d.pa, .int .i64 d.tr, .int .i64 d.li, .int .i64 d.si, .int .i64 d.pu, .int .i64 d.hl, .slice none 0 0] 57) none
  have H3 := BxS.new w2 57 #[.int .i64 d.cr, .int .i64 d.nx, .int .i64 d.ah, .slice X.sa X.sn X.sc, .slice X.qa X.qn X.qc, .int .i64 d.ti, .int .i64 d.pa, .int .i64 d.tr, .int .i64 d.li, .int .i64 d.si, .int .i64 d.pu, .int .i64 d.hl, .slice none 0 0]
  have Y3 := grown_trans y2 yA
  have G3 := grown_trans G1 Y3
  have sz3' : w2.heap.size + 1 ≤ (w2.alloc (.cells #[.int .i64 d.cr, .int .i64 d.nx, .int .i64 d.ah, .slice X.sa X.sn X.sc, .slice X.qa X.qn X.qc, .int .i64 d.ti, .int .i64 d.pa, .int .i64 d.tr, .int .i64 d.li, .int .i64 d.si, .int .i64 d.pu, .int .i64 d.hl, .slice none 0 0] 57)).heap.size := by simp
  generalize w2.alloc (.cells #[.int .i64 d.cr, .int .i64 d.nx, .int .i64 d.ah, .slice X.sa X.sn X.sc, .slice X.qa X.qn X.qc, .int .i64 d.ti, .int .i64 d.pa, .int .i64 d.tr, .int .i64 d.li, .int .i64 d.si, .int .i64 d.pu, .int .i64 d.hl, .slice none 0 0] 57) = w3 at *
  obtain ⟨gh, egh⟩ : ∃ gh, w2.heap.size = gh := ⟨_, rfl⟩
  rw [egh] at H3 sz2 sz3' ⊢
  clear c0 c1 c2 c3 c4 c5 c6 c7 c8 c9 c10 c11
  have p0w := p0s
  have SS : w2.grownBy w3.drew none := grown_trans yA (grown_drew w3 none)
  have H3 := H3.keep (grown_drew w3 none) (by simp)
  refine wp_regionL (fun wz => w2.grownBy wz none) [] #[false, false, false, false, false, false, false, false, false, false, false, false, false, false, false, false] rfl (by kernel_rfl) ?_
  refine wpAnyZ_take [] 0 (.pointer (some ⟨gh, 0, none⟩)) rfl (by kernel_rfl) (fun _ _ _ h => h) SS rfl (by intro wz hz; obtain ⟨z0, z1, z2, z3, z4, z5, z6, z7, z8, z9, z10, z11⟩ := (BxS.keep p0s hz (by simp)).cell12; go_simp) ?_
  try simp only [List.getElem_toArray, List.getElem_cons_succ, List.getElem_cons_zero, Act.put, List.setIfInBounds_toArray, List.set_cons_zero, List.set_cons_succ]
  refine wpAnyZ_take [] 1 (.pointer (some ⟨gh, 0, none⟩)) rfl (by kernel_rfl) (fun _ _ _ h => h) SS rfl (by intro wz hz; obtain ⟨z0, z1, z2, z3, z4, z5, z6, z7, z8, z9, z10, z11⟩ := (BxS.keep p0s hz (by simp)).cell12; go_simp) ?_
  try simp only [List.getElem_toArray, List.getElem_cons_succ, List.getElem_cons_zero, Act.put, List.setIfInBounds_toArray, List.set_cons_zero, List.set_cons_succ]
  refine wpAnyZ_take [] 2 (.pointer (some ⟨w.heap.size, 3, none⟩)) rfl (by kernel_rfl) (fun _ _ _ h => h) SS rfl (by intro wz hz; obtain ⟨z0, z1, z2, z3, z4, z5, z6, z7, z8, z9, z10, z11⟩ := (BxS.keep p0s hz (by simp)).cell12; go_simp) ?_
  try simp only [List.getElem_toArray, List.getElem_cons_succ, List.getElem_cons_zero, Act.put, List.setIfInBounds_toArray, List.set_cons_zero, List.set_cons_succ]
  refine wpAnyZ_take [] 3 (.slice X.sa X.sn X.sc) rfl (by kernel_rfl) (fun _ _ _ h => h) SS rfl (by intro wz hz; obtain ⟨z0, z1, z2, z3, z4, z5, z6, z7, z8, z9, z10, z11⟩ := (BxS.keep p0s hz (by simp)).cell12; go_simp) ?_
  try simp only [List.getElem_toArray, List.getElem_cons_succ, List.getElem_cons_zero, Act.put, List.setIfInBounds_toArray, List.set_cons_zero, List.set_cons_succ]
  refine wpAnyZ_take [] 5 (.pointer (some ⟨w.heap.size, 4, none⟩)) rfl (by kernel_rfl) (fun _ _ _ h => h) SS rfl (by intro wz hz; obtain ⟨z0, z1, z2, z3, z4, z5, z6, z7, z8, z9, z10, z11⟩ := (BxS.keep p0s hz (by simp)).cell12; go_simp) ?_
  try simp only [List.getElem_toArray, List.getElem_cons_succ, List.getElem_cons_zero, Act.put, List.setIfInBounds_toArray, List.set_cons_zero, List.set_cons_succ]
  refine wpAnyZ_take [] 6 (.slice X.qa X.qn X.qc) rfl (by kernel_rfl) (fun _ _ _ h => h) SS rfl (by intro wz hz; obtain ⟨z0, z1, z2, z3, z4, z5, z6, z7, z8, z9, z10, z11⟩ := (BxS.keep p0s hz (by simp)).cell12; go_simp) ?_
  try simp only [List.getElem_toArray, List.getElem_cons_succ, List.getElem_cons_zero, Act.put, List.setIfInBounds_toArray, List.set_cons_zero, List.set_cons_succ]
  refine wpAnyZ_oneB 4 rfl (by kernel_rfl) (fun K hK => ?_)
  go_simp
  go_at_call 28
  refine (kCS _ (hd.s.keep (grown_trans (grown_trans G1 y2) SS))).mono ?_
  rintro e w4 ⟨aS, cS, rs, rfl, hs4, y4⟩
  dsimp only
  have SS := grown_trans SS y4
  have H4 := H3.keep y4 (by simp)
  refine hK _ _ (fun _ => SS) ?_
  try simp only [List.getElem_toArray, List.getElem_cons_succ, List.getElem_cons_zero, Act.put, List.setIfInBounds_toArray, List.set_cons_zero, List.set_cons_succ]
  refine wpAnyZ_oneB 7 rfl (by kernel_rfl) (fun K hK => ?_)
  go_simp
  go_at_call 28
  refine (kCQ _ (hd.q.keep (grown_trans (grown_trans G1 y2) SS))).mono ?_
  rintro e w5 ⟨aq, cq, qs, rfl, hq5, y5⟩
  dsimp only
  have SS := grown_trans SS y5
  have H5 := H4.keep y5 (by simp)
  have hs5 := hs4.keep y5
  refine hK _ _ (fun _ => SS) ?_
  try simp only [List.getElem_toArray, List.getElem_cons_succ, List.getElem_cons_zero, Act.put, List.setIfInBounds_toArray, List.set_cons_zero, List.set_cons_succ]
  refine wpAnyZ_take [] 8 (.pointer (some ⟨gh, 0, none⟩)) rfl (by kernel_rfl) (fun _ _ _ h => h) SS rfl (by intro wz hz; go_simp) ?_
  try simp only [List.getElem_toArray, List.getElem_cons_succ, List.getElem_cons_zero, Act.put, List.setIfInBounds_toArray, List.set_cons_zero, List.set_cons_succ]
  refine wpAnyZ_take [] 9 (.pointer (some ⟨gh, 0, none⟩)) rfl (by kernel_rfl) (fun _ _ _ h => h) SS rfl (by intro wz hz; go_simp) ?_
  try simp only [List.getElem_toArray, List.getElem_cons_succ, List.getElem_cons_zero, Act.put, List.setIfInBounds_toArray, List.set_cons_zero, List.set_cons_succ]
  refine wpAnyZ_take [] 10 (.pointer (some ⟨gh, 3, none⟩)) rfl (by kernel_rfl) (fun _ _ _ h => h) SS rfl (by intro wz hz; go_simp) ?_
  try simp only [List.getElem_toArray, List.getElem_cons_succ, List.getElem_cons_zero, Act.put, List.setIfInBounds_toArray, List.set_cons_zero, List.set_cons_succ]
  refine wpAnyZ_oneB 11 rfl (by kernel_rfl) (fun K hK => ?_)
  refine step_stC _ rfl _ _ _ rfl gh 3 57 _ #[.int .i64 d.cr, .int .i64 d.nx, .int .i64 d.ah, .slice aS X.sn cS, .slice X.qa X.qn X.qc, .int .i64 d.ti, .int .i64 d.pa, .int .i64 d.tr, .int .i64 d.li, .int .i64 d.si, .int .i64 d.pu, .int .i64 d.hl, .slice none 0 0] (.slice aS X.sn cS) rfl rfl H5 (stc_rows _ _ _ _ _) (by show 3 < 13; decide) rfl ?_
  intro w6 H6 u6
  have SS := grown_far SS u6 (fun q e => by have e := Option.some.inj e; omega)
  refine hK _ _ (fun _ => SS) ?_
  try simp only [List.getElem_toArray, List.getElem_cons_succ, List.getElem_cons_zero, Act.put, List.setIfInBounds_toArray, List.set_cons_zero, List.set_cons_succ]
  refine wpAnyZ_take [] 12 (.pointer (some ⟨gh, 0, none⟩)) rfl (by kernel_rfl) (fun _ _ _ h => h) SS rfl (by intro wz hz; go_simp) ?_
  try simp only [List.getElem_toArray, List.getElem_cons_succ, List.getElem_cons_zero, Act.put, List.setIfInBounds_toArray, List.set_cons_zero, List.set_cons_succ]
  refine wpAnyZ_take [] 13 (.pointer (some ⟨gh, 0, none⟩)) rfl (by kernel_rfl) (fun _ _ _ h => h) SS rfl (by intro wz hz; go_simp) ?_
  try simp only [List.getElem_toArray, List.getElem_cons_succ, List.getElem_cons_zero, Act.put, List.setIfInBounds_toArray, List.set_cons_zero, List.set_cons_succ]
  refine wpAnyZ_take [] 14 (.pointer (some ⟨gh, 4, none⟩)) rfl (by kernel_rfl) (fun _ _ _ h => h) SS rfl (by intro wz hz; go_simp) ?_
  try simp only [List.getElem_toArray, List.getElem_cons_succ, List.getElem_cons_zero, Act.put, List.setIfInBounds_toArray, List.set_cons_zero, List.set_cons_succ]
  refine wpAnyZ_oneB 15 rfl (by kernel_rfl) (fun K hK => ?_)
  refine step_stC _ rfl _ _ _ rfl gh 4 57 _ #[.int .i64 d.cr, .int .i64 d.nx, .int .i64 d.ah, .slice aS X.sn cS, .slice aq X.qn cq, .int .i64 d.ti, .int .i64 d.pa, .int .i64 d.tr, .int .i64 d.li, .int .i64 d.si, .int .i64 d.pu, .int .i64 d.hl, .slice none 0 0] (.slice aq X.qn cq) rfl rfl H6 (stc_rows _ _ _ _ _) (by show 4 < 13; decide) rfl ?_
  intro w7 H7 u7
  have SS := grown_far SS u7 (fun q e => by have e := Option.some.inj e; omega)
  refine hK _ _ (fun _ => SS) ?_
  try simp only [List.getElem_toArray, List.getElem_cons_succ, List.getElem_cons_zero, Act.put, List.setIfInBounds_toArray, List.set_cons_zero, List.set_cons_succ]
  refine wpAnyZ_doneB (by kernel_rfl) ?_ _
  have hgh : w.heap.size + 2 ≤ gh := by omega
  have hq5l := fun x hx => hq5.lo' x hx
  have hs4h := fun x hx => hs4.hi x hx
  have sz3d : gh ≤ w3.drew.heap.size := by have : w3.drew.heap.size = w3.heap.size := rfl; omega
  have sz34 := y4.size
  have hs6 := hs5.fz (fz_of2 u6) (box_ofrC hs5 H5)
  have hs7 := (hs6.fz (fz_of2 u7) (box_ofrC hs6 H6)).wide sz3d
  have hq6 := hq5.fz (fz_of2 u6) (box_ofrC hq5 H5)
  have hq7 := (hq6.fz (fz_of2 u7) (box_ofrC hq6 H6)).wide (Nat.le_trans sz3d sz34)
  have hO7 : OwHd w7 gh ⟨aS, X.sn, cS, aq, X.qn, cq⟩ rs qs d := ⟨hs7, hq7, fun x h1 h2 => by have := hs4h x h1; have := hq5l x h2; omega⟩
  have G7 := grown_trans (grown_trans G1 y2) SS
  have p1s := p1w.keep SS (by simp)
  have H7 : BxS w7 gh 57 #[.int .i64 d.cr, .int .i64 d.nx, .int .i64 d.ah, .slice (Hx.mk aS X.sn cS aq X.qn cq).sa (Hx.mk aS X.sn cS aq X.qn cq).sn (Hx.mk aS X.sn cS aq X.qn cq).sc, .slice (Hx.mk aS X.sn cS aq X.qn cq).qa (Hx.mk aS X.sn cS aq X.qn cq).qn (Hx.mk aS X.sn cS aq X.qn cq).qc, .int .i64 d.ti, .int .i64 d.pa, .int .i64 d.tr, .int .i64 d.li, .int .i64 d.si, .int .i64 d.pu, .int .i64 d.hl, .slice none 0 0] := H7
  have kS := hS gh w7 gh ⟨aS, X.sn, cS, aq, X.qn, cq⟩ rs qs (hI _ _ hI0 G7) (Nat.le_refl _) H7 hO7
  clear H3 H4 H5 H6 hs4 hs5 hs6 hq5 hq6 hs7 hq7 kCS kCQ hS
  go_wp2_with (go_at_call 20; refine kS.mono ?_; rintro e w8 ⟨P1, rs1, qs1, xa, xn, xc, us1, rfl, H8, h8, hx8, hap, f8⟩)
  have p18 := p1s.fz f8 (fun h => by omega)
  have H8d := H8.keep (grown_drew w8 none) (by simp)
  refine wp_regionL (fun wz => BxS wz gh 57 #[.int .i64 W.cr, .int .i64 W.nx, .int .i64 W.ah, .slice P1.sa P1.sn P1.sc, .slice P1.qa P1.qn P1.qc, .int .i64 W.ti, .int .i64 W.pa, .int .i64 W.tr, .int .i64 W.li, .int .i64 W.si, .int .i64 W.pu, .int .i64 W.hl, .slice xa xn xc]) [] #[false, false, false, false, false, false, false, false, false, false, false, false] rfl (by kernel_rfl) ?_
  refine wpAnyZ_take [] 0 (.pointer (some ⟨gh, 0, none⟩)) rfl (by kernel_rfl) (fun _ _ _ h => h) H8d rfl (by intro wz hz; obtain ⟨z0, z1, z2, z3, z4, z5, z6, z7, z8, z9, z10, z11, z12⟩ := BxS.cell13 hz; go_simp) ?_
  try simp only [List.getElem_toArray, List.getElem_cons_succ, List.getElem_cons_zero, Act.put, List.setIfInBounds_toArray, List.set_cons_zero, List.set_cons_succ]
  refine wpAnyZ_take [] 1 (.pointer (some ⟨gh, 0, none⟩)) rfl (by kernel_rfl) (fun _ _ _ h => h) H8d rfl (by intro wz hz; obtain ⟨z0, z1, z2, z3, z4, z5, z6, z7, z8, z9, z10, z11, z12⟩ := BxS.cell13 hz; go_simp) ?_
  try simp only [List.getElem_toArray, List.getElem_cons_succ, List.getElem_cons_zero, Act.put, List.setIfInBounds_toArray, List.set_cons_zero, List.set_cons_succ]
  refine wpAnyZ_take [] 2 (.pointer (some ⟨gh, 0, none⟩)) rfl (by kernel_rfl) (fun _ _ _ h => h) H8d rfl (by intro wz hz; obtain ⟨z0, z1, z2, z3, z4, z5, z6, z7, z8, z9, z10, z11, z12⟩ := BxS.cell13 hz; go_simp) ?_
  try simp only [List.getElem_toArray, List.getElem_cons_succ, List.getElem_cons_zero, Act.put, List.setIfInBounds_toArray, List.set_cons_zero, List.set_cons_succ]
  refine wpAnyZ_take [] 3 (.agg #[.int .i64 W.cr, .int .i64 W.nx, .int .i64 W.ah, .slice P1.sa P1.sn P1.sc, .slice P1.qa P1.qn P1.qc, .int .i64 W.ti, .int .i64 W.pa, .int .i64 W.tr, .int .i64 W.li, .int .i64 W.si, .int .i64 W.pu, .int .i64 W.hl]) rfl (by kernel_rfl) (fun _ _ _ h => h) H8d rfl (by intro wz hz; obtain ⟨z0, z1, z2, z3, z4, z5, z6, z7, z8, z9, z10, z11, z12⟩ := BxS.cell13 hz; go_simp) ?_
  try simp only [List.getElem_toArray, List.getElem_cons_succ, List.getElem_cons_zero, Act.put, List.setIfInBounds_toArray, List.set_cons_zero, List.set_cons_succ]
  refine wpAnyZ_take [] 4 (.pointer (some ⟨gh, 0, none⟩)) rfl (by kernel_rfl) (fun _ _ _ h => h) H8d rfl (by intro wz hz; obtain ⟨z0, z1, z2, z3, z4, z5, z6, z7, z8, z9, z10, z11, z12⟩ := BxS.cell13 hz; go_simp) ?_
  try simp only [List.getElem_toArray, List.getElem_cons_succ, List.getElem_cons_zero, Act.put, List.setIfInBounds_toArray, List.set_cons_zero, List.set_cons_succ]
  refine wpAnyZ_take [] 5 (.pointer (some ⟨gh, 0, none⟩)) rfl (by kernel_rfl) (fun _ _ _ h => h) H8d rfl (by intro wz hz; obtain ⟨z0, z1, z2, z3, z4, z5, z6, z7, z8, z9, z10, z11, z12⟩ := BxS.cell13 hz; go_simp) ?_
  try simp only [List.getElem_toArray, List.getElem_cons_succ, List.getElem_cons_zero, Act.put, List.setIfInBounds_toArray, List.set_cons_zero, List.set_cons_succ]
  refine wpAnyZ_take [] 6 (.pointer (some ⟨gh, 12, none⟩)) rfl (by kernel_rfl) (fun _ _ _ h => h) H8d rfl (by intro wz hz; obtain ⟨z0, z1, z2, z3, z4, z5, z6, z7, z8, z9, z10, z11, z12⟩ := BxS.cell13 hz; go_simp) ?_
  try simp only [List.getElem_toArray, List.getElem_cons_succ, List.getElem_cons_zero, Act.put, List.setIfInBounds_toArray, List.set_cons_zero, List.set_cons_succ]
  refine wpAnyZ_take [] 7 (.slice xa xn xc) rfl (by kernel_rfl) (fun _ _ _ h => h) H8d rfl (by intro wz hz; obtain ⟨z0, z1, z2, z3, z4, z5, z6, z7, z8, z9, z10, z11, z12⟩ := BxS.cell13 hz; go_simp) ?_
  try simp only [List.getElem_toArray, List.getElem_cons_succ, List.getElem_cons_zero, Act.put, List.setIfInBounds_toArray, List.set_cons_zero, List.set_cons_succ]
  refine wpAnyZ_take [] 8 (.int .i64 (Er : Int)) rfl (by kernel_rfl) (fun _ _ _ h => h) H8d rfl (by intro wz hz; obtain ⟨z0, z1, z2, z3, z4, z5, z6, z7, z8, z9, z10, z11, z12⟩ := BxS.cell13 hz; go_simp) ?_
  try simp only [List.getElem_toArray, List.getElem_cons_succ, List.getElem_cons_zero, Act.put, List.setIfInBounds_toArray, List.set_cons_zero, List.set_cons_succ]
  refine wpAnyZ_oneB 9 rfl (by kernel_rfl) (fun K hK => ?_)
  refine step_stX _ rfl 26 (.tmp 4) (.tmp 36) rfl (w.heap.size + 1) _ _ rfl rfl (p18.keep (grown_drew w8 none) (by simp)) i12 rfl (by simp [Value.oneCell']) ?_
  intro w9 b9 g9
  have H9 := H8d.keep g9 (fun e => by have e := Option.some.inj e; omega)
  refine hK _ _ (fun _ => H9) ?_
  try simp only [List.getElem_toArray, List.getElem_cons_succ, List.getElem_cons_zero, Act.put, List.setIfInBounds_toArray, List.set_cons_zero, List.set_cons_succ]
  refine wpAnyZ_take [] 10 (.slice xa xn xc) rfl (by kernel_rfl) (fun _ _ _ h => h) H9 rfl (by intro wz hz; go_simp) ?_
  try simp only [List.getElem_toArray, List.getElem_cons_succ, List.getElem_cons_zero, Act.put, List.setIfInBounds_toArray, List.set_cons_zero, List.set_cons_succ]
  refine wpAnyZ_take [] 11 (.int .i64 (Er : Int)) rfl (by kernel_rfl) (fun _ _ _ h => h) H9 rfl (by intro wz hz; go_simp) ?_
  try simp only [List.getElem_toArray, List.getElem_cons_succ, List.getElem_cons_zero, Act.put, List.setIfInBounds_toArray, List.set_cons_zero, List.set_cons_succ]
  refine wpAnyZ_doneB (by kernel_rfl) ?_ _
  go_wp2
  refine bodyPost_ret (results_cell3 rfl _ _ _ ⟨w.heap.size + 1, 0, none⟩ _ (.slice xa xn xc) (.int .i64 (Er : Int)) rfl (BxS.load (t := 26) b9 Try.underlying26 i12) rfl rfl) rfl ?_
  have h9 := (h8.keep (grown_drew w8 none)).fz (fz_of2 g9) (fun x hx e => by have := h8.lo' x hx; have e := Option.some.inj e; omega)
  have hx9 := (hx8.keep (grown_drew w8 none)).fz (fz_of2 g9) (fun x hx e => by have := hx8.lo' x hx; have e := Option.some.inj e; omega)
  have G8 : w.grownBy w8 none := Fz.grown G7 f8 (fun i h => by omega)
  refine ⟨P1, rs1, qs1, xa, xn, xc, us1, rfl, ⟨h9.s.wide (by omega), h9.q.wide (by omega), h9.ap⟩, hx9.wide (by omega), hap, grown_far (grown_trans G8 (grown_drew w8 none)) g9 (fun q e => by have e := Option.some.inj e; omega)⟩

theorem apart_step_all (gs gh : Nat) (z : Int) (b : Bool) (d : Hd) (X : Hx) (w : World) (hv : VrS gs gh z b w) (h : RdHd w X d) :
    Calls Try.prog 16 #[.agg #[.int .i64 d.cr, .int .i64 d.nx, .int .i64 d.ah, .slice X.sa X.sn X.sc, .slice X.qa X.qn X.qc, .int .i64 d.ti, .int .i64 d.pa, .int .i64 d.tr, .int .i64 d.li, .int .i64 d.si, .int .i64 d.pu, .int .i64 d.hl], .func (.func 20) #[] #[.pointer (some ⟨gs, 0, none⟩), .pointer (some ⟨gh, 0, none⟩)]] w fun e w' => ∃ (P1 : Hx) (rs1 qs1 : List Rw) (xa : Option Addr) (xn xc : Nat) (us1 : List Rw), e = .returned (.tuple #[.agg #[.int .i64 (spV d z b).cr, .int .i64 (spV d z b).nx, .int .i64 (spV d z b).ah, .slice P1.sa P1.sn P1.sc, .slice P1.qa P1.qn P1.qc, .int .i64 (spV d z b).ti, .int .i64 (spV d z b).pa, .int .i64 (spV d z b).tr, .int .i64 (spV d z b).li, .int .i64 (spV d z b).si, .int .i64 (spV d z b).pu, .int .i64 (spV d z b).hl], .slice xa xn xc, .int .i64 (spE d : Int)]) ∧ OwHd w' w.heap.size P1 rs1 qs1 (spV d z b) ∧ OwW w' w.heap.size xa xn xc us1 (spR d z b) ∧ (∀ x, Ofr (.slice xa xn xc) us1 x → ¬ Hbl P1 rs1 qs1 x) ∧ w.grownBy w' none := by
  cases hB : hndB d with
  | false =>
    obtain ⟨F, hF1, hF2⟩ := h.s.ex
    obtain ⟨K, hK1, hK2⟩ := h.q.ex
    have hq := hnd_of hF1 hF2 hK1 hK2 h.s.len h.q.len
    rw [hB] at hq
    have e1 : spV d z b = hd0 := if_neg (by rw [hB]; simp)
    have e2 : spE d = 11 := if_neg (by rw [hB]; simp)
    have e3 : spR d z b = [] := if_neg (by rw [hB]; simp)
    rw [e1, e2, e3]
    refine (apart_bad _ d.cr d.nx d.ah X.sa X.sn X.sc F X.qa X.qn X.qc K d.ti d.pa d.tr d.li d.si d.pu d.hl w hF1 hK1 hq).mono ?_
    rintro e w' ⟨rfl, hg⟩
    exact ⟨hx0, [], [], none, 0, 0, [], rfl, owHd_nil _ _, OwW.nil _ _, (fun x hx => absurd hx (ofr_nil x)), hg⟩
  | true =>
    have e1 : spV d z b = tsV d z b := if_pos hB
    have e2 : spE d = 0 := if_pos hB
    have e3 : spR d z b = tsR d z b := if_pos hB
    rw [e1, e2, e3]
    exact apart_step gs gh d (tsV d z b) (tsR d z b) 0 X w (VrS gs gh z b) (fun x y hx hg => hx.keep x y hg) hv hB h (fun lo wz g Z rs qs hi hlo hb hO => step1_any gs gh z b d lo wz g Z rs qs hi hlo hb hO hB)
set_option maxHeartbeats 32000000 in
theorem step2_any (X : Hx) (d : Hd) (z : Int) (b : Bool) (w : World) (h : RdHd w X d) :
    Calls Try.prog 10 #[.agg #[.int .i64 d.cr, .int .i64 d.nx, .int .i64 d.ah, .slice X.sa X.sn X.sc, .slice X.qa X.qn X.qc, .int .i64 d.ti, .int .i64 d.pa, .int .i64 d.tr, .int .i64 d.li, .int .i64 d.si, .int .i64 d.pu, .int .i64 d.hl], .int .i64 z, .bool b] w fun e w' => ∃ (P1 : Hx) (rs1 qs1 : List Rw) (xa : Option Addr) (xn xc : Nat) (us1 : List Rw), e = .returned (.tuple #[.agg #[.int .i64 (spV d z b).cr, .int .i64 (spV d z b).nx, .int .i64 (spV d z b).ah, .slice P1.sa P1.sn P1.sc, .slice P1.qa P1.qn P1.qc, .int .i64 (spV d z b).ti, .int .i64 (spV d z b).pa, .int .i64 (spV d z b).tr, .int .i64 (spV d z b).li, .int .i64 (spV d z b).si, .int .i64 (spV d z b).pu, .int .i64 (spV d z b).hl], .slice xa xn xc, .int .i64 (spE d : Int)]) ∧ OwHd w' w.heap.size P1 rs1 qs1 (spV d z b) ∧ OwW w' w.heap.size xa xn xc us1 (spR d z b) ∧ (∀ x, Ofr (.slice xa xn xc) us1 x → ¬ Hbl P1 rs1 qs1 x) ∧ w.grownBy w' none := by
  have b0 := BxS.new w 26 #[.int .i64 d.cr, .int .i64 d.nx, .int .i64 d.ah, .slice X.sa X.sn X.sc, .slice X.qa X.qn X.qc, .int .i64 d.ti, .int .i64 d.pa, .int .i64 d.tr, .int .i64 d.li, .int .i64 d.si, .int .i64 d.pu, .int .i64 d.hl]
  have g0 := World.grownBy_alloc w (.cells #[.int .i64 d.cr, .int .i64 d.nx, .int .i64 d.ah, .slice X.sa X.sn X.sc, .slice X.qa X.qn X.qc, .int .i64 d.ti, .int .i64 d.pa, .int .i64 d.tr, .int .i64 d.li, .int .i64 d.si, .int .i64 d.pu, .int .i64 d.hl] 26) none
  generalize hw0 : w.alloc (.cells #[.int .i64 d.cr, .int .i64 d.nx, .int .i64 d.ah, .slice X.sa X.sn X.sc, .slice X.qa X.qn X.qc, .int .i64 d.ti, .int .i64 d.pa, .int .i64 d.tr, .int .i64 d.li, .int .i64 d.si, .int .i64 d.pu, .int .i64 d.hl] 26) = w0 at b0 g0
  have hz0 : w0.heap.size = w.heap.size + 1 := by rw [← hw0]; simp
  have b1 := BxS.new w0 3 #[.int .i64 z]
  have g1 := World.grownBy_alloc w0 (.cells #[.int .i64 z] 3) none
  generalize hw1 : w0.alloc (.cells #[.int .i64 z] 3) = w1 at b1 g1
  have hz1 : w1.heap.size = w.heap.size + 1 + 1 := by rw [← hw1]; simp [hz0]
  rw [hz0] at b1
  have b2 := BxS.new w1 4 #[.bool b]
  have g2 := World.grownBy_alloc w1 (.cells #[.bool b] 4) none
  generalize hw2 : w1.alloc (.cells #[.bool b] 4) = w2 at b2 g2
  have hz2 : w2.heap.size = w.heap.size + 1 + 1 + 1 := by rw [← hw2]; simp [hz1]
  rw [hz1] at b2
  have b3 := BxS.new w2 26 #[.int .i64 0, .int .i64 0, .int .i64 0, .slice none 0 0, .slice none 0 0, .int .i64 0, .int .i64 0, .int .i64 0, .int .i64 0, .int .i64 0, .int .i64 0, .int .i64 0]
  have g3 := World.grownBy_alloc w2 (.cells #[.int .i64 0, .int .i64 0, .int .i64 0, .slice none 0 0, .slice none 0 0, .int .i64 0, .int .i64 0, .int .i64 0, .int .i64 0, .int .i64 0, .int .i64 0, .int .i64 0] 26) none
  generalize hw3 : w2.alloc (.cells #[.int .i64 0, .int .i64 0, .int .i64 0, .slice none 0 0, .slice none 0 0, .int .i64 0, .int .i64 0, .int .i64 0, .int .i64 0, .int .i64 0, .int .i64 0, .int .i64 0] 26) = w3 at b3 g3
  rw [hz2] at b3
  have sz3 : w.heap.size + 4 ≤ w3.heap.size := by rw [← hw3]; simp [hz2]
  have p0 := ((b0.keep g1 (by simp)).keep g2 (by simp)).keep g3 (by simp)
  have p1 := (b1.keep g2 (by simp)).keep g3 (by simp)
  have p2 := b2.keep g3 (by simp)
  have G3 := grown_trans (grown_trans (grown_trans g0 g1) g2) g3
  have kA := apart_step_all (w.heap.size + 1) (w.heap.size + 1 + 1) z b d X w3 ⟨p1, p2⟩ (h.keep G3)
  generalize spV d z b = W at *
  generalize spE d = Er at *
  generalize spR d z b = R at *
  have i12 := Try.info_hn3
  obtain ⟨c0, c1, c2, c3, c4, c5, c6, c7, c8, c9, c10, c11⟩ := p0.cell12
  have s0 : True := trivial
  go_enter Try.func10, Try.ntmps10
  go_wp2_with (first
    | (go_at_call 16; have _t := s0; clear s0; refine kA.mono ?_; rintro e w4 ⟨P1, rs1, qs1, xa, xn, xc, us1, rfl, h4, hx4, hap, y4⟩; have p3 := b3.keep y4 (by simp); clear c0 c1 c2 c3 c4 c5 c6 c7 c8 c9 c10 c11; have s1 : True := trivial)
    | (have _t := s1; clear s1; refine wpList_stX _ rfl _ (.tmp 6) (.tmp 12) rfl (w.heap.size + 1 + 1 + 1) _ _ rfl rfl p3 i12 rfl (by simp [Value.oneCell']) ?_; intro w9 b9 g9))
  refine bodyPost_ret (results_cell3 rfl _ _ _ ⟨w.heap.size + 1 + 1 + 1, 0, none⟩ _ (.slice xa xn xc) (.int .i64 (Er : Int)) rfl (BxS.load (t := 26) b9 Try.underlying26 i12) rfl rfl) rfl ?_
  have h9 := h4.fz (fz_of2 g9) (fun x hx e => by have := h4.lo' x hx; have e := Option.some.inj e; omega)
  have hx9 := hx4.fz (fz_of2 g9) (fun x hx e => by have := hx4.lo' x hx; have e := Option.some.inj e; omega)
  exact ⟨P1, rs1, qs1, xa, xn, xc, us1, rfl, ⟨h9.s.wide (by omega), h9.q.wide (by omega), h9.ap⟩, hx9.wide (by omega), hap, grown_far (grown_trans G3 y4) g9 (fun q e => by have e := Option.some.inj e; omega)⟩
end
end Go.Proofs.Ytlfacjpehhcdiaa
