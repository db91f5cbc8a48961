import Derived.Test.YtnnoeeakkpaocaaKAt
import Derived.Test.YtnnoeeakkpaocaaKAu
namespace Go.Proofs.Ytnnoeeakkpaocaa
open Go.RowKit
set_option maxRecDepth 100000
set_option linter.unusedVariables false
set_option linter.unusedSimpArgs false
theorem wpAnyZ_twoB {P : Program} {ops : Array Oper} {Q : Exit → Act → World → Prop} {md : Region.Mode} {S : World → Prop} {Z : List Nat} (i j : Nat) {o o' : Oper} {fuel : Nat} {listed : Array Bool} {a : Act} {w : World} (ho : ops[i]? = some o) (ho' : ops[j]? = some o') (hr : (Region.ready md ops listed == [i, j]) = true)
    (h : ∀ K' : Act → World → Prop, (∀ a w, (i ∉ Z → S w) → wpAnyZ P md ops Q S Z fuel (listed.setIfInBounds i true) a w → K' a w) → if Region.wanted o (yielded ops a.tmps) = true then Oper.wp P o a w K' Q else K' (a.put o.dst undef) w)
    (h' : ∀ K' : Act → World → Prop, (∀ a w, (j ∉ Z → S w) → wpAnyZ P md ops Q S Z fuel (listed.setIfInBounds j true) a w → K' a w) → if Region.wanted o' (yielded ops a.tmps) = true then Oper.wp P o' a w K' Q else K' (a.put o'.dst undef) w) :
    wpAnyZ P md ops Q S Z (fuel + 1) listed a w := by
  have hr := eq_of_beq hr
  refine ⟨fun h0 => (by rw [hr] at h0; cases h0), fun k hk => ?_⟩
  rw [hr] at hk
  rcases List.mem_cons.1 hk with e | hk
  · subst e
    exact wpOp_step ho (fun K' hK => h K' (fun a w hS hW => hK a w ⟨hS, hW⟩))
  · have e := List.mem_singleton.1 hk
    subst e
    exact wpOp_step ho' (fun K' hK => h' K' (fun a w hS hW => hK a w ⟨hS, hW⟩))
theorem RdW.past {w w1 w2 : World} {g : Nat} {a : Option Addr} {n c : Nat} {R : List (List Nat)} (h : RdW w a n c R) (k1 : w.grownBy w1 none) (k2 : w1.grownBy w2 (some g)) (hg : w.heap.size ≤ g) : RdW w2 a n c R := by
  obtain ⟨F, h1, h2⟩ := h.ex
  refine ⟨h.len, F, ⟨h1.le, h1.max, fun h0 => ?_, fun i hi => ?_⟩, h2⟩
  · obtain ⟨b, off, e, hb, hc⟩ := h1.at' h0
    obtain ⟨b', off', e', hb', hc'⟩ := (h1.keep k1).at' h0
    rw [e] at e'
    cases e'
    exact ⟨b, off, e, Nat.lt_of_lt_of_le hb' k2.size, fun i hi => cell_grown (hc' i hi) k2 hb' (fun e2 => by have e2 := Option.some.inj e2; omega)⟩
  · exact ((h1.data i hi).keep k1).grown' k2 ((h1.data i hi).ne hg)
theorem RdHd.past {w w1 w2 : World} {g : Nat} {X : Hx} {d : Hd} (h : RdHd w X d) (k1 : w.grownBy w1 none) (k2 : w1.grownBy w2 (some g)) (hg : w.heap.size ≤ g) : RdHd w2 X d := ⟨h.s.past k1 k2 hg, h.q.past k1 k2 hg⟩
theorem as_fit (d : Hd) (D : List Nat) : (Fit 140737488351232 (asV d D).S ∧ (asV d D).S.length * 24 ≤ 140737488351232) ∧ (Fit 140737488351232 (asV d D).Q ∧ (asV d D).Q.length * 24 ≤ 140737488351232) := by
  cases hB : hndB d with
  | false =>
    have e1 : asV d D = hd0 := if_neg (by rw [hB]; simp)
    rw [e1]
    exact ⟨⟨(fun r h => by cases h), by decide⟩, ⟨(fun r h => by cases h), by decide⟩⟩
  | true =>
    obtain ⟨_, n1, n2, f1, f2, _, _⟩ := hnd_ok hB
    have e1 : asV d D = axV d D := if_pos hB
    rw [e1]
    unfold axV
    split
    · rename_i hO
      unfold axO at hO
      have hk := kwB_ok (Bool.and_eq_true_iff.1 hO).1
      show (Fit _ d.S ∧ d.S.length * 24 ≤ 140737488351232) ∧ (Fit _ (d.Q ++ [D]) ∧ (d.Q ++ [D]).length * 24 ≤ 140737488351232)
      refine ⟨⟨(fun r h => by have := f1 r h; omega), by omega⟩, ⟨fun r h => ?_, by simp; omega⟩⟩
      rcases List.mem_append.1 h with h | h
      · have := f2 r h; omega
      · have h := List.mem_singleton.1 h
        subst h
        omega
    · exact ⟨⟨(fun r h => by have := f1 r h; omega), by omega⟩, ⟨(fun r h => by have := f2 r h; omega), by omega⟩⟩
set_option maxHeartbeats 64000000 in
theorem asks_walk (X : Hx) (d : Hd) (a : Option Addr) (n c : Nat) (D : List Nat) (w : World) (h : RdHd w X d) (hR : Rd w a n c D) (fd : (Fit 140737488351232 d.S ∧ X.sn * 24 ≤ 140737488351232) ∧ (Fit 140737488351232 d.Q ∧ X.qn * 24 ≤ 140737488351232)) (hn : n ≤ 140737488351232) :
    Calls Try.prog 8 #[.agg #[.int .i64 d.cr, .int .i64 d.nx, .int .i64 d.ah, .slice X.sa X.sn X.sc, .slice X.qa X.qn X.qc, .int .i64 d.ti, .int .i64 d.pa, .int .i64 d.tr, .int .i64 d.li, .int .i64 d.si, .int .i64 d.pu, .int .i64 d.hl], .slice a n c] w fun e w' => e = .returned (.bool true) ∧ Below w.heap.size w w' := by
  have b0 := BxS.new w 50 #[.int .i64 d.cr, .int .i64 d.nx, .int .i64 d.ah, .slice X.sa X.sn X.sc, .slice X.qa X.qn X.qc, .int .i64 d.ti, .int .i64 d.pa, .int .i64 d.tr, .int .i64 d.li, .int .i64 d.si, .int .i64 d.pu, .int .i64 d.hl]
  have g0 := World.grownBy_alloc w (.cells #[.int .i64 d.cr, .int .i64 d.nx, .int .i64 d.ah, .slice X.sa X.sn X.sc, .slice X.qa X.qn X.qc, .int .i64 d.ti, .int .i64 d.pa, .int .i64 d.tr, .int .i64 d.li, .int .i64 d.si, .int .i64 d.pu, .int .i64 d.hl] 50) none
  generalize hw0 : w.alloc (.cells #[.int .i64 d.cr, .int .i64 d.nx, .int .i64 d.ah, .slice X.sa X.sn X.sc, .slice X.qa X.qn X.qc, .int .i64 d.ti, .int .i64 d.pa, .int .i64 d.tr, .int .i64 d.li, .int .i64 d.si, .int .i64 d.pu, .int .i64 d.hl] 50) = w0 at b0 g0
  have hz0 : w0.heap.size = w.heap.size + 1 := by rw [← hw0]; simp
  have hF := rask_any X d a n c D w0 (h.keep g0) (hR.keep g0)
  have hC := fun gd da dn dc wz (Z : Hx) (hv : VrB gd da dn dc D wz) (hz : RdHd wz Z d) => asks1_any gd da dn dc D d Z wz hv hz
  have kA0 := fun gr Y wz (hz : RdHd wz Y d) (hr : Rd wz (some ⟨gr, 0, none⟩) n (n + 5) D) => ask2_any Y d (some ⟨gr, 0, none⟩) n (n + 5) D wz hz hr
  have fW := as_fit d D
  have l1 := h.s.len
  have l2 := h.q.len
  have kH := fun wz (hz : RdHd wz X d) => handOf2_any X d wz hz fd.1.1 fd.1.2 fd.2.1 fd.2.2
  generalize asV d D = W at *
  generalize asE d D = Er at *
  have kS := fun X Y wz (h : RdHd wz X W) (k : RdHd wz Y W) => sameHand2_any X Y W wz h k
  have hA := fun gd da dn dc Y wz hv hd hw hr => handAs_ask gd d W [] Er X Y none 0 0 wz (VrB gd da dn dc D) (fun x y hx hg => hx.keep x y hg) hv (fun wz Z hv hz => hC gd da dn dc wz Z hv hz) hd hw hr ⟨⟨fd.1.1, by omega⟩, ⟨fd.2.1, by omega⟩⟩ fW ⟨(fun r h => by cases h), by decide⟩
  clear hC
  unfold hnV at hF kH kS
  have i12 := Try.info_hn3
  obtain ⟨c0, c1, c2, c3, c4, c5, c6, c7, c8, c9, c10, c11⟩ := b0.cell12
  go_enter Try.func8, Try.ntmps8
  go_upto_region 1 with fail
  go_cut [5, 6] from 11 to 16 (fun s5 s6 wy => ∃ (P1 : Hx) (g5 : Nat), s5 = .pointer (some ⟨g5, 0, none⟩) ∧ s6 = .int .i64 (Er : Int) ∧ BxS wy g5 50 #[.int .i64 W.cr, .int .i64 W.nx, .int .i64 W.ah, .slice P1.sa P1.sn P1.sc, .slice P1.qa P1.qn P1.qc, .int .i64 W.ti, .int .i64 W.pa, .int .i64 W.tr, .int .i64 W.li, .int .i64 W.si, .int .i64 W.pu, .int .i64 W.hl] ∧ RdHd wy P1 W ∧ w0.grownBy wy none)
  case first =>
    go_wp2_with (go_at_call 33; refine hF.mono ?_; rintro e w2 ⟨P1, rfl, hW2, y2⟩)
    have yA := World.grownBy_alloc w2 (.cells #[.int .i64 W.cr, .int .i64 W.nx, .int .i64 W.ah, .slice P1.sa P1.sn P1.sc, .slice P1.qa P1.qn P1.qc, .int .i64 W.ti, .int .i64 W.pa, .int .i64 W.tr, .int .i64 W.li, .int .i64 W.si, .int .i64 W.pu, .int .i64 W.hl] 50) none
    go_meet
    exact ⟨P1, _, rfl, rfl, BxS.new w2 50 #[.int .i64 W.cr, .int .i64 W.nx, .int .i64 W.ah, .slice P1.sa P1.sn P1.sc, .slice P1.qa P1.qn P1.qc, .int .i64 W.ti, .int .i64 W.pa, .int .i64 W.tr, .int .i64 W.li, .int .i64 W.si, .int .i64 W.pu, .int .i64 W.hl], hW2.keep yA, grown_trans y2 yA⟩
  case rest =>
  obtain ⟨P1, g5, e5, e6, b5, hW2, ya⟩ := hcut
  subst e5
  subst e6
  generalize wc = wa at *
  apply_assumption
  have Ga := grown_trans g0 ya
  go_upto_region 2 with fail
  go_cut [7] from 17 to 18 (fun s7 wy => ∃ (g7 gr : Nat) (Dr : List Nat), s7 = .pointer (some ⟨g7, 0, none⟩) ∧ BxS wy g7 22 #[.slice (some ⟨gr, 0, none⟩) n (n + 5)] ∧ Roomy wy gr n D Dr ∧ wa.grownBy wy none ∧ wa.heap.size ≤ gr ∧ gr < g7)
  case first =>
    go_wp2_with (go_at_call 13; refine (roomy_any a n c D _ (hR.keep Ga) hn).mono ?_; rintro e w3 ⟨rfl, ⟨Dr, rm⟩, y3⟩)
    have yA := World.grownBy_alloc w3 (.cells #[.slice (some ⟨wa.heap.size, 0, none⟩) n (n + 5)] 22) none
    have hl : wa.heap.size < w3.heap.size := (Array.getElem?_eq_some_iff.1 rm.blk).1
    go_meet
    exact ⟨_, wa.heap.size, Dr, rfl, BxS.new w3 22 #[.slice (some ⟨wa.heap.size, 0, none⟩) n (n + 5)], rm.grown yA (by simp), grown_trans y3 yA, Nat.le_refl _, hl⟩
  case rest =>
  obtain ⟨g7, gr, Dr, e7, b7, rm, yb, hgr, hg7⟩ := hcut
  subst e7
  generalize wc = wb at *
  apply_assumption
  have kA := kA0 gr
  clear kA0 hF
  have hRr : Rd wb (some ⟨gr, 0, none⟩) n (n + 5) D := rm.rd hR.byte hR.len hn
  have Yb := grown_trans ya yb
  have Gb := grown_trans g0 Yb
  clear c0 c1 c2 c3 c4 c5 c6 c7 c8 c9 c10 c11
  obtain ⟨c0, c1, c2, c3, c4, c5, c6, c7, c8, c9, c10, c11⟩ := (b0.keep Yb (by simp)).cell12
  obtain ⟨e0, e1, e2, e3, e4, e5, e6, e7, e8, e9, e10, e11⟩ := (b5.keep yb (by simp)).cell12
  have s1 : True := trivial
  go_wp2_with (first
    | (go_at_call 36; have _t := s1; clear s1; refine (hA g7 (some ⟨gr, 0, none⟩) n (n + 5) P1 _ ⟨b7, hRr⟩ (h.keep Gb) (hW2.keep yb) (RdW.nil _)).mono ?_; rintro e w4 ⟨rfl, y4⟩; clear c0 c1 c2 c3 c4 c5 c6 c7 c8 c9 c10 c11 e0 e1 e2 e3 e4 e5 e6 e7 e8 e9 e10 e11; have x7 : w4.cell? ⟨g7, 0, none⟩ = some (.slice (some ⟨gr, 0, none⟩) n (n + 5)) := (b7.keep y4 (by simp)).cell 0 (by show 0 < 1; decide); have s2 : True := trivial)
    | (go_at_call 17; have _t := s2; clear s2; refine (left_any gr a n c D Dr _ (rm.grown y4 (by simp)) (hR.keep (grown_trans Gb y4)) hn).mono ?_; rintro e wB ⟨rfl, yl⟩; clear x7))
  have yB := grown_trans y4 yl
  have YB := grown_trans yb yB
  have GB := grown_trans Gb yB
  have b2B := b0.keep (grown_trans Yb yB) (by simp)
  have b5B := b5.keep YB (by simp)
  have b7B := b7.keep yB (by simp)
  have v7B : VrB g7 (some ⟨gr, 0, none⟩) n (n + 5) D wB := ⟨b7B, hRr.keep yB⟩
  have rmB := rm.grown yB (by simp)
  have hdB := h.keep GB
  have hRB := hRr.keep yB
  have szB := GB.size
  have szb : g7 < wB.heap.size := b7B.lt
  have sza := ya.size
  have sz5 : g5 < wa.heap.size := b5.lt
  clear hA
  have SS := grown_drew wB none
  refine wp_regionL (fun wz => wB.grownBy wz none) [] #[false, false, false, false, false, false, false, false, false, false] rfl (by kernel_rfl) ?_
  refine wpAnyZ_take [] 0 (.agg #[.int .i64 d.cr, .int .i64 d.nx, .int .i64 d.ah, .slice X.sa X.sn X.sc, .slice X.qa X.qn X.qc, .int .i64 d.ti, .int .i64 d.pa, .int .i64 d.tr, .int .i64 d.li, .int .i64 d.si, .int .i64 d.pu, .int .i64 d.hl]) rfl (by kernel_rfl) (fun _ _ _ h => h) SS rfl (by intro wz hz; obtain ⟨z0, z1, z2, z3, z4, z5, z6, z7, z8, z9, z10, z11⟩ := BxS.cell12 (b2B.keep hz (by simp)); go_simp) ?_
  try simp only [List.getElem_toArray, List.getElem_cons_succ, List.getElem_cons_zero, Act.put, List.setIfInBounds_toArray, List.set_cons_zero, List.set_cons_succ]
  refine wpAnyZ_take [] 2 (.slice (some ⟨gr, 0, none⟩) n (n + 5)) rfl (by kernel_rfl) (fun _ _ _ h => h) SS rfl (by intro wz hz; have z0 : wz.cell? ⟨g7, 0, none⟩ = some (.slice (some ⟨gr, 0, none⟩) n (n + 5)) := (v7B.keep _ _ hz).1.cell 0 (by show 0 < 1; decide); go_simp) ?_
  try simp only [List.getElem_toArray, List.getElem_cons_succ, List.getElem_cons_zero, Act.put, List.setIfInBounds_toArray, List.set_cons_zero, List.set_cons_succ]
  generalize wB.drew = x0 at *
  refine wpAnyZ_twoB 1 7 rfl rfl (by kernel_rfl) (fun K hK => ?_) (fun K hK => ?_)
  · go_simp
    go_at_call 37
    refine (kH _ (hdB.keep SS)).mono ?_
    rintro e x1 ⟨Y, rs, qs, rfl, hO, gX⟩
    dsimp only
    have SS := grown_trans SS gX
    refine hK _ _ (fun _ => SS) ?_
    try simp only [List.getElem_toArray, List.getElem_cons_succ, List.getElem_cons_zero, Act.put, List.setIfInBounds_toArray, List.set_cons_zero, List.set_cons_succ]
    clear gX
    refine wpAnyZ_twoB 3 7 rfl rfl (by kernel_rfl) (fun K hK => ?_) (fun K hK => ?_)
    · go_simp
      go_at_call 35
      refine (kA Y _ hO.rd (hRB.keep SS)).mono ?_
      rintro e x2 ⟨P, rs1, qs1, rfl, hP0, gX⟩
      dsimp only
      have szs := SS.size
      have hP : OwHd _ wB.heap.size P rs1 qs1 W := ⟨hP0.s.wide szs, hP0.q.wide szs, hP0.ap⟩
      clear hP0 szs
      have SS := grown_trans SS gX
      refine hK _ _ (fun _ => SS) ?_
      try simp only [List.getElem_toArray, List.getElem_cons_succ, List.getElem_cons_zero, Act.put, List.setIfInBounds_toArray, List.set_cons_zero, List.set_cons_succ]
      clear gX
      refine wpAnyZ_take [] 4 (.tuple #[.agg #[.int .i64 W.cr, .int .i64 W.nx, .int .i64 W.ah, .slice P.sa P.sn P.sc, .slice P.qa P.qn P.qc, .int .i64 W.ti, .int .i64 W.pa, .int .i64 W.tr, .int .i64 W.li, .int .i64 W.si, .int .i64 W.pu, .int .i64 W.hl], .int .i64 (Er : Int)]) rfl (by kernel_rfl) (fun _ _ _ h => h) SS rfl (by intro wz hz; go_simp) ?_
      try simp only [List.getElem_toArray, List.getElem_cons_succ, List.getElem_cons_zero, Act.put, List.setIfInBounds_toArray, List.set_cons_zero, List.set_cons_succ]
      refine wpAnyZ_take [] 5 (.agg #[.int .i64 W.cr, .int .i64 W.nx, .int .i64 W.ah, .slice P.sa P.sn P.sc, .slice P.qa P.qn P.qc, .int .i64 W.ti, .int .i64 W.pa, .int .i64 W.tr, .int .i64 W.li, .int .i64 W.si, .int .i64 W.pu, .int .i64 W.hl]) rfl (by kernel_rfl) (fun _ _ _ h => h) SS rfl (by intro wz hz; go_simp) ?_
      try simp only [List.getElem_toArray, List.getElem_cons_succ, List.getElem_cons_zero, Act.put, List.setIfInBounds_toArray, List.set_cons_zero, List.set_cons_succ]
      refine wpAnyZ_take [] 6 (.int .i64 (Er : Int)) rfl (by kernel_rfl) (fun _ _ _ h => h) SS rfl (by intro wz hz; go_simp) ?_
      try simp only [List.getElem_toArray, List.getElem_cons_succ, List.getElem_cons_zero, Act.put, List.setIfInBounds_toArray, List.set_cons_zero, List.set_cons_succ]
      refine wpAnyZ_oneB 7 rfl (by kernel_rfl) (fun K hK => ?_)
      go_simp
      have gX := World.grownBy_alloc x2 (.cells #[.int .i64 0, .int .i64 0, .int .i64 0, .slice none 0 0, .slice none 0 0, .int .i64 0, .int .i64 0, .int .i64 0, .int .i64 0, .int .i64 0, .int .i64 0, .int .i64 0] 50) none
      have p9 := BxS.new x2 50 #[.int .i64 0, .int .i64 0, .int .i64 0, .slice none 0 0, .slice none 0 0, .int .i64 0, .int .i64 0, .int .i64 0, .int .i64 0, .int .i64 0, .int .i64 0, .int .i64 0]
      have n9 : wB.heap.size ≤ x2.heap.size := SS.size
      have hP := hP.keep gX
      have SS := grown_trans SS gX
      refine hK _ _ (fun _ => SS) ?_
      try simp only [List.getElem_toArray, List.getElem_cons_succ, List.getElem_cons_zero, Act.put, List.setIfInBounds_toArray, List.set_cons_zero, List.set_cons_succ]
      generalize hz3 : x2.alloc (.cells #[.int .i64 0, .int .i64 0, .int .i64 0, .slice none 0 0, .slice none 0 0, .int .i64 0, .int .i64 0, .int .i64 0, .int .i64 0, .int .i64 0, .int .i64 0, .int .i64 0] 50) = x3 at *
      clear hz3 gX
      refine wpAnyZ_oneB 8 rfl (by kernel_rfl) (fun K hK => ?_)
      refine step_stX _ rfl 50 (.tmp 9) (.tmp 37) rfl x2.heap.size _ _ rfl rfl p9 i12 rfl (by simp [Value.oneCell']) ?_
      intro y8 b9 u8
      have hP := hP.fz (fz_of2 u8) (fun x hx e => by have e := Option.some.inj e; subst e; rcases hx with hx | hx; exact box_ofr hP.s p9 hx; exact box_ofr hP.q p9 hx)
      have SS := grown_far SS u8 (fun q e => by have e := Option.some.inj e; omega)
      refine hK _ _ (fun _ => SS) ?_
      try simp only [List.getElem_toArray, List.getElem_cons_succ, List.getElem_cons_zero, Act.put, List.setIfInBounds_toArray, List.set_cons_zero, List.set_cons_succ]
      refine wpAnyZ_take [] 9 (.int .i64 (Er : Int)) rfl (by kernel_rfl) (fun _ _ _ h => h) SS rfl (by intro wz hz; go_simp) ?_
      try simp only [List.getElem_toArray, List.getElem_cons_succ, List.getElem_cons_zero, Act.put, List.setIfInBounds_toArray, List.set_cons_zero, List.set_cons_succ]
      refine wpAnyZ_doneB (by kernel_rfl) ?_ _
      have b5e := b5B.keep SS (by simp)
      have v7e := v7B.keep _ _ SS
      have rmE := rmB.grown SS (by simp)
      have x7 : y8.cell? ⟨g7, 0, none⟩ = some (.slice (some ⟨gr, 0, none⟩) n (n + 5)) := v7e.1.cell 0 (by show 0 < 1; decide)
      have hAr : Ans y8 0 (some ⟨gr, 0, none⟩) n (n + 5) D := rmE.ans hR.byte hR.len hn (Nat.zero_le _)
      have s9 : True := trivial
      go_wp2_with (first
    | (go_at_call 21; have _t := s9; clear s9; refine (spoil_any hAr (by omega)).mono ?_; rintro e y9 ⟨rfl, u9⟩; have u9 : y8.grownBy y9 (some gr) := u9; have b9 := b9.keep u9 (fun e => by have e := Option.some.inj e; omega); have b5f := b5e.keep u9 (fun e => by have e := Option.some.inj e; omega); obtain ⟨c0, c1, c2, c3, c4, c5, c6, c7, c8, c9, c10, c11⟩ := b9.cell12; obtain ⟨e0, e1, e2, e3, e4, e5, e6, e7, e8, e9, e10, e11⟩ := b5f.cell12; have hP9 := hP.fz (fz_of2 u9) (fun x hx e => by have := hP.lo' x hx; have e := Option.some.inj e; omega); have hW9 := hW2.past (grown_trans YB SS) u9 hgr; have s10 : True := trivial)
    | (go_at_call 32; have _t := s10; clear s10; refine (kS P P1 _ hP9.rd hW9).mono ?_; rintro e y10 ⟨rfl, u10⟩))
      go_ret
      exact ⟨rfl, (Below.refl _ _).grown (grown_trans (grown_far (grown_trans GB SS) u9 (fun q e => by have e := Option.some.inj e; omega)) u10) (Nat.le_refl _) (fun k hk => by cases hk)⟩
    · go_simp
      have gX := World.grownBy_alloc x1 (.cells #[.int .i64 0, .int .i64 0, .int .i64 0, .slice none 0 0, .slice none 0 0, .int .i64 0, .int .i64 0, .int .i64 0, .int .i64 0, .int .i64 0, .int .i64 0, .int .i64 0] 50) none
      have p9 := BxS.new x1 50 #[.int .i64 0, .int .i64 0, .int .i64 0, .slice none 0 0, .slice none 0 0, .int .i64 0, .int .i64 0, .int .i64 0, .int .i64 0, .int .i64 0, .int .i64 0, .int .i64 0]
      have n9 : wB.heap.size ≤ x1.heap.size := SS.size
      have hO := hO.keep gX
      have SS := grown_trans SS gX
      refine hK _ _ (fun _ => SS) ?_
      try simp only [List.getElem_toArray, List.getElem_cons_succ, List.getElem_cons_zero, Act.put, List.setIfInBounds_toArray, List.set_cons_zero, List.set_cons_succ]
      generalize hz2 : x1.alloc (.cells #[.int .i64 0, .int .i64 0, .int .i64 0, .slice none 0 0, .slice none 0 0, .int .i64 0, .int .i64 0, .int .i64 0, .int .i64 0, .int .i64 0, .int .i64 0, .int .i64 0] 50) = x2 at *
      clear hz2 gX
      refine wpAnyZ_oneB 3 rfl (by kernel_rfl) (fun K hK => ?_)
      go_simp
      go_at_call 35
      refine (kA Y _ hO.rd (hRB.keep SS)).mono ?_
      rintro e x3 ⟨P, rs1, qs1, rfl, hP0, gX⟩
      dsimp only
      have szs := SS.size
      have hP : OwHd _ wB.heap.size P rs1 qs1 W := ⟨hP0.s.wide szs, hP0.q.wide szs, hP0.ap⟩
      clear hP0 szs
      have p9 := p9.keep gX (by simp)
      have SS := grown_trans SS gX
      refine hK _ _ (fun _ => SS) ?_
      try simp only [List.getElem_toArray, List.getElem_cons_succ, List.getElem_cons_zero, Act.put, List.setIfInBounds_toArray, List.set_cons_zero, List.set_cons_succ]
      clear gX
      refine wpAnyZ_take [] 4 (.tuple #[.agg #[.int .i64 W.cr, .int .i64 W.nx, .int .i64 W.ah, .slice P.sa P.sn P.sc, .slice P.qa P.qn P.qc, .int .i64 W.ti, .int .i64 W.pa, .int .i64 W.tr, .int .i64 W.li, .int .i64 W.si, .int .i64 W.pu, .int .i64 W.hl], .int .i64 (Er : Int)]) rfl (by kernel_rfl) (fun _ _ _ h => h) SS rfl (by intro wz hz; go_simp) ?_
      try simp only [List.getElem_toArray, List.getElem_cons_succ, List.getElem_cons_zero, Act.put, List.setIfInBounds_toArray, List.set_cons_zero, List.set_cons_succ]
      refine wpAnyZ_take [] 5 (.agg #[.int .i64 W.cr, .int .i64 W.nx, .int .i64 W.ah, .slice P.sa P.sn P.sc, .slice P.qa P.qn P.qc, .int .i64 W.ti, .int .i64 W.pa, .int .i64 W.tr, .int .i64 W.li, .int .i64 W.si, .int .i64 W.pu, .int .i64 W.hl]) rfl (by kernel_rfl) (fun _ _ _ h => h) SS rfl (by intro wz hz; go_simp) ?_
      try simp only [List.getElem_toArray, List.getElem_cons_succ, List.getElem_cons_zero, Act.put, List.setIfInBounds_toArray, List.set_cons_zero, List.set_cons_succ]
      refine wpAnyZ_take [] 6 (.int .i64 (Er : Int)) rfl (by kernel_rfl) (fun _ _ _ h => h) SS rfl (by intro wz hz; go_simp) ?_
      try simp only [List.getElem_toArray, List.getElem_cons_succ, List.getElem_cons_zero, Act.put, List.setIfInBounds_toArray, List.set_cons_zero, List.set_cons_succ]
      refine wpAnyZ_oneB 8 rfl (by kernel_rfl) (fun K hK => ?_)
      refine step_stX _ rfl 50 (.tmp 9) (.tmp 37) rfl x1.heap.size _ _ rfl rfl p9 i12 rfl (by simp [Value.oneCell']) ?_
      intro y8 b9 u8
      have hP := hP.fz (fz_of2 u8) (fun x hx e => by have e := Option.some.inj e; subst e; rcases hx with hx | hx; exact box_ofr hP.s p9 hx; exact box_ofr hP.q p9 hx)
      have SS := grown_far SS u8 (fun q e => by have e := Option.some.inj e; omega)
      refine hK _ _ (fun _ => SS) ?_
      try simp only [List.getElem_toArray, List.getElem_cons_succ, List.getElem_cons_zero, Act.put, List.setIfInBounds_toArray, List.set_cons_zero, List.set_cons_succ]
      refine wpAnyZ_take [] 9 (.int .i64 (Er : Int)) rfl (by kernel_rfl) (fun _ _ _ h => h) SS rfl (by intro wz hz; go_simp) ?_
      try simp only [List.getElem_toArray, List.getElem_cons_succ, List.getElem_cons_zero, Act.put, List.setIfInBounds_toArray, List.set_cons_zero, List.set_cons_succ]
      refine wpAnyZ_doneB (by kernel_rfl) ?_ _
      have b5e := b5B.keep SS (by simp)
      have v7e := v7B.keep _ _ SS
      have rmE := rmB.grown SS (by simp)
      have x7 : y8.cell? ⟨g7, 0, none⟩ = some (.slice (some ⟨gr, 0, none⟩) n (n + 5)) := v7e.1.cell 0 (by show 0 < 1; decide)
      have hAr : Ans y8 0 (some ⟨gr, 0, none⟩) n (n + 5) D := rmE.ans hR.byte hR.len hn (Nat.zero_le _)
      have s9 : True := trivial
      go_wp2_with (first
    | (go_at_call 21; have _t := s9; clear s9; refine (spoil_any hAr (by omega)).mono ?_; rintro e y9 ⟨rfl, u9⟩; have u9 : y8.grownBy y9 (some gr) := u9; have b9 := b9.keep u9 (fun e => by have e := Option.some.inj e; omega); have b5f := b5e.keep u9 (fun e => by have e := Option.some.inj e; omega); obtain ⟨c0, c1, c2, c3, c4, c5, c6, c7, c8, c9, c10, c11⟩ := b9.cell12; obtain ⟨e0, e1, e2, e3, e4, e5, e6, e7, e8, e9, e10, e11⟩ := b5f.cell12; have hP9 := hP.fz (fz_of2 u9) (fun x hx e => by have := hP.lo' x hx; have e := Option.some.inj e; omega); have hW9 := hW2.past (grown_trans YB SS) u9 hgr; have s10 : True := trivial)
    | (go_at_call 32; have _t := s10; clear s10; refine (kS P P1 _ hP9.rd hW9).mono ?_; rintro e y10 ⟨rfl, u10⟩))
      go_ret
      exact ⟨rfl, (Below.refl _ _).grown (grown_trans (grown_far (grown_trans GB SS) u9 (fun q e => by have e := Option.some.inj e; omega)) u10) (Nat.le_refl _) (fun k hk => by cases hk)⟩
  · go_simp
    have gX := World.grownBy_alloc x0 (.cells #[.int .i64 0, .int .i64 0, .int .i64 0, .slice none 0 0, .slice none 0 0, .int .i64 0, .int .i64 0, .int .i64 0, .int .i64 0, .int .i64 0, .int .i64 0, .int .i64 0] 50) none
    have p9 := BxS.new x0 50 #[.int .i64 0, .int .i64 0, .int .i64 0, .slice none 0 0, .slice none 0 0, .int .i64 0, .int .i64 0, .int .i64 0, .int .i64 0, .int .i64 0, .int .i64 0, .int .i64 0]
    have n9 : wB.heap.size ≤ x0.heap.size := SS.size
    have SS := grown_trans SS gX
    refine hK _ _ (fun _ => SS) ?_
    try simp only [List.getElem_toArray, List.getElem_cons_succ, List.getElem_cons_zero, Act.put, List.setIfInBounds_toArray, List.set_cons_zero, List.set_cons_succ]
    generalize hz1 : x0.alloc (.cells #[.int .i64 0, .int .i64 0, .int .i64 0, .slice none 0 0, .slice none 0 0, .int .i64 0, .int .i64 0, .int .i64 0, .int .i64 0, .int .i64 0, .int .i64 0, .int .i64 0] 50) = x1 at *
    clear hz1 gX
    refine wpAnyZ_oneB 1 rfl (by kernel_rfl) (fun K hK => ?_)
    go_simp
    go_at_call 37
    refine (kH _ (hdB.keep SS)).mono ?_
    rintro e x2 ⟨Y, rs, qs, rfl, hO, gX⟩
    dsimp only
    have p9 := p9.keep gX (by simp)
    have SS := grown_trans SS gX
    refine hK _ _ (fun _ => SS) ?_
    try simp only [List.getElem_toArray, List.getElem_cons_succ, List.getElem_cons_zero, Act.put, List.setIfInBounds_toArray, List.set_cons_zero, List.set_cons_succ]
    clear gX
    refine wpAnyZ_oneB 3 rfl (by kernel_rfl) (fun K hK => ?_)
    go_simp
    go_at_call 35
    refine (kA Y _ hO.rd (hRB.keep SS)).mono ?_
    rintro e x3 ⟨P, rs1, qs1, rfl, hP0, gX⟩
    dsimp only
    have szs := SS.size
    have hP : OwHd _ wB.heap.size P rs1 qs1 W := ⟨hP0.s.wide szs, hP0.q.wide szs, hP0.ap⟩
    clear hP0 szs
    have p9 := p9.keep gX (by simp)
    have SS := grown_trans SS gX
    refine hK _ _ (fun _ => SS) ?_
    try simp only [List.getElem_toArray, List.getElem_cons_succ, List.getElem_cons_zero, Act.put, List.setIfInBounds_toArray, List.set_cons_zero, List.set_cons_succ]
    clear gX
    refine wpAnyZ_take [] 4 (.tuple #[.agg #[.int .i64 W.cr, .int .i64 W.nx, .int .i64 W.ah, .slice P.sa P.sn P.sc, .slice P.qa P.qn P.qc, .int .i64 W.ti, .int .i64 W.pa, .int .i64 W.tr, .int .i64 W.li, .int .i64 W.si, .int .i64 W.pu, .int .i64 W.hl], .int .i64 (Er : Int)]) rfl (by kernel_rfl) (fun _ _ _ h => h) SS rfl (by intro wz hz; go_simp) ?_
    try simp only [List.getElem_toArray, List.getElem_cons_succ, List.getElem_cons_zero, Act.put, List.setIfInBounds_toArray, List.set_cons_zero, List.set_cons_succ]
    refine wpAnyZ_take [] 5 (.agg #[.int .i64 W.cr, .int .i64 W.nx, .int .i64 W.ah, .slice P.sa P.sn P.sc, .slice P.qa P.qn P.qc, .int .i64 W.ti, .int .i64 W.pa, .int .i64 W.tr, .int .i64 W.li, .int .i64 W.si, .int .i64 W.pu, .int .i64 W.hl]) rfl (by kernel_rfl) (fun _ _ _ h => h) SS rfl (by intro wz hz; go_simp) ?_
    try simp only [List.getElem_toArray, List.getElem_cons_succ, List.getElem_cons_zero, Act.put, List.setIfInBounds_toArray, List.set_cons_zero, List.set_cons_succ]
    refine wpAnyZ_take [] 6 (.int .i64 (Er : Int)) rfl (by kernel_rfl) (fun _ _ _ h => h) SS rfl (by intro wz hz; go_simp) ?_
    try simp only [List.getElem_toArray, List.getElem_cons_succ, List.getElem_cons_zero, Act.put, List.setIfInBounds_toArray, List.set_cons_zero, List.set_cons_succ]
    refine wpAnyZ_oneB 8 rfl (by kernel_rfl) (fun K hK => ?_)
    refine step_stX _ rfl 50 (.tmp 9) (.tmp 37) rfl x0.heap.size _ _ rfl rfl p9 i12 rfl (by simp [Value.oneCell']) ?_
    intro y8 b9 u8
    have hP := hP.fz (fz_of2 u8) (fun x hx e => by have e := Option.some.inj e; subst e; rcases hx with hx | hx; exact box_ofr hP.s p9 hx; exact box_ofr hP.q p9 hx)
    have SS := grown_far SS u8 (fun q e => by have e := Option.some.inj e; omega)
    refine hK _ _ (fun _ => SS) ?_
    try simp only [List.getElem_toArray, List.getElem_cons_succ, List.getElem_cons_zero, Act.put, List.setIfInBounds_toArray, List.set_cons_zero, List.set_cons_succ]
    refine wpAnyZ_take [] 9 (.int .i64 (Er : Int)) rfl (by kernel_rfl) (fun _ _ _ h => h) SS rfl (by intro wz hz; go_simp) ?_
    try simp only [List.getElem_toArray, List.getElem_cons_succ, List.getElem_cons_zero, Act.put, List.setIfInBounds_toArray, List.set_cons_zero, List.set_cons_succ]
    refine wpAnyZ_doneB (by kernel_rfl) ?_ _
    have b5e := b5B.keep SS (by simp)
    have v7e := v7B.keep _ _ SS
    have rmE := rmB.grown SS (by simp)
    have x7 : y8.cell? ⟨g7, 0, none⟩ = some (.slice (some ⟨gr, 0, none⟩) n (n + 5)) := v7e.1.cell 0 (by show 0 < 1; decide)
    have hAr : Ans y8 0 (some ⟨gr, 0, none⟩) n (n + 5) D := rmE.ans hR.byte hR.len hn (Nat.zero_le _)
    have s9 : True := trivial
    go_wp2_with (first
    | (go_at_call 21; have _t := s9; clear s9; refine (spoil_any hAr (by omega)).mono ?_; rintro e y9 ⟨rfl, u9⟩; have u9 : y8.grownBy y9 (some gr) := u9; have b9 := b9.keep u9 (fun e => by have e := Option.some.inj e; omega); have b5f := b5e.keep u9 (fun e => by have e := Option.some.inj e; omega); obtain ⟨c0, c1, c2, c3, c4, c5, c6, c7, c8, c9, c10, c11⟩ := b9.cell12; obtain ⟨e0, e1, e2, e3, e4, e5, e6, e7, e8, e9, e10, e11⟩ := b5f.cell12; have hP9 := hP.fz (fz_of2 u9) (fun x hx e => by have := hP.lo' x hx; have e := Option.some.inj e; omega); have hW9 := hW2.past (grown_trans YB SS) u9 hgr; have s10 : True := trivial)
    | (go_at_call 32; have _t := s10; clear s10; refine (kS P P1 _ hP9.rd hW9).mono ?_; rintro e y10 ⟨rfl, u10⟩))
    go_ret
    exact ⟨rfl, (Below.refl _ _).grown (grown_trans (grown_far (grown_trans GB SS) u9 (fun q e => by have e := Option.some.inj e; omega)) u10) (Nat.le_refl _) (fun k hk => by cases hk)⟩
end Go.Proofs.Ytnnoeeakkpaocaa
