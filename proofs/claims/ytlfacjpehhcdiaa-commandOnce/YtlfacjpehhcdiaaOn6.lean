import Derived.Deep.DeepCutAuto
import Derived.Deep.CutBlock
import Derived.Test.YtlfacjpehhcdiaaOn5
import Derived.Test.YtlfacjpehhcdiaaOn2
namespace Go.Proofs.Ytlfacjpehhcdiaa
open Go.RowKit
set_option maxRecDepth 100000
set_option linter.unusedVariables false
set_option linter.unusedSimpArgs false

section
theorem copyAll2_any (a : Option Addr) (n c : Nat) (R : List (List Nat)) (w : World) (h : RdW w a n c R) (hF : ∀ i, i < R.length → 1 ≤ (R.getD i []).length ∧ (R.getD i []).length ≤ 1017) (hn : n ≤ 1000) :
    Calls Try.prog 28 #[.slice a n c] w fun e w' => ∃ a' c' rs, e = .returned (.slice a' n c') ∧ OwW w' w.heap.size a' n c' rs R ∧ w.grownBy w' none := by
  obtain ⟨F, h1, h2⟩ := h.ex
  have l1 := h.len
  refine (copyAll_any a n c F w h1 (fun i hi => by rw [← (h1.data i hi).len, h2 i hi]; exact hF i (by omega)) hn).mono ?_
  rintro e w' ⟨a', c', rs, rfl, o, d, g⟩
  exact ⟨a', c', rs, rfl, ⟨o, map_D_of rs R (by rw [o.len]; omega) (fun i hi => by rw [d i (by omega), h2 i (by omega)])⟩, g⟩
theorem step_stC (w : World) {ops : Array Oper} {o : Oper} {a : Act} {K : Act → World → Prop} {Q : Exit → Act → World → Prop} {E : Prop} (hg : o.guard = none) (t : TypeId) (p x : Operand) (hop : o.op = Op.store t p x)
    (g i : Nat) (ty : TypeId) (A A' : Array Value) (v : Value) (hp : a.eval p = .pointer (some ⟨g, i, none⟩)) (hx : a.eval x = v) (hB : BxS w g ty A)
    (hst : ∀ w' : World, (∃ u, w'.cell? ⟨g, i, none⟩ = some u) → w'.frozen? ⟨g, i, none⟩ = false → (Instr.storeAt t (.pointer (some ⟨g, i, none⟩)) v).run Try.prog w' = .ok () (w'.setCell ⟨g, i, none⟩ v)) (hi : i < A.size) (hA : A.setIfInBounds i v = A')
    (hK : ∀ w', BxS w' g ty A' → w.grownBy w' (some g) → K (a.put o.dst undef) w') :
    if Region.wanted o (yielded ops a.tmps) = true then Oper.wp Try.prog o a w K Q else E := by
  have hw : Region.wanted o (yielded ops a.tmps) = true := by simp [Region.wanted, hg]
  rw [if_pos hw]
  have hc : ∃ u, w.cell? ⟨g, i, none⟩ = some u := ⟨A[i], by rw [cell_of_row w g i _ _ _ hB]; simp [hi]⟩
  have hf := frozen_of_row w g i _ _ hB
  have hfin := hK _ (by unfold BxS; rw [heap_setCell_same w g i _ _ _ hB, hA]) (grown_set w g i v)
  unfold Oper.wp
  simp [execOp, hop, hp, hx, hst w hc hf, Result.andThen, Oper.upon]
  exact hfin
theorem Try.info_hn3 : (Try.prog.info? 26).map (fun i => i.size) = some 12 := by kernel_rfl
theorem fz_of2 {w w' : World} {r : Option Nat} (h : w.grownBy w' r) : Fz (fun i => r = some i) w w' := (Fz.refl _ w).step h (fun k e _ => e)
theorem box_ofrC {w : World} {lo : Nat} {a : Option Addr} {n c g : Nat} {rs : List Rw} {R : List (List Nat)} {cs : Array Value} (h : OwW w lo a n c rs R) (b : BxS w g 57 cs) : ∀ x, Ofr (.slice a n c) rs x → ¬ some g = some x := fun x hx e => by
  have e := Option.some.inj e
  subst e
  exact ofr_box h.o b (by decide) (by decide) hx rfl
set_option maxHeartbeats 64000000 in
theorem apart_ask (gd : Nat) (d W : Hd) (R : List (List Nat)) (Er : Nat) (X : Hx) (w : World) (I : World → Prop) (hI : ∀ a b, I a → a.grownBy b none → I b) (hI0 : I w) (hB : hndB d = true) (hd : RdHd w X d)
    (hS : ∀ (lo : Nat) (wz : World) (g : Nat) (Z : Hx) (rs qs : List Rw), I wz → lo ≤ g → BxS wz g 57 #[.int .i64 d.cr, .int .i64 d.nx, .int .i64 d.ah, .slice Z.sa Z.sn Z.sc, .slice Z.qa Z.qn Z.qc, .int .i64 d.ti, .int .i64 d.pa, .int .i64 d.tr, .int .i64 d.li, .int .i64 d.si, .int .i64 d.pu, .int .i64 d.hl, .slice none 0 0] → OwHd wz lo Z rs qs d → Calls Try.prog 17 #[.pointer (some ⟨g, 0, none⟩), .pointer (some ⟨gd, 0, none⟩)] wz fun e w' => ∃ (P1 : Hx) (rs1 qs1 : List Rw) (xa : Option Addr) (xn xc : Nat) (us1 : List Rw), e = .returned (.int .i64 (Er : Int)) ∧ BxS w' g 57 #[.int .i64 W.cr, .int .i64 W.nx, .int .i64 W.ah, .slice P1.sa P1.sn P1.sc, .slice P1.qa P1.qn P1.qc, .int .i64 W.ti, .int .i64 W.pa, .int .i64 W.tr, .int .i64 W.li, .int .i64 W.si, .int .i64 W.pu, .int .i64 W.hl, .slice xa xn xc] ∧ OwHd w' lo P1 rs1 qs1 W ∧ OwW w' lo xa xn xc us1 R ∧ (∀ x, Ofr (.slice xa xn xc) us1 x → ¬ Hbl P1 rs1 qs1 x) ∧ Fz (fun i => lo ≤ i) wz w') :
    Calls Try.prog 16 #[.agg #[.int .i64 d.cr, .int .i64 d.nx, .int .i64 d.ah, .slice X.sa X.sn X.sc, .slice X.qa X.qn X.qc, .int .i64 d.ti, .int .i64 d.pa, .int .i64 d.tr, .int .i64 d.li, .int .i64 d.si, .int .i64 d.pu, .int .i64 d.hl], .func (.func 17) #[] #[.pointer (some ⟨gd, 0, none⟩)]] w fun e w' => ∃ (P1 : Hx) (rs1 qs1 : List Rw) (xa : Option Addr) (xn xc : Nat) (us1 : List Rw), e = .returned (.tuple #[.agg #[.int .i64 W.cr, .int .i64 W.nx, .int .i64 W.ah, .slice P1.sa P1.sn P1.sc, .slice P1.qa P1.qn P1.qc, .int .i64 W.ti, .int .i64 W.pa, .int .i64 W.tr, .int .i64 W.li, .int .i64 W.si, .int .i64 W.pu, .int .i64 W.hl], .slice xa xn xc, .int .i64 (Er : Int)]) ∧ OwHd w' w.heap.size P1 rs1 qs1 W ∧ OwW w' w.heap.size xa xn xc us1 R ∧ (∀ x, Ofr (.slice xa xn xc) us1 x → ¬ Hbl P1 rs1 qs1 x) ∧ w.grownBy w' none := by
  obtain ⟨F, hF1, hF2⟩ := hd.s.ex
  obtain ⟨K, hK1, hK2⟩ := hd.q.ex
  have l1 := hd.s.len
  have l2 := hd.q.len
  have hq := hnd_of hF1 hF2 hK1 hK2 l1 l2
  rw [hB] at hq
  obtain ⟨_, n1, n2, _, _, f1, f2⟩ := hnd_ok hB
  have b0 := BxS.new w 26 #[.int .i64 d.cr, .int .i64 d.nx, .int .i64 d.ah, .slice X.sa X.sn X.sc, .slice X.qa X.qn X.qc, .int .i64 d.ti, .int .i64 d.pa, .int .i64 d.tr, .int .i64 d.li, .int .i64 d.si, .int .i64 d.pu, .int .i64 d.hl]
  have g0 := World.grownBy_alloc w (.cells #[.int .i64 d.cr, .int .i64 d.nx, .int .i64 d.ah, .slice X.sa X.sn X.sc, .slice X.qa X.qn X.qc, .int .i64 d.ti, .int .i64 d.pa, .int .i64 d.tr, .int .i64 d.li, .int .i64 d.si, .int .i64 d.pu, .int .i64 d.hl] 26) none
  generalize hw0 : w.alloc (.cells #[.int .i64 d.cr, .int .i64 d.nx, .int .i64 d.ah, .slice X.sa X.sn X.sc, .slice X.qa X.qn X.qc, .int .i64 d.ti, .int .i64 d.pa, .int .i64 d.tr, .int .i64 d.li, .int .i64 d.si, .int .i64 d.pu, .int .i64 d.hl] 26) = w0 at b0 g0
  have hz0 : w0.heap.size = w.heap.size + 1 := by rw [← hw0]; simp
  have b1 := BxS.new w0 26 #[.int .i64 0, .int .i64 0, .int .i64 0, .slice none 0 0, .slice none 0 0, .int .i64 0, .int .i64 0, .int .i64 0, .int .i64 0, .int .i64 0, .int .i64 0, .int .i64 0]
  have g1 := World.grownBy_alloc w0 (.cells #[.int .i64 0, .int .i64 0, .int .i64 0, .slice none 0 0, .slice none 0 0, .int .i64 0, .int .i64 0, .int .i64 0, .int .i64 0, .int .i64 0, .int .i64 0, .int .i64 0] 26) none
  generalize hw1 : w0.alloc (.cells #[.int .i64 0, .int .i64 0, .int .i64 0, .slice none 0 0, .slice none 0 0, .int .i64 0, .int .i64 0, .int .i64 0, .int .i64 0, .int .i64 0, .int .i64 0, .int .i64 0] 26) = w1 at b1 g1
  rw [hz0] at b1
  have p0 := b0.keep g1 (by simp)
  have G1 := grown_trans g0 g1
  have hM := hmay_any d.cr d.nx d.ah X.sa X.sn X.sc F X.qa X.qn X.qc K d.ti d.pa d.tr d.li d.si d.pu d.hl w1 (hF1.keep G1) (hK1.keep G1)
  unfold hnA at hM
  rw [hq] at hM
  have kCS := fun wz (h : RdW wz X.sa X.sn X.sc d.S) => copyAll2_any X.sa X.sn X.sc d.S wz h f1 (by omega)
  have kCQ := fun wz (h : RdW wz X.qa X.qn X.qc d.Q) => copyAll2_any X.qa X.qn X.qc d.Q wz h f2 (by omega)
  clear hq hF1 hF2 hK1 hK2 f1 f2 hB
  have i12 := Try.info_hn3
  have sz1 : w.heap.size + 2 ≤ w1.heap.size := by rw [← hw1]; simp [hz0]
  obtain ⟨c0, c1, c2, c3, c4, c5, c6, c7, c8, c9, c10, c11⟩ := p0.cell12
  have s0 : True := trivial
  go_enter Try.func16, Try.ntmps16
  go_wp2_with (go_at_call 14; have _t := s0; clear s0; refine hM.mono ?_; rintro e w2 ⟨rfl, y2⟩; have sz2 := y2.size; have p0s := p0.keep y2 (by simp); have p1w := b1.keep y2 (by simp); clear c0 c1 c2 c3 c4 c5 c6 c7 c8 c9 c10 c11; obtain ⟨c0, c1, c2, c3, c4, c5, c6, c7, c8, c9, c10, c11⟩ := p0s.cell12)
  have yA := World.grownBy_alloc w2 (.cells #[.int .i64 d.cr, .int .i64 d.nx, .int .i64 d.ah, .slice X.sa X.sn X.sc, .slice X.qa X.qn X.qc, .int .i64 d.ti, .int .i64 d.pa, .int .i64 d.tr, .int .i64 d.li, .int .i64 d.si, .int .i64 d.pu, .int .i64 d.hl, .slice none 0 0] 57) none
  have H3 := BxS.new w2 57 #[.int .i64 d.cr, .int .i64 d.nx, .int .i64 d.ah, .slice X.sa X.sn X.sc, .slice X.qa X.qn X.qc, .int .i64 d.ti, .int .i64 d.pa, .int .i64 d.tr, .int .i64 d.li, .int .i64 d.si, .int .i64 d.pu, .int .i64 d.hl, .slice none 0 0]
  have Y3 := grown_trans y2 yA
  have G3 := grown_trans G1 Y3
  have sz3' : w2.heap.size + 1 ≤ (w2.alloc (.cells #[.int .i64 d.cr, .int .i64 d.nx, .int .i64 d.ah, .slice X.sa X.sn X.sc, .slice X.qa X.qn X.qc, .int .i64 d.ti, .int .i64 d.pa, .int .i64 d.tr, .int .i64 d.li, .int .i64 d.si, .int .i64 d.pu, .int .i64 d.hl, .slice none 0 0] 57)).heap.size := by simp
  generalize w2.alloc (.cells #[.int .i64 d.cr, .int .i64 d.nx, .int .i64 d.ah, .slice X.sa X.sn X.sc, .slice X.qa X.qn X.qc, .int .i64 d.ti, .int .i64 d.pa, .int .i64 d.tr, .int .i64 d.li, .int .i64 d.si, .int .i64 d.pu, .int .i64 d.hl, .slice none 0 0] 57) = w3 at *
  obtain ⟨gh, egh⟩ : ∃ gh, w2.heap.size = gh := ⟨_, rfl⟩
  rw [egh] at H3 sz2 sz3' ⊢
  clear c0 c1 c2 c3 c4 c5 c6 c7 c8 c9 c10 c11
  have p0w := p0s
  have SS : w2.grownBy w3.drew none := grown_trans yA (grown_drew w3 none)
  have H3 := H3.keep (grown_drew w3 none) (by simp)
  refine wp_regionL (fun wz => w2.grownBy wz none) [] #[false, false, false, false, false, false, false, false, false, false, false, false, false, false, false, false] rfl (by kernel_rfl) ?_
  refine wpAnyZ_take [] 0 (.pointer (some ⟨gh, 0, none⟩)) rfl (by kernel_rfl) (fun _ _ _ h => h) SS rfl (by intro wz hz; obtain ⟨z0, z1, z2, z3, z4, z5, z6, z7, z8, z9, z10, z11⟩ := (BxS.keep p0s hz (by simp)).cell12; go_simp) ?_
  try simp only [List.getElem_toArray, List.getElem_cons_succ, List.getElem_cons_zero, Act.put, List.setIfInBounds_toArray, List.set_cons_zero, List.set_cons_succ]
  refine wpAnyZ_take [] 1 (.pointer (some ⟨gh, 0, none⟩)) rfl (by kernel_rfl) (fun _ _ _ h => h) SS rfl (by intro wz hz; obtain ⟨z0, z1, z2, z3, z4, z5, z6, z7, z8, z9, z10, z11⟩ := (BxS.keep p0s hz (by simp)).cell12; go_simp) ?_
  try simp only [List.getElem_toArray, List.getElem_cons_succ, List.getElem_cons_zero, Act.put, List.setIfInBounds_toArray, List.set_cons_zero, List.set_cons_succ]
  refine wpAnyZ_take [] 2 (.pointer (some ⟨w.heap.size, 3, none⟩)) rfl (by kernel_rfl) (fun _ _ _ h => h) SS rfl (by intro wz hz; obtain ⟨z0, z1, z2, z3, z4, z5, z6, z7, z8, z9, z10, z11⟩ := (BxS.keep p0s hz (by simp)).cell12; go_simp) ?_
  try simp only [List.getElem_toArray, List.getElem_cons_succ, List.getElem_cons_zero, Act.put, List.setIfInBounds_toArray, List.set_cons_zero, List.set_cons_succ]
  refine wpAnyZ_take [] 3 (.slice X.sa X.sn X.sc) rfl (by kernel_rfl) (fun _ _ _ h => h) SS rfl (by intro wz hz; obtain ⟨z0, z1, z2, z3, z4, z5, z6, z7, z8, z9, z10, z11⟩ := (BxS.keep p0s hz (by simp)).cell12; go_simp) ?_
  try simp only [List.getElem_toArray, List.getElem_cons_succ, List.getElem_cons_zero, Act.put, List.setIfInBounds_toArray, List.set_cons_zero, List.set_cons_succ]
  refine wpAnyZ_take [] 5 (.pointer (some ⟨w.heap.size, 4, none⟩)) rfl (by kernel_rfl) (fun _ _ _ h => h) SS rfl (by intro wz hz; obtain ⟨z0, z1, z2, z3, z4, z5, z6, z7, z8, z9, z10, z11⟩ := (BxS.keep p0s hz (by simp)).cell12; go_simp) ?_
  try simp only [List.getElem_toArray, List.getElem_cons_succ, List.getElem_cons_zero, Act.put, List.setIfInBounds_toArray, List.set_cons_zero, List.set_cons_succ]
  refine wpAnyZ_take [] 6 (.slice X.qa X.qn X.qc) rfl (by kernel_rfl) (fun _ _ _ h => h) SS rfl (by intro wz hz; obtain ⟨z0, z1, z2, z3, z4, z5, z6, z7, z8, z9, z10, z11⟩ := (BxS.keep p0s hz (by simp)).cell12; go_simp) ?_
  try simp only [List.getElem_toArray, List.getElem_cons_succ, List.getElem_cons_zero, Act.put, List.setIfInBounds_toArray, List.set_cons_zero, List.set_cons_succ]
  refine wpAnyZ_oneB 4 rfl (by kernel_rfl) (fun K hK => ?_)
  go_simp
  go_at_call 28
  refine (kCS _ (hd.s.keep (grown_trans (grown_trans G1 y2) SS))).mono ?_
  rintro e w4 ⟨aS, cS, rs, rfl, hs4, y4⟩
  dsimp only
  have SS := grown_trans SS y4
  have H4 := H3.keep y4 (by simp)
  refine hK _ _ (fun _ => SS) ?_
  try simp only [List.getElem_toArray, List.getElem_cons_succ, List.getElem_cons_zero, Act.put, List.setIfInBounds_toArray, List.set_cons_zero, List.set_cons_succ]
  refine wpAnyZ_oneB 7 rfl (by kernel_rfl) (fun K hK => ?_)
  go_simp
  go_at_call 28
  refine (kCQ _ (hd.q.keep (grown_trans (grown_trans G1 y2) SS))).mono ?_
  rintro e w5 ⟨aq, cq, qs, rfl, hq5, y5⟩
  dsimp only
  have SS := grown_trans SS y5
  have H5 := H4.keep y5 (by simp)
  have hs5 := hs4.keep y5
  refine hK _ _ (fun _ => SS) ?_
  try simp only [List.getElem_toArray, List.getElem_cons_succ, List.getElem_cons_zero, Act.put, List.setIfInBounds_toArray, List.set_cons_zero, List.set_cons_succ]
  refine wpAnyZ_take [] 8 (.pointer (some ⟨gh, 0, none⟩)) rfl (by kernel_rfl) (fun _ _ _ h => h) SS rfl (by intro wz hz; go_simp) ?_
  try simp only [List.getElem_toArray, List.getElem_cons_succ, List.getElem_cons_zero, Act.put, List.setIfInBounds_toArray, List.set_cons_zero, List.set_cons_succ]
  refine wpAnyZ_take [] 9 (.pointer (some ⟨gh, 0, none⟩)) rfl (by kernel_rfl) (fun _ _ _ h => h) SS rfl (by intro wz hz; go_simp) ?_
  try simp only [List.getElem_toArray, List.getElem_cons_succ, List.getElem_cons_zero, Act.put, List.setIfInBounds_toArray, List.set_cons_zero, List.set_cons_succ]
  refine wpAnyZ_take [] 10 (.pointer (some ⟨gh, 3, none⟩)) rfl (by kernel_rfl) (fun _ _ _ h => h) SS rfl (by intro wz hz; go_simp) ?_
  try simp only [List.getElem_toArray, List.getElem_cons_succ, List.getElem_cons_zero, Act.put, List.setIfInBounds_toArray, List.set_cons_zero, List.set_cons_succ]
  refine wpAnyZ_oneB 11 rfl (by kernel_rfl) (fun K hK => ?_)
  refine step_stC _ rfl _ _ _ rfl gh 3 57 _ #[.int .i64 d.cr, .int .i64 d.nx, .int .i64 d.ah, .slice aS X.sn cS, .slice X.qa X.qn X.qc, .int .i64 d.ti, .int .i64 d.pa, .int .i64 d.tr, .int .i64 d.li, .int .i64 d.si, .int .i64 d.pu, .int .i64 d.hl, .slice none 0 0] (.slice aS X.sn cS) rfl rfl H5 (stc_rows _ _ _ _ _) (by show 3 < 13; decide) rfl ?_
  intro w6 H6 u6
  have SS := grown_far SS u6 (fun q e => by have e := Option.some.inj e; omega)
  refine hK _ _ (fun _ => SS) ?_
  try simp only [List.getElem_toArray, List.getElem_cons_succ, List.getElem_cons_zero, Act.put, List.setIfInBounds_toArray, List.set_cons_zero, List.set_cons_succ]
  refine wpAnyZ_take [] 12 (.pointer (some ⟨gh, 0, none⟩)) rfl (by kernel_rfl) (fun _ _ _ h => h) SS rfl (by intro wz hz; go_simp) ?_
  try simp only [List.getElem_toArray, List.getElem_cons_succ, List.getElem_cons_zero, Act.put, List.setIfInBounds_toArray, List.set_cons_zero, List.set_cons_succ]
  refine wpAnyZ_take [] 13 (.pointer (some ⟨gh, 0, none⟩)) rfl (by kernel_rfl) (fun _ _ _ h => h) SS rfl (by intro wz hz; go_simp) ?_
  try simp only [List.getElem_toArray, List.getElem_cons_succ, List.getElem_cons_zero, Act.put, List.setIfInBounds_toArray, List.set_cons_zero, List.set_cons_succ]
  refine wpAnyZ_take [] 14 (.pointer (some ⟨gh, 4, none⟩)) rfl (by kernel_rfl) (fun _ _ _ h => h) SS rfl (by intro wz hz; go_simp) ?_
  try simp only [List.getElem_toArray, List.getElem_cons_succ, List.getElem_cons_zero, Act.put, List.setIfInBounds_toArray, List.set_cons_zero, List.set_cons_succ]
  refine wpAnyZ_oneB 15 rfl (by kernel_rfl) (fun K hK => ?_)
  refine step_stC _ rfl _ _ _ rfl gh 4 57 _ #[.int .i64 d.cr, .int .i64 d.nx, .int .i64 d.ah, .slice aS X.sn cS, .slice aq X.qn cq, .int .i64 d.ti, .int .i64 d.pa, .int .i64 d.tr, .int .i64 d.li, .int .i64 d.si, .int .i64 d.pu, .int .i64 d.hl, .slice none 0 0] (.slice aq X.qn cq) rfl rfl H6 (stc_rows _ _ _ _ _) (by show 4 < 13; decide) rfl ?_
  intro w7 H7 u7
  have SS := grown_far SS u7 (fun q e => by have e := Option.some.inj e; omega)
  refine hK _ _ (fun _ => SS) ?_
  try simp only [List.getElem_toArray, List.getElem_cons_succ, List.getElem_cons_zero, Act.put, List.setIfInBounds_toArray, List.set_cons_zero, List.set_cons_succ]
  refine wpAnyZ_doneB (by kernel_rfl) ?_ _
  have hgh : w.heap.size + 2 ≤ gh := by omega
  have hq5l := fun x hx => hq5.lo' x hx
  have hs4h := fun x hx => hs4.hi x hx
  have sz3d : gh ≤ w3.drew.heap.size := by have : w3.drew.heap.size = w3.heap.size := rfl; omega
  have sz34 := y4.size
  have hs6 := hs5.fz (fz_of2 u6) (box_ofrC hs5 H5)
  have hs7 := (hs6.fz (fz_of2 u7) (box_ofrC hs6 H6)).wide sz3d
  have hq6 := hq5.fz (fz_of2 u6) (box_ofrC hq5 H5)
  have hq7 := (hq6.fz (fz_of2 u7) (box_ofrC hq6 H6)).wide (Nat.le_trans sz3d sz34)
  have hO7 : OwHd w7 gh ⟨aS, X.sn, cS, aq, X.qn, cq⟩ rs qs d := ⟨hs7, hq7, fun x h1 h2 => by have := hs4h x h1; have := hq5l x h2; omega⟩
  have G7 := grown_trans (grown_trans G1 y2) SS
  have p1s := p1w.keep SS (by simp)
  have H7 : BxS w7 gh 57 #[.int .i64 d.cr, .int .i64 d.nx, .int .i64 d.ah, .slice (Hx.mk aS X.sn cS aq X.qn cq).sa (Hx.mk aS X.sn cS aq X.qn cq).sn (Hx.mk aS X.sn cS aq X.qn cq).sc, .slice (Hx.mk aS X.sn cS aq X.qn cq).qa (Hx.mk aS X.sn cS aq X.qn cq).qn (Hx.mk aS X.sn cS aq X.qn cq).qc, .int .i64 d.ti, .int .i64 d.pa, .int .i64 d.tr, .int .i64 d.li, .int .i64 d.si, .int .i64 d.pu, .int .i64 d.hl, .slice none 0 0] := H7
  have kS := hS gh w7 gh ⟨aS, X.sn, cS, aq, X.qn, cq⟩ rs qs (hI _ _ hI0 G7) (Nat.le_refl _) H7 hO7
  clear H3 H4 H5 H6 hs4 hs5 hs6 hq5 hq6 hs7 hq7 kCS kCQ hS
  go_wp2_with (go_at_call 17; refine kS.mono ?_; rintro e w8 ⟨P1, rs1, qs1, xa, xn, xc, us1, rfl, H8, h8, hx8, hap, f8⟩)
  have p18 := p1s.fz f8 (fun h => by omega)
  have H8d := H8.keep (grown_drew w8 none) (by simp)
  refine wp_regionL (fun wz => BxS wz gh 57 #[.int .i64 W.cr, .int .i64 W.nx, .int .i64 W.ah, .slice P1.sa P1.sn P1.sc, .slice P1.qa P1.qn P1.qc, .int .i64 W.ti, .int .i64 W.pa, .int .i64 W.tr, .int .i64 W.li, .int .i64 W.si, .int .i64 W.pu, .int .i64 W.hl, .slice xa xn xc]) [] #[false, false, false, false, false, false, false, false, false, false, false, false] rfl (by kernel_rfl) ?_
  refine wpAnyZ_take [] 0 (.pointer (some ⟨gh, 0, none⟩)) rfl (by kernel_rfl) (fun _ _ _ h => h) H8d rfl (by intro wz hz; obtain ⟨z0, z1, z2, z3, z4, z5, z6, z7, z8, z9, z10, z11, z12⟩ := BxS.cell13 hz; go_simp) ?_
  try simp only [List.getElem_toArray, List.getElem_cons_succ, List.getElem_cons_zero, Act.put, List.setIfInBounds_toArray, List.set_cons_zero, List.set_cons_succ]
  refine wpAnyZ_take [] 1 (.pointer (some ⟨gh, 0, none⟩)) rfl (by kernel_rfl) (fun _ _ _ h => h) H8d rfl (by intro wz hz; obtain ⟨z0, z1, z2, z3, z4, z5, z6, z7, z8, z9, z10, z11, z12⟩ := BxS.cell13 hz; go_simp) ?_
  try simp only [List.getElem_toArray, List.getElem_cons_succ, List.getElem_cons_zero, Act.put, List.setIfInBounds_toArray, List.set_cons_zero, List.set_cons_succ]
  refine wpAnyZ_take [] 2 (.pointer (some ⟨gh, 0, none⟩)) rfl (by kernel_rfl) (fun _ _ _ h => h) H8d rfl (by intro wz hz; obtain ⟨z0, z1, z2, z3, z4, z5, z6, z7, z8, z9, z10, z11, z12⟩ := BxS.cell13 hz; go_simp) ?_
  try simp only [List.getElem_toArray, List.getElem_cons_succ, List.getElem_cons_zero, Act.put, List.setIfInBounds_toArray, List.set_cons_zero, List.set_cons_succ]
  refine wpAnyZ_take [] 3 (.agg #[.int .i64 W.cr, .int .i64 W.nx, .int .i64 W.ah, .slice P1.sa P1.sn P1.sc, .slice P1.qa P1.qn P1.qc, .int .i64 W.ti, .int .i64 W.pa, .int .i64 W.tr, .int .i64 W.li, .int .i64 W.si, .int .i64 W.pu, .int .i64 W.hl]) rfl (by kernel_rfl) (fun _ _ _ h => h) H8d rfl (by intro wz hz; obtain ⟨z0, z1, z2, z3, z4, z5, z6, z7, z8, z9, z10, z11, z12⟩ := BxS.cell13 hz; go_simp) ?_
  try simp only [List.getElem_toArray, List.getElem_cons_succ, List.getElem_cons_zero, Act.put, List.setIfInBounds_toArray, List.set_cons_zero, List.set_cons_succ]
  refine wpAnyZ_take [] 4 (.pointer (some ⟨gh, 0, none⟩)) rfl (by kernel_rfl) (fun _ _ _ h => h) H8d rfl (by intro wz hz; obtain ⟨z0, z1, z2, z3, z4, z5, z6, z7, z8, z9, z10, z11, z12⟩ := BxS.cell13 hz; go_simp) ?_
  try simp only [List.getElem_toArray, List.getElem_cons_succ, List.getElem_cons_zero, Act.put, List.setIfInBounds_toArray, List.set_cons_zero, List.set_cons_succ]
  refine wpAnyZ_take [] 5 (.pointer (some ⟨gh, 0, none⟩)) rfl (by kernel_rfl) (fun _ _ _ h => h) H8d rfl (by intro wz hz; obtain ⟨z0, z1, z2, z3, z4, z5, z6, z7, z8, z9, z10, z11, z12⟩ := BxS.cell13 hz; go_simp) ?_
  try simp only [List.getElem_toArray, List.getElem_cons_succ, List.getElem_cons_zero, Act.put, List.setIfInBounds_toArray, List.set_cons_zero, List.set_cons_succ]
  refine wpAnyZ_take [] 6 (.pointer (some ⟨gh, 12, none⟩)) rfl (by kernel_rfl) (fun _ _ _ h => h) H8d rfl (by intro wz hz; obtain ⟨z0, z1, z2, z3, z4, z5, z6, z7, z8, z9, z10, z11, z12⟩ := BxS.cell13 hz; go_simp) ?_
  try simp only [List.getElem_toArray, List.getElem_cons_succ, List.getElem_cons_zero, Act.put, List.setIfInBounds_toArray, List.set_cons_zero, List.set_cons_succ]
  refine wpAnyZ_take [] 7 (.slice xa xn xc) rfl (by kernel_rfl) (fun _ _ _ h => h) H8d rfl (by intro wz hz; obtain ⟨z0, z1, z2, z3, z4, z5, z6, z7, z8, z9, z10, z11, z12⟩ := BxS.cell13 hz; go_simp) ?_
  try simp only [List.getElem_toArray, List.getElem_cons_succ, List.getElem_cons_zero, Act.put, List.setIfInBounds_toArray, List.set_cons_zero, List.set_cons_succ]
  refine wpAnyZ_take [] 8 (.int .i64 (Er : Int)) rfl (by kernel_rfl) (fun _ _ _ h => h) H8d rfl (by intro wz hz; obtain ⟨z0, z1, z2, z3, z4, z5, z6, z7, z8, z9, z10, z11, z12⟩ := BxS.cell13 hz; go_simp) ?_
  try simp only [List.getElem_toArray, List.getElem_cons_succ, List.getElem_cons_zero, Act.put, List.setIfInBounds_toArray, List.set_cons_zero, List.set_cons_succ]
  refine wpAnyZ_oneB 9 rfl (by kernel_rfl) (fun K hK => ?_)
  refine step_stX _ rfl 26 (.tmp 4) (.tmp 36) rfl (w.heap.size + 1) _ _ rfl rfl (p18.keep (grown_drew w8 none) (by simp)) i12 rfl (by simp [Value.oneCell']) ?_
  intro w9 b9 g9
  have H9 := H8d.keep g9 (fun e => by have e := Option.some.inj e; omega)
  refine hK _ _ (fun _ => H9) ?_
  try simp only [List.getElem_toArray, List.getElem_cons_succ, List.getElem_cons_zero, Act.put, List.setIfInBounds_toArray, List.set_cons_zero, List.set_cons_succ]
  refine wpAnyZ_take [] 10 (.slice xa xn xc) rfl (by kernel_rfl) (fun _ _ _ h => h) H9 rfl (by intro wz hz; go_simp) ?_
  try simp only [List.getElem_toArray, List.getElem_cons_succ, List.getElem_cons_zero, Act.put, List.setIfInBounds_toArray, List.set_cons_zero, List.set_cons_succ]
  refine wpAnyZ_take [] 11 (.int .i64 (Er : Int)) rfl (by kernel_rfl) (fun _ _ _ h => h) H9 rfl (by intro wz hz; go_simp) ?_
  try simp only [List.getElem_toArray, List.getElem_cons_succ, List.getElem_cons_zero, Act.put, List.setIfInBounds_toArray, List.set_cons_zero, List.set_cons_succ]
  refine wpAnyZ_doneB (by kernel_rfl) ?_ _
  go_wp2
  refine bodyPost_ret (results_cell3 rfl _ _ _ ⟨w.heap.size + 1, 0, none⟩ _ (.slice xa xn xc) (.int .i64 (Er : Int)) rfl (BxS.load (t := 26) b9 Try.underlying26 i12) rfl rfl) rfl ?_
  have h9 := (h8.keep (grown_drew w8 none)).fz (fz_of2 g9) (fun x hx e => by have := h8.lo' x hx; have e := Option.some.inj e; omega)
  have hx9 := (hx8.keep (grown_drew w8 none)).fz (fz_of2 g9) (fun x hx e => by have := hx8.lo' x hx; have e := Option.some.inj e; omega)
  have G8 : w.grownBy w8 none := Fz.grown G7 f8 (fun i h => by omega)
  refine ⟨P1, rs1, qs1, xa, xn, xc, us1, rfl, ⟨h9.s.wide (by omega), h9.q.wide (by omega), h9.ap⟩, hx9.wide (by omega), hap, grown_far (grown_trans G8 (grown_drew w8 none)) g9 (fun q e => by have e := Option.some.inj e; omega)⟩
end

section
/-- what a gate reports -/
def rpN (nx : Nat) (sh wa ag : Bool) (ct : Nat) : Nat := 16777216 + sh.toNat * 8192 + wa.toNat * 4096 + ag.toNat * 2048 + ct * 512 + nx
def rpV (cr nx ha : Int) (sh wa ag : Bool) (ct : Int) : Nat := if gtB cr nx ha ct = true then rpN nx.toNat sh wa ag ct.toNat else 0
def rpE (cr nx ha ct : Int) : Nat := if gtB cr nx ha ct = true then 0 else 11
theorem gtB_ok {cr nx ha ct : Int} (h : gtB cr nx ha ct = true) : (0 ≤ cr ∧ cr ≤ 1023) ∧ (0 ≤ nx ∧ nx ≤ 255) ∧ (1 ≤ ha ∧ ha ≤ 127) ∧ (0 ≤ ct ∧ ct ≤ 3) := by
  unfold gtB at h
  simp only [Bool.and_eq_true_iff] at h
  obtain ⟨⟨⟨a1, a2⟩, a3⟩, a4⟩ := h
  exact ⟨kwB_ok a1, kwB_ok a3, kwB_ok a2, kwB_ok a4⟩
theorem or_mid (r B : Nat) (hr : r < 2 ^ 11) (hB : B < 8) : (16777216 + r) ||| (B * 2048) = 16777216 + B * 2048 + r := by
  have e1 : (16777216 : Nat) + r = (1 * 2 ^ 24) ||| r := (or_nat 1 r 24 (by omega)).symm
  rw [e1, Nat.or_assoc, Nat.or_comm r, show B * 2048 = B * 2 ^ 11 from rfl, or_nat B r 11 hr, or_nat 1 _ 24 (by omega)]
  omega
set_option maxHeartbeats 4000000 in
theorem report_any (cr nx ha : Int) (sh wa ag : Bool) (ct : Int) (w : World) : Calls Try.prog 12 #[.agg (gtA cr nx ha sh wa ag ct)] w fun e w' => e = .returned (.tuple #[.int .i64 (rpV cr nx ha sh wa ag ct : Nat), .int .i64 (rpE cr nx ha ct : Nat)]) ∧ w.grownBy w' none := by
  have h0 := fun wz => gmay_any cr nx ha sh wa ag ct wz
  have b0 := BxS.new w 28 (gtA cr nx ha sh wa ag ct)
  have g0 := World.grownBy_alloc w (.cells (gtA cr nx ha sh wa ag ct) 28) none
  unfold rpV rpE
  have hok := @gtB_ok cr nx ha ct
  generalize gtB cr nx ha ct = b at h0 hok ⊢
  unfold gtA at h0 b0 g0 ⊢
  have t1 : True := trivial
  cases b
  · generalize hw0 : w.alloc (.cells #[.int .i64 cr, .int .i64 nx, .int .i64 ha, .bool sh, .bool wa, .bool ag, .int .i64 ct] 28) = w0 at b0 g0
    obtain ⟨c0, c1, c2, c3, c4, c5, c6⟩ := b0.cell7
    go_enter Try.func12, Try.ntmps12
    go_wp2_with (first
      | (go_at_call 15; have _t := t1; clear t1; refine (h0 _).mono ?_; rintro e w2 ⟨rfl, g2⟩))
    go_ret2
    exact ⟨rfl, grown_trans g0 g2⟩
  · obtain ⟨_, ⟨n1, n2⟩, _, ⟨k1, k2⟩⟩ := hok rfl
    clear hok
    obtain ⟨x, rfl⟩ := Int.eq_ofNat_of_zero_le n1
    obtain ⟨y, rfl⟩ := Int.eq_ofNat_of_zero_le k1
    rw [if_pos rfl, if_pos rfl, Int.toNat_natCast, Int.toNat_natCast]
    generalize hw0 : w.alloc (.cells #[.int .i64 cr, .int .i64 (x : Int), .int .i64 ha, .bool sh, .bool wa, .bool ag, .int .i64 (y : Int)] 28) = w0 at b0 g0
    obtain ⟨c0, c1, c2, c3, c4, c5, c6⟩ := b0.cell7
    have p1 := toNat_le sh
    have p2 := toNat_le wa
    have p3 := toNat_le ag
    have HR : Hid (rpN x sh wa ag y = 16777216 + (sh.toNat * 4 + wa.toNat * 2 + ag.toNat) * 2048 + (y * 512 + x)) := by show _ = _; unfold rpN; omega
    have hA : bits .or .i64 (bits .or .i64 16777216 ((y : Int) * 512)) (x : Int) = ((16777216 + (y * 512 + x) : Nat) : Int) := by
      have e1 : (16777216 : Int) = ((8192 * 2 ^ 11 : Nat) : Int) := rfl
      have e2 : ((y : Int) * 512) = ((y * 512 : Nat) : Int) := by omega
      rw [e1, e2, or_put _ _ 11 (by omega) (by omega) (by omega), show 8192 * 2 ^ 11 + y * 512 = (32768 + y) * 2 ^ 9 by omega, or_put _ _ 9 (by omega) (by omega) (by omega)]
      omega
    have hB : bits .or .i64 (bits .or .i64 ((sh.toNat : Int) * 8192) ((wa.toNat : Int) * 4096)) ((ag.toNat : Int) * 2048) = (((sh.toNat * 4 + wa.toNat * 2 + ag.toNat) * 2048 : Nat) : Int) := by
      have e1 : ((sh.toNat : Int) * 8192) = ((sh.toNat * 2 ^ 13 : Nat) : Int) := by omega
      have e2 : ((wa.toNat : Int) * 4096) = ((wa.toNat * 4096 : Nat) : Int) := by omega
      have e3 : ((ag.toNat : Int) * 2048) = ((ag.toNat * 2048 : Nat) : Int) := by omega
      rw [e1, e2, e3, or_put _ _ 13 (by omega) (by omega) (by omega), show sh.toNat * 2 ^ 13 + wa.toNat * 4096 = (sh.toNat * 2 + wa.toNat) * 2 ^ 12 by omega, or_put _ _ 12 (by omega) (by omega) (by omega)]
      omega
    have hC : bits .or .i64 ((16777216 + (y * 512 + x) : Nat) : Int) (((sh.toNat * 4 + wa.toNat * 2 + ag.toNat) * 2048 : Nat) : Int) = ((rpN x sh wa ag y : Nat) : Int) := by
      rw [HR.out, i64_or_n _ _ (by omega) (by omega), or_mid _ _ (by omega) (by omega)]
    have hl : rpN x sh wa ag y < 4294967296 := by have := HR.out; omega
    generalize rpN x sh wa ag y = R at hC hl ⊢
    generalize (sh.toNat * 4 + wa.toNat * 2 + ag.toNat) * 2048 = B at hB hC
    generalize 16777216 + (y * 512 + x) = A at hA hC
    clear HR
    go_enter Try.func12, Try.ntmps12
    go_wp2_with (first
      | (go_at_call 15; have _t := t1; clear t1; refine (h0 _).mono ?_; rintro e w2 ⟨rfl, g2⟩; clear c0 c1 c2 c3 c4 c5 c6; obtain ⟨c0, c1, c2, c3, c4, c5, c6⟩ := (b0.keep g2 (by simp)).cell7))
    go_quiet ((go_at_call 24; exact Calls.quiet_of_same (bitIf_any _ _ _)))
    go_wp2
    go_ret2
    exact ⟨rfl, grown_trans (grown_trans g0 g2) (grown_drewN w2 _ none)⟩
/-- what Read answers -/
def stE (z : Int) : Nat := if kwB z 0 4294967295 = true then (if z.toNat / 16384 = 1024 ∧ z.toNat / 256 % 2 = 0 then 0 else 8) else 2
def stN (z : Int) : Nat := if stE z = 0 then z.toNat % 256 else 0
def stC (z : Int) : Nat := if stE z = 0 then z.toNat / 512 % 4 else 0
def stB (z : Int) (k : Nat) : Bool := decide (stE z = 0) && decide (z.toNat / 2 ^ k % 2 = 1)
theorem st_no {z : Int} (h : stE z ≠ 0) : stN z = 0 ∧ stC z = 0 ∧ ∀ k, stB z k = false := by
  unfold stN stC stB
  rw [if_neg h, if_neg h, decide_eq_false h]
  exact ⟨rfl, rfl, fun k => rfl⟩
theorem bit_two (x k : Nat) : x / 2 ^ k % 2 = 0 ∨ x / 2 ^ k % 2 = 1 := by omega
set_option maxHeartbeats 8000000 in
theorem read_any (z : Int) (w : World) : Calls Try.prog 29 #[.int .i64 z] w fun e w' => e = .returned (.tuple #[.agg (gtA 0 (stN z : Nat) 0 (stB z 13) (stB z 12) (stB z 11) (stC z : Nat)), .int .i64 (stE z : Nat)]) ∧ w.grownBy w' none := by
  have h0 := fun wz => kwithin_any z 0 4294967295 wz
  have B2 := BxS.new w 28 (gtA 0 0 0 false false false 0)
  have g0 := World.grownBy_alloc w (.cells (gtA 0 0 0 false false false 0) 28) none
  have i7 := Try.info_gt
  unfold gtA at B2 g0 ⊢
  generalize hw0 : w.alloc (.cells #[.int .i64 0, .int .i64 0, .int .i64 0, .bool false, .bool false, .bool false, .int .i64 0] 28) = w0 at B2 g0
  have t1 : True := trivial
  have t2 : True := trivial
  by_cases hk : 0 ≤ z ∧ z ≤ 4294967295
  · rw [kwB_t hk] at h0
    obtain ⟨k0, k1⟩ := hk
    obtain ⟨x, rfl⟩ := Int.eq_ofNat_of_zero_le k0
    have hN := andNot_form x (by omega)
    by_cases hf : x / 16384 = 1024 ∧ x / 256 % 2 = 0
    · have hE : stE (x : Int) = 0 := by unfold stE; rw [kwB_t ⟨k0, k1⟩, if_pos rfl, Int.toNat_natCast, if_pos hf]
      rw [hf.1, hf.2] at hN
      have hN : bits .andNot .i64 (x : Int) 16127 = 16777216 := hN
      have h8 : bits .and .i64 (x : Int) 255 = ((stN (x : Int) : Nat) : Int) := by
        unfold stN; rw [if_pos hE, Int.toNat_natCast]
        exact i64_low x 8 (by omega) (by decide)
      have h9 : bits .and .i64 ((x : Int) / 512) 3 = ((stC (x : Int) : Nat) : Int) := by
        unfold stC; rw [if_pos hE, Int.toNat_natCast, show ((x : Int) / 512) = ((x / 512 : Nat) : Int) by omega]
        exact i64_low (x / 512) 2 (by omega) (by decide)
      have sb : ∀ k, stB (x : Int) k = decide (x / 2 ^ k % 2 = 1) := fun k => by unfold stB; rw [decide_eq_true hE, Int.toNat_natCast]; rfl
      have fb : ∀ k, k < 32 → (bits .and .i64 (x : Int) ((2 ^ k : Nat) : Int) != 0) = stB (x : Int) k := fun k hk => by
        rw [i64_and_p2 x k (by omega) (by omega), sb]
        rcases bit_two x k with e | e
        · rw [e, Nat.zero_mul]; rfl
        · rw [e, Nat.one_mul]
          have := Nat.two_pow_pos k
          exact bne_iff_ne.2 (fun h => by have h2 := Int.ofNat_eq_zero.1 h; omega)
      have F13 : Hid ((bits .and .i64 (x : Int) 8192 != 0) = stB (x : Int) 13) := fb 13 (by decide)
      have F12 : Hid ((bits .and .i64 (x : Int) 4096 != 0) = stB (x : Int) 12) := fb 12 (by decide)
      have F11 : Hid ((bits .and .i64 (x : Int) 2048 != 0) = stB (x : Int) 11) := fb 11 (by decide)
      rw [hE]
      generalize stN (x : Int) = N at h8 ⊢
      generalize stC (x : Int) = C at h9 ⊢
      clear sb hf hE fb
      go_enter Try.func29, Try.ntmps29
      go_wp2_with (first
        | (go_at_call 25; have _t := t1; clear t1; refine (h0 _).mono ?_; rintro e wx ⟨rfl, hw⟩; have hw := hw.symm; subst hw)
        | (have _t := t2; refine wpList_stX _ rfl _ (.tmp 2) (.tmp 26) rfl w.heap.size _ _ rfl rfl B2 i7 rfl (by simp [Value.oneCell']) ?_; clear t2; intro w9 b9 g9))
      refine bodyPost_ret (results_cell1t rfl _ _ _ ⟨w.heap.size, 0, none⟩ _ (.int .i64 0) rfl (BxS.load (t := 28) b9 Try.underlying28 Try.info_gt) rfl) rfl ?_
      exact ⟨by rw [← F13.out, ← F12.out, ← F11.out]; rfl, grown_far g0 g9 (fun q e => by cases e; exact Nat.le_refl _)⟩
    · have hE : stE (x : Int) = 8 := by unfold stE; rw [kwB_t ⟨k0, k1⟩, if_pos rfl, Int.toNat_natCast, if_neg hf]
      obtain ⟨e1, e2, e3⟩ := st_no (z := (x : Int)) (by rw [hE]; decide)
      rw [e1, e2, e3, e3, e3, hE]
      obtain ⟨M, hM⟩ : ∃ M, M = x / 16384 * 16384 + x / 256 % 2 * 256 := ⟨_, rfl⟩
      rw [← hM] at hN
      have hne : (((M : Int) != 16777216) : Bool) = true := by simp; omega
      clear hM hf e1 e2 e3 hE
      go_enter Try.func29, Try.ntmps29
      go_wp2_with (first
        | (go_at_call 25; have _t := t1; clear t1; refine (h0 _).mono ?_; rintro e wx ⟨rfl, hw⟩; have hw := hw.symm; subst hw)
        | (have _t := t2; refine wpList_stX _ rfl _ (.tmp 2) (.tmp 11) rfl w.heap.size _ _ rfl rfl B2 i7 rfl (by simp [Value.oneCell']) ?_; clear t2; intro w9 b9 g9))
      refine bodyPost_ret (results_cell1t rfl _ _ _ ⟨w.heap.size, 0, none⟩ _ (.int .i64 8) rfl (BxS.load (t := 28) b9 Try.underlying28 Try.info_gt) rfl) rfl ?_
      exact ⟨rfl, grown_far g0 g9 (fun q e => by cases e; exact Nat.le_refl _)⟩
  · rw [kwB_f hk] at h0
    have hE : stE z = 2 := by unfold stE; rw [kwB_f hk, if_neg (by decide)]
    obtain ⟨e1, e2, e3⟩ := st_no (z := z) (by rw [hE]; decide)
    rw [e1, e2, e3, e3, e3, hE]
    clear hk
    go_enter Try.func29, Try.ntmps29
    go_wp2_with (first
      | (go_at_call 25; have _t := t1; clear t1; refine (h0 _).mono ?_; rintro e wx ⟨rfl, hw⟩; have hw := hw.symm; subst hw)
      | (have _t := t2; refine wpList_stX _ rfl _ (.tmp 2) (.tmp 7) rfl w.heap.size _ _ rfl rfl B2 i7 rfl (by simp [Value.oneCell']) ?_; clear t2; intro w9 b9 g9))
    refine bodyPost_ret (results_cell1t rfl _ _ _ ⟨w.heap.size, 0, none⟩ _ (.int .i64 2) rfl (BxS.load (t := 28) b9 Try.underlying28 Try.info_gt) rfl) rfl ?_
    exact ⟨rfl, grown_far g0 g9 (fun q e => by cases e; exact Nat.le_refl _)⟩
end
end Go.Proofs.Ytlfacjpehhcdiaa
