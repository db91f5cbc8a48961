import Derived.Test.YtnnoeeakkpaocaaKHb
namespace Go.Proofs.Ytnnoeeakkpaocaa
open Go.RowKit
set_option maxRecDepth 100000
set_option linter.unusedVariables false
set_option linter.unusedSimpArgs false
set_option maxHeartbeats 64000000 in
theorem handAs_ask (gd : Nat) (d W : Hd) (R : List (List Nat)) (Er : Nat) (X Y : Hx) (ra : Option Addr) (rn rc : Nat) (w : World) (I : World → Prop) (hI : ∀ a b, I a → a.grownBy b none → I b) (hI0 : I w)
    (hC : ∀ (wz : World) (Z : Hx), I wz → RdHd wz Z d → Calls Try.prog 34 #[.agg #[.int .i64 d.cr, .int .i64 d.nx, .int .i64 d.ah, .slice Z.sa Z.sn Z.sc, .slice Z.qa Z.qn Z.qc, .int .i64 d.ti, .int .i64 d.pa, .int .i64 d.tr, .int .i64 d.li, .int .i64 d.si, .int .i64 d.pu, .int .i64 d.hl], .pointer (some ⟨gd, 0, none⟩)] wz fun e w' => ∃ (P1 : Hx) (rs1 qs1 : List Rw) (xa : Option Addr) (xn xc : Nat) (us1 : List Rw), e = .returned (.tuple #[.agg #[.int .i64 W.cr, .int .i64 W.nx, .int .i64 W.ah, .slice P1.sa P1.sn P1.sc, .slice P1.qa P1.qn P1.qc, .int .i64 W.ti, .int .i64 W.pa, .int .i64 W.tr, .int .i64 W.li, .int .i64 W.si, .int .i64 W.pu, .int .i64 W.hl], .slice xa xn xc, .int .i64 (Er : Int)]) ∧ OwHd w' wz.heap.size P1 rs1 qs1 W ∧ OwW w' wz.heap.size xa xn xc us1 R ∧ (∀ x, Ofr (.slice xa xn xc) us1 x → ¬ Hbl P1 rs1 qs1 x) ∧ wz.grownBy w' none)
    (hd : RdHd w X d) (hw : RdHd w Y W) (hr : RdW w ra rn rc R)
    (fd : (Fit 140737488351232 d.S ∧ d.S.length * 24 ≤ 140737488351232) ∧ (Fit 140737488351232 d.Q ∧ d.Q.length * 24 ≤ 140737488351232)) (fW : (Fit 140737488351232 W.S ∧ W.S.length * 24 ≤ 140737488351232) ∧ (Fit 140737488351232 W.Q ∧ W.Q.length * 24 ≤ 140737488351232)) (fR : Fit 140737488351232 R ∧ R.length * 24 ≤ 140737488351232) :
    Calls Try.prog 36 #[.func (.func 34) #[] #[.pointer (some ⟨gd, 0, none⟩)], .agg #[.int .i64 d.cr, .int .i64 d.nx, .int .i64 d.ah, .slice X.sa X.sn X.sc, .slice X.qa X.qn X.qc, .int .i64 d.ti, .int .i64 d.pa, .int .i64 d.tr, .int .i64 d.li, .int .i64 d.si, .int .i64 d.pu, .int .i64 d.hl], .agg #[.int .i64 W.cr, .int .i64 W.nx, .int .i64 W.ah, .slice Y.sa Y.sn Y.sc, .slice Y.qa Y.qn Y.qc, .int .i64 W.ti, .int .i64 W.pa, .int .i64 W.tr, .int .i64 W.li, .int .i64 W.si, .int .i64 W.pu, .int .i64 W.hl], .slice ra rn rc, .int .i64 (Er : Int)] w fun e w' => e = .returned (.bool true) ∧ w.grownBy w' none := by
  have b0 := BxS.new w 50 #[.int .i64 d.cr, .int .i64 d.nx, .int .i64 d.ah, .slice X.sa X.sn X.sc, .slice X.qa X.qn X.qc, .int .i64 d.ti, .int .i64 d.pa, .int .i64 d.tr, .int .i64 d.li, .int .i64 d.si, .int .i64 d.pu, .int .i64 d.hl]
  have g0 := World.grownBy_alloc w (.cells #[.int .i64 d.cr, .int .i64 d.nx, .int .i64 d.ah, .slice X.sa X.sn X.sc, .slice X.qa X.qn X.qc, .int .i64 d.ti, .int .i64 d.pa, .int .i64 d.tr, .int .i64 d.li, .int .i64 d.si, .int .i64 d.pu, .int .i64 d.hl] 50) none
  generalize hw0 : w.alloc (.cells #[.int .i64 d.cr, .int .i64 d.nx, .int .i64 d.ah, .slice X.sa X.sn X.sc, .slice X.qa X.qn X.qc, .int .i64 d.ti, .int .i64 d.pa, .int .i64 d.tr, .int .i64 d.li, .int .i64 d.si, .int .i64 d.pu, .int .i64 d.hl] 50) = w0 at b0 g0
  have hz0 : w0.heap.size = w.heap.size + 1 := by rw [← hw0]; simp
  have b1 := BxS.new w0 50 #[.int .i64 W.cr, .int .i64 W.nx, .int .i64 W.ah, .slice Y.sa Y.sn Y.sc, .slice Y.qa Y.qn Y.qc, .int .i64 W.ti, .int .i64 W.pa, .int .i64 W.tr, .int .i64 W.li, .int .i64 W.si, .int .i64 W.pu, .int .i64 W.hl]
  have g1 := World.grownBy_alloc w0 (.cells #[.int .i64 W.cr, .int .i64 W.nx, .int .i64 W.ah, .slice Y.sa Y.sn Y.sc, .slice Y.qa Y.qn Y.qc, .int .i64 W.ti, .int .i64 W.pa, .int .i64 W.tr, .int .i64 W.li, .int .i64 W.si, .int .i64 W.pu, .int .i64 W.hl] 50) none
  generalize hw1 : w0.alloc (.cells #[.int .i64 W.cr, .int .i64 W.nx, .int .i64 W.ah, .slice Y.sa Y.sn Y.sc, .slice Y.qa Y.qn Y.qc, .int .i64 W.ti, .int .i64 W.pa, .int .i64 W.tr, .int .i64 W.li, .int .i64 W.si, .int .i64 W.pu, .int .i64 W.hl] 50) = w1 at b1 g1
  rw [hz0] at b1
  have p0 := b0.keep g1 (by simp)
  have G1 := grown_trans g0 g1
  have lX1 := hd.s.len
  have lX2 := hd.q.len
  have kH := fun wz (h : RdHd wz X d) => handOf2_any X d wz h fd.1.1 (by omega) fd.2.1 (by omega)
  unfold hnV at kH
  obtain ⟨c0, c1, c2, c3, c4, c5, c6, c7, c8, c9, c10, c11⟩ := p0.cell12
  go_enter Try.func36, Try.ntmps36
  go_upto_region 1 with fail
  go_cut [11] from 21 to 22 (fun s11 wy => ∃ (K : Hx) (rs qs : List Rw) (g11 : Nat), s11 = .pointer (some ⟨g11, 0, none⟩) ∧ BxS wy g11 50 #[.int .i64 d.cr, .int .i64 d.nx, .int .i64 d.ah, .slice K.sa K.sn K.sc, .slice K.qa K.qn K.qc, .int .i64 d.ti, .int .i64 d.pa, .int .i64 d.tr, .int .i64 d.li, .int .i64 d.si, .int .i64 d.pu, .int .i64 d.hl] ∧ OwHd wy w1.heap.size K rs qs d ∧ w1.grownBy wy none)
  case first =>
    go_wp2_with (go_at_call 37; refine (kH _ (hd.keep G1)).mono ?_; rintro e w2 ⟨K, rs, qs, rfl, hk, y2⟩)
    have yA := World.grownBy_alloc w2 (.cells #[.int .i64 d.cr, .int .i64 d.nx, .int .i64 d.ah, .slice K.sa K.sn K.sc, .slice K.qa K.qn K.qc, .int .i64 d.ti, .int .i64 d.pa, .int .i64 d.tr, .int .i64 d.li, .int .i64 d.si, .int .i64 d.pu, .int .i64 d.hl] 50) none
    go_meet
    exact ⟨K, rs, qs, _, rfl, BxS.new w2 50 #[.int .i64 d.cr, .int .i64 d.nx, .int .i64 d.ah, .slice K.sa K.sn K.sc, .slice K.qa K.qn K.qc, .int .i64 d.ti, .int .i64 d.pa, .int .i64 d.tr, .int .i64 d.li, .int .i64 d.si, .int .i64 d.pu, .int .i64 d.hl], hk.keep yA, grown_trans y2 yA⟩
  case rest =>
  obtain ⟨K, rs, qs, g11, e1, b11, hk, ya⟩ := hcut
  subst e1
  generalize wc = wa at *
  apply_assumption
  clear c0 c1 c2 c3 c4 c5 c6 c7 c8 c9 c10 c11
  obtain ⟨c0, c1, c2, c3, c4, c5, c6, c7, c8, c9, c10, c11⟩ := b11.cell12
  go_upto_region 2 with fail
  go_cut [12, 13, 14] from 23 to 29 (fun s12 s13 s14 wy => ∃ (P1 : Hx) (rs1 qs1 : List Rw) (xa : Option Addr) (xn xc : Nat) (us1 : List Rw) (g12 : Nat), s12 = .pointer (some ⟨g12, 0, none⟩) ∧ s13 = .slice xa xn xc ∧ s14 = .int .i64 (Er : Int) ∧ BxS wy g12 50 #[.int .i64 W.cr, .int .i64 W.nx, .int .i64 W.ah, .slice P1.sa P1.sn P1.sc, .slice P1.qa P1.qn P1.qc, .int .i64 W.ti, .int .i64 W.pa, .int .i64 W.tr, .int .i64 W.li, .int .i64 W.si, .int .i64 W.pu, .int .i64 W.hl] ∧ OwHd wy wa.heap.size P1 rs1 qs1 W ∧ OwW wy wa.heap.size xa xn xc us1 R ∧ (∀ x, Ofr (.slice xa xn xc) us1 x → ¬ Hbl P1 rs1 qs1 x) ∧ wa.grownBy wy none)
  case first =>
    go_wp2_with (go_at_call 34; refine (hC _ K (hI _ _ hI0 (grown_trans G1 ya)) hk.rd).mono ?_; rintro e w3 ⟨P1, rs1, qs1, xa, xn, xc, us1, rfl, ha, hx, hap, y3⟩)
    have yA := World.grownBy_alloc w3 (.cells #[.int .i64 W.cr, .int .i64 W.nx, .int .i64 W.ah, .slice P1.sa P1.sn P1.sc, .slice P1.qa P1.qn P1.qc, .int .i64 W.ti, .int .i64 W.pa, .int .i64 W.tr, .int .i64 W.li, .int .i64 W.si, .int .i64 W.pu, .int .i64 W.hl] 50) none
    go_meet
    exact ⟨P1, rs1, qs1, xa, xn, xc, us1, _, rfl, rfl, rfl, BxS.new w3 50 #[.int .i64 W.cr, .int .i64 W.nx, .int .i64 W.ah, .slice P1.sa P1.sn P1.sc, .slice P1.qa P1.qn P1.qc, .int .i64 W.ti, .int .i64 W.pa, .int .i64 W.tr, .int .i64 W.li, .int .i64 W.si, .int .i64 W.pu, .int .i64 W.hl], ha.keep yA, hx.keep yA, hap, grown_trans y3 yA⟩
  case rest =>
  obtain ⟨P1, rs1, qs1, xa, xn, xc, us1, g12, e1, e2, e3, b12, ha, hx, hap, yb⟩ := hcut
  subst e1
  subst e2
  subst e3
  generalize wc = wb at *
  apply_assumption
  clear c0 c1 c2 c3 c4 c5 c6 c7 c8 c9 c10 c11
  obtain ⟨c0, c1, c2, c3, c4, c5, c6, c7, c8, c9, c10, c11⟩ := (b11.keep yb (by simp)).cell12
  go_upto_region 3 with fail
  go_cut [15, 16, 17] from 30 to 36 (fun s12 s13 s14 wy => ∃ (P1 : Hx) (rs1 qs1 : List Rw) (xa : Option Addr) (xn xc : Nat) (us1 : List Rw) (g12 : Nat), s12 = .pointer (some ⟨g12, 0, none⟩) ∧ s13 = .slice xa xn xc ∧ s14 = .int .i64 (Er : Int) ∧ BxS wy g12 50 #[.int .i64 W.cr, .int .i64 W.nx, .int .i64 W.ah, .slice P1.sa P1.sn P1.sc, .slice P1.qa P1.qn P1.qc, .int .i64 W.ti, .int .i64 W.pa, .int .i64 W.tr, .int .i64 W.li, .int .i64 W.si, .int .i64 W.pu, .int .i64 W.hl] ∧ OwHd wy wb.heap.size P1 rs1 qs1 W ∧ OwW wy wb.heap.size xa xn xc us1 R ∧ wb.grownBy wy none)
  case first =>
    go_wp2_with (go_at_call 34; refine (hC _ K (hI _ _ hI0 (grown_trans (grown_trans G1 ya) yb)) (hk.rd.keep yb)).mono ?_; rintro e w3 ⟨P2, rs2, qs2, xa2, xn2, xc2, us2, rfl, ha2, hx2, hap2, y3⟩)
    have yA := World.grownBy_alloc w3 (.cells #[.int .i64 W.cr, .int .i64 W.nx, .int .i64 W.ah, .slice P2.sa P2.sn P2.sc, .slice P2.qa P2.qn P2.qc, .int .i64 W.ti, .int .i64 W.pa, .int .i64 W.tr, .int .i64 W.li, .int .i64 W.si, .int .i64 W.pu, .int .i64 W.hl] 50) none
    go_meet
    exact ⟨P2, rs2, qs2, xa2, xn2, xc2, us2, _, rfl, rfl, rfl, BxS.new w3 50 #[.int .i64 W.cr, .int .i64 W.nx, .int .i64 W.ah, .slice P2.sa P2.sn P2.sc, .slice P2.qa P2.qn P2.qc, .int .i64 W.ti, .int .i64 W.pa, .int .i64 W.tr, .int .i64 W.li, .int .i64 W.si, .int .i64 W.pu, .int .i64 W.hl], ha2.keep yA, hx2.keep yA, grown_trans y3 yA⟩
  case rest =>
  obtain ⟨P2, rs2, qs2, ya2, yn2, yc2, us2, g15, e1, e2, e3, b15, hb, hy, yc⟩ := hcut
  subst e1
  subst e2
  subst e3
  generalize wc = wd at *
  apply_assumption
  have Yb := grown_trans ya yb
  have Yc := grown_trans yb yc
  have YY := grown_trans ya Yc
  have lK1 := hk.s.len
  have lK2 := hk.q.len
  exact ha_t4 w wd d W R Er X Y K P1 P2 rs qs rs1 qs1 rs2 qs2 us1 us2 w.heap.size (w.heap.size + 1) g11 g12 g15 w1.heap.size wa.heap.size wb.heap.size ra xa ya2 rn rc xn xc yn2 yc2 (p0.keep YY (by simp)) (b1.keep YY (by simp)) (b11.keep Yc (by simp)) (b12.keep yc (by simp)) b15 (hd.keep (grown_trans G1 YY)) (hw.keep (grown_trans G1 YY)) (hr.keep (grown_trans G1 YY)) (hk.keep Yc) (ha.keep yc) (hx.keep yc) hap hb hy G1.size ya.size yb.size yc.size (fun x h => hk.hi x h) (fun x h => ha.hi x h) (fun x h => hx.hi x h) ⟨⟨fd.1.1, by omega⟩, ⟨fd.2.1, by omega⟩⟩ fW fR (grown_trans G1 YY)
end Go.Proofs.Ytnnoeeakkpaocaa
