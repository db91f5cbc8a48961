import Derived.Test.YtnnoeeakkpaocaaKAs
namespace Go.Proofs.Ytnnoeeakkpaocaa
open Go.RowKit
set_option maxRecDepth 100000
set_option linter.unusedVariables false
set_option linter.unusedSimpArgs false
/-- a variable that holds bytes, as they are read -/
def VrB (g : Nat) (a : Option Addr) (n c : Nat) (D : List Nat) (w : World) : Prop := BxS w g 22 #[.slice a n c] ∧ Rd w a n c D
theorem VrB.keep {g : Nat} {a : Option Addr} {n c : Nat} {D : List Nat} (x y : World) (h : VrB g a n c D x) (hg : x.grownBy y none) : VrB g a n c D y := ⟨h.1.keep hg (by simp), h.2.keep hg⟩
theorem apart_ask_all (gd : Nat) (a : Option Addr) (n c : Nat) (D : List Nat) (d : Hd) (X : Hx) (w : World) (hv : VrB gd a n c D w) (h : RdHd w X d) :
    Calls Try.prog 67 #[.agg #[.int .i64 d.cr, .int .i64 d.nx, .int .i64 d.ah, .slice X.sa X.sn X.sc, .slice X.qa X.qn X.qc, .int .i64 d.ti, .int .i64 d.pa, .int .i64 d.tr, .int .i64 d.li, .int .i64 d.si, .int .i64 d.pu, .int .i64 d.hl], .func (.func 68) #[] #[.pointer (some ⟨gd, 0, none⟩)]] w fun e w' => ∃ (P1 : Hx) (rs1 qs1 : List Rw) (xa : Option Addr) (xn xc : Nat), e = .returned (.tuple #[.agg #[.int .i64 (asV d D).cr, .int .i64 (asV d D).nx, .int .i64 (asV d D).ah, .slice P1.sa P1.sn P1.sc, .slice P1.qa P1.qn P1.qc, .int .i64 (asV d D).ti, .int .i64 (asV d D).pa, .int .i64 (asV d D).tr, .int .i64 (asV d D).li, .int .i64 (asV d D).si, .int .i64 (asV d D).pu, .int .i64 (asV d D).hl], .slice xa xn xc, .int .i64 (asE d D : Int)]) ∧ OwHd w' w.heap.size P1 rs1 qs1 (asV d D) ∧ w.grownBy w' none := by
  cases hB : hndB d with
  | false =>
    obtain ⟨F, hF1, hF2⟩ := h.s.ex
    obtain ⟨K, hK1, hK2⟩ := h.q.ex
    have hq := hnd_of hF1 hF2 hK1 hK2 h.s.len h.q.len
    rw [hB] at hq
    have e1 : asV d D = hd0 := if_neg (by rw [hB]; simp)
    have e2 : asE d D = 11 := if_neg (by rw [hB]; simp)
    rw [e1, e2]
    refine (apart_bad _ d.cr d.nx d.ah X.sa X.sn X.sc F X.qa X.qn X.qc K d.ti d.pa d.tr d.li d.si d.pu d.hl w hF1 hK1 hq).mono ?_
    rintro e w' ⟨rfl, hg⟩
    exact ⟨hx0, [], [], none, 0, 0, rfl, owHd_nil _ _, hg⟩
  | true =>
    have e1 : asV d D = axV d D := if_pos hB
    have e2 : asE d D = axE d D := if_pos hB
    rw [e1, e2]
    obtain ⟨_, n1, n2, _, _, _, _⟩ := hnd_ok hB
    refine (apart_ask gd d (axV d D) [] (axE d D) X w (VrB gd a n c D) (fun x y hx hg => hx.keep x y hg) hv hB h (fun lo wz g Z rs qs hi hlo hb hO => ask1_any gd a n c D d lo wz g Z rs qs hi.1 hi.2 hlo hb hO (by omega))).mono ?_
    rintro e w' ⟨P1, rs1, qs1, xa, xn, xc, us1, rfl, h1, _, _, hg⟩
    exact ⟨P1, rs1, qs1, xa, xn, xc, rfl, h1, hg⟩
set_option maxHeartbeats 32000000 in
theorem ask2_any (X : Hx) (d : Hd) (a : Option Addr) (n c : Nat) (D : List Nat) (w : World) (h : RdHd w X d) (hR : Rd w a n c D) :
    Calls Try.prog 35 #[.agg #[.int .i64 d.cr, .int .i64 d.nx, .int .i64 d.ah, .slice X.sa X.sn X.sc, .slice X.qa X.qn X.qc, .int .i64 d.ti, .int .i64 d.pa, .int .i64 d.tr, .int .i64 d.li, .int .i64 d.si, .int .i64 d.pu, .int .i64 d.hl], .slice a n c] w fun e w' => ∃ (P1 : Hx) (rs1 qs1 : List Rw), e = .returned (.tuple #[.agg #[.int .i64 (asV d D).cr, .int .i64 (asV d D).nx, .int .i64 (asV d D).ah, .slice P1.sa P1.sn P1.sc, .slice P1.qa P1.qn P1.qc, .int .i64 (asV d D).ti, .int .i64 (asV d D).pa, .int .i64 (asV d D).tr, .int .i64 (asV d D).li, .int .i64 (asV d D).si, .int .i64 (asV d D).pu, .int .i64 (asV d D).hl], .int .i64 (asE d D : Int)]) ∧ OwHd w' w.heap.size P1 rs1 qs1 (asV d D) ∧ w.grownBy w' none := by
  have b0 := BxS.new w 50 #[.int .i64 d.cr, .int .i64 d.nx, .int .i64 d.ah, .slice X.sa X.sn X.sc, .slice X.qa X.qn X.qc, .int .i64 d.ti, .int .i64 d.pa, .int .i64 d.tr, .int .i64 d.li, .int .i64 d.si, .int .i64 d.pu, .int .i64 d.hl]
  have g0 := World.grownBy_alloc w (.cells #[.int .i64 d.cr, .int .i64 d.nx, .int .i64 d.ah, .slice X.sa X.sn X.sc, .slice X.qa X.qn X.qc, .int .i64 d.ti, .int .i64 d.pa, .int .i64 d.tr, .int .i64 d.li, .int .i64 d.si, .int .i64 d.pu, .int .i64 d.hl] 50) none
  generalize hw0 : w.alloc (.cells #[.int .i64 d.cr, .int .i64 d.nx, .int .i64 d.ah, .slice X.sa X.sn X.sc, .slice X.qa X.qn X.qc, .int .i64 d.ti, .int .i64 d.pa, .int .i64 d.tr, .int .i64 d.li, .int .i64 d.si, .int .i64 d.pu, .int .i64 d.hl] 50) = w0 at b0 g0
  have hz0 : w0.heap.size = w.heap.size + 1 := by rw [← hw0]; simp
  have b1 := BxS.new w0 22 #[.slice a n c]
  have g1 := World.grownBy_alloc w0 (.cells #[.slice a n c] 22) none
  generalize hw1 : w0.alloc (.cells #[.slice a n c] 22) = w1 at b1 g1
  have hz1 : w1.heap.size = w.heap.size + 1 + 1 := by rw [← hw1]; simp [hz0]
  rw [hz0] at b1
  have b2 := BxS.new w1 50 #[.int .i64 0, .int .i64 0, .int .i64 0, .slice none 0 0, .slice none 0 0, .int .i64 0, .int .i64 0, .int .i64 0, .int .i64 0, .int .i64 0, .int .i64 0, .int .i64 0]
  have g2 := World.grownBy_alloc w1 (.cells #[.int .i64 0, .int .i64 0, .int .i64 0, .slice none 0 0, .slice none 0 0, .int .i64 0, .int .i64 0, .int .i64 0, .int .i64 0, .int .i64 0, .int .i64 0, .int .i64 0] 50) none
  generalize hw2 : w1.alloc (.cells #[.int .i64 0, .int .i64 0, .int .i64 0, .slice none 0 0, .slice none 0 0, .int .i64 0, .int .i64 0, .int .i64 0, .int .i64 0, .int .i64 0, .int .i64 0, .int .i64 0] 50) = w2 at b2 g2
  rw [hz1] at b2
  have sz2 : w.heap.size + 3 ≤ w2.heap.size := by rw [← hw2]; simp [hz1]
  have p0 := (b0.keep g1 (by simp)).keep g2 (by simp)
  have p1 := b1.keep g2 (by simp)
  have G2 := grown_trans (grown_trans g0 g1) g2
  have kA := apart_ask_all (w.heap.size + 1) a n c D d X w2 ⟨p1, hR.keep G2⟩ (h.keep G2)
  generalize asV d D = W at *
  generalize asE d D = Er at *
  have i12 := Try.info_hn3
  obtain ⟨c0, c1, c2, c3, c4, c5, c6, c7, c8, c9, c10, c11⟩ := p0.cell12
  have s0 : True := trivial
  go_enter Try.func35, Try.ntmps35
  go_wp2_with (first
    | (go_at_call 67; have _t := s0; clear s0; refine kA.mono ?_; rintro e w3 ⟨P1, rs1, qs1, xa, xn, xc, rfl, h3, y3⟩; have p0 := p0.keep y3 (by simp); have p2 := b2.keep y3 (by simp); clear c0 c1 c2 c3 c4 c5 c6 c7 c8 c9 c10 c11; have s1 : True := trivial)
    | (have _t := s1; clear s1; refine wpList_stX _ rfl _ (.tmp 2) (.tmp 12) rfl w.heap.size _ _ rfl rfl p0 i12 rfl (by simp [Value.oneCell']) ?_; intro w4 p4 u4; obtain ⟨c0, c1, c2, c3, c4, c5, c6, c7, c8, c9, c10, c11⟩ := p4.cell12; have p24 := p2.keep u4 (fun e => by have := Option.some.inj e; omega); have s2 : True := trivial)
    | (have _t := s2; clear s2; refine wpList_stX _ rfl _ (.tmp 4) (.tmp 15) rfl (w.heap.size + 1 + 1) _ _ rfl rfl p24 i12 rfl (by simp [Value.oneCell']) ?_; intro w9 b9 g9))
  refine bodyPost_ret (results_cell1t rfl _ _ _ ⟨w.heap.size + 1 + 1, 0, none⟩ _ (.int .i64 (Er : Int)) rfl (BxS.load (t := 50) b9 Try.underlying50 i12) rfl) rfl ?_
  have h4 := h3.fz (fz_of2 u4) (fun x hx e => by have := h3.lo' x hx; have e := Option.some.inj e; omega)
  have h9 := h4.fz (fz_of2 g9) (fun x hx e => by have := h3.lo' x hx; have e := Option.some.inj e; omega)
  exact ⟨P1, rs1, qs1, rfl, ⟨h9.s.wide (by omega), h9.q.wide (by omega), h9.ap⟩, grown_far (grown_far (grown_trans G2 y3) u4 (fun q e => by have e := Option.some.inj e; omega)) g9 (fun q e => by have e := Option.some.inj e; omega)⟩
set_option maxHeartbeats 32000000 in
theorem asks1_any (gd : Nat) (a : Option Addr) (n c : Nat) (D : List Nat) (d : Hd) (X : Hx) (w : World) (hv : VrB gd a n c D w) (h : RdHd w X d) :
    Calls Try.prog 34 #[.agg #[.int .i64 d.cr, .int .i64 d.nx, .int .i64 d.ah, .slice X.sa X.sn X.sc, .slice X.qa X.qn X.qc, .int .i64 d.ti, .int .i64 d.pa, .int .i64 d.tr, .int .i64 d.li, .int .i64 d.si, .int .i64 d.pu, .int .i64 d.hl], .pointer (some ⟨gd, 0, none⟩)] w fun e w' => ∃ (P1 : Hx) (rs1 qs1 : List Rw) (xa : Option Addr) (xn xc : Nat) (us1 : List Rw), e = .returned (.tuple #[.agg #[.int .i64 (asV d D).cr, .int .i64 (asV d D).nx, .int .i64 (asV d D).ah, .slice P1.sa P1.sn P1.sc, .slice P1.qa P1.qn P1.qc, .int .i64 (asV d D).ti, .int .i64 (asV d D).pa, .int .i64 (asV d D).tr, .int .i64 (asV d D).li, .int .i64 (asV d D).si, .int .i64 (asV d D).pu, .int .i64 (asV d D).hl], .slice xa xn xc, .int .i64 (asE d D : Int)]) ∧ OwHd w' w.heap.size P1 rs1 qs1 (asV d D) ∧ OwW w' w.heap.size xa xn xc us1 [] ∧ (∀ x, Ofr (.slice xa xn xc) us1 x → ¬ Hbl P1 rs1 qs1 x) ∧ w.grownBy w' none := by
  have b0 := BxS.new w 50 #[.int .i64 d.cr, .int .i64 d.nx, .int .i64 d.ah, .slice X.sa X.sn X.sc, .slice X.qa X.qn X.qc, .int .i64 d.ti, .int .i64 d.pa, .int .i64 d.tr, .int .i64 d.li, .int .i64 d.si, .int .i64 d.pu, .int .i64 d.hl]
  have g0 := World.grownBy_alloc w (.cells #[.int .i64 d.cr, .int .i64 d.nx, .int .i64 d.ah, .slice X.sa X.sn X.sc, .slice X.qa X.qn X.qc, .int .i64 d.ti, .int .i64 d.pa, .int .i64 d.tr, .int .i64 d.li, .int .i64 d.si, .int .i64 d.pu, .int .i64 d.hl] 50) none
  generalize hw0 : w.alloc (.cells #[.int .i64 d.cr, .int .i64 d.nx, .int .i64 d.ah, .slice X.sa X.sn X.sc, .slice X.qa X.qn X.qc, .int .i64 d.ti, .int .i64 d.pa, .int .i64 d.tr, .int .i64 d.li, .int .i64 d.si, .int .i64 d.pu, .int .i64 d.hl] 50) = w0 at b0 g0
  have hz0 : w0.heap.size = w.heap.size + 1 := by rw [← hw0]; simp
  have b1 := BxS.new w0 50 #[.int .i64 0, .int .i64 0, .int .i64 0, .slice none 0 0, .slice none 0 0, .int .i64 0, .int .i64 0, .int .i64 0, .int .i64 0, .int .i64 0, .int .i64 0, .int .i64 0]
  have g1 := World.grownBy_alloc w0 (.cells #[.int .i64 0, .int .i64 0, .int .i64 0, .slice none 0 0, .slice none 0 0, .int .i64 0, .int .i64 0, .int .i64 0, .int .i64 0, .int .i64 0, .int .i64 0, .int .i64 0] 50) none
  generalize hw1 : w0.alloc (.cells #[.int .i64 0, .int .i64 0, .int .i64 0, .slice none 0 0, .slice none 0 0, .int .i64 0, .int .i64 0, .int .i64 0, .int .i64 0, .int .i64 0, .int .i64 0, .int .i64 0] 50) = w1 at b1 g1
  rw [hz0] at b1
  have sz1 : w.heap.size + 2 ≤ w1.heap.size := by rw [← hw1]; simp [hz0]
  have p0 := b0.keep g1 (by simp)
  have G1 := grown_trans g0 g1
  have hv1 := hv.keep w w1 G1
  have x0 : w1.cell? ⟨gd, 0, none⟩ = some (.slice a n c) := hv1.1.cell 0 (by show 0 < 1; decide)
  have kA := ask2_any X d a n c D w1 (h.keep G1) hv1.2
  generalize asV d D = W at *
  generalize asE d D = Er at *
  have i12 := Try.info_hn3
  obtain ⟨c0, c1, c2, c3, c4, c5, c6, c7, c8, c9, c10, c11⟩ := p0.cell12
  have s0 : True := trivial
  go_enter Try.func34, Try.ntmps34
  go_wp2_with (first
    | (go_at_call 35; have _t := s0; clear s0; refine kA.mono ?_; rintro e w3 ⟨P1, rs1, qs1, rfl, h3, y3⟩; have yA := World.grownBy_alloc w3 (.cells #[.int .i64 W.cr, .int .i64 W.nx, .int .i64 W.ah, .slice P1.sa P1.sn P1.sc, .slice P1.qa P1.qn P1.qc, .int .i64 W.ti, .int .i64 W.pa, .int .i64 W.tr, .int .i64 W.li, .int .i64 W.si, .int .i64 W.pu, .int .i64 W.hl] 50) none; have b6 := BxS.new w3 50 #[.int .i64 W.cr, .int .i64 W.nx, .int .i64 W.ah, .slice P1.sa P1.sn P1.sc, .slice P1.qa P1.qn P1.qc, .int .i64 W.ti, .int .i64 W.pa, .int .i64 W.tr, .int .i64 W.li, .int .i64 W.si, .int .i64 W.pu, .int .i64 W.hl]; have Y3 := grown_trans y3 yA; have p1 := b1.keep Y3 (by simp); clear c0 c1 c2 c3 c4 c5 c6 c7 c8 c9 c10 c11; obtain ⟨c0, c1, c2, c3, c4, c5, c6, c7, c8, c9, c10, c11⟩ := b6.cell12; have s1 : True := trivial)
    | (have _t := s1; clear s1; refine wpList_stX _ rfl _ (.tmp 3) (.tmp 14) rfl (w.heap.size + 1) _ _ rfl rfl p1 i12 rfl (by simp [Value.oneCell']) ?_; intro w9 b9 g9))
  refine bodyPost_ret (results_cell3 rfl _ _ _ ⟨w.heap.size + 1, 0, none⟩ _ (.slice none 0 0) (.int .i64 (Er : Int)) rfl (BxS.load (t := 50) b9 Try.underlying50 i12) rfl rfl) rfl ?_
  have h9 := (h3.keep yA).fz (fz_of2 g9) (fun x hx e => by have := h3.lo' x hx; have e := Option.some.inj e; omega)
  exact ⟨P1, rs1, qs1, none, 0, 0, [], rfl, ⟨h9.s.wide (by omega), h9.q.wide (by omega), h9.ap⟩, OwW.nil _ _, (fun x hx => absurd hx (ofr_nil x)), grown_far (grown_trans G1 Y3) g9 (fun q e => by have e := Option.some.inj e; omega)⟩
end Go.Proofs.Ytnnoeeakkpaocaa
