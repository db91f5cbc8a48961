import Derived.Test.YtnnoeeakkpaocaaKRN
import Derived.Test.YtnnoeeakkpaocaaKTM
import Derived.Test.YtnnoeeakkpaocaaKHM
import Derived.Test.YtnnoeeakkpaocaaKHo
namespace Go.Proofs.Ytnnoeeakkpaocaa
open Go.RowKit
set_option maxRecDepth 100000
set_option linter.unusedVariables false
set_option linter.unusedSimpArgs false
open Go.ChangeShapes Go.WideShapes in
theorem shown_intK {w : World} {full : Bool} {n : Nat} {v : Value} (h : (Sh.int .i64).shown w full v n) : ∃ z, v = .int .i64 z := by
  obtain ⟨_, z, e, hz⟩ := h
  cases e
  exact ⟨z, rfl⟩
open Go.ChangeShapes Go.WideShapes in
theorem shown_boolK {w : World} {full : Bool} {n : Nat} {v : Value} (h : Sh.bool.shown w full v n) : ∃ b, v = .bool b := by
  obtain ⟨_, b, e⟩ := h
  cases e
  exact ⟨b, rfl⟩
theorem tkA_eq {d : Hd} (h : d.si ≤ d.pu) : tkA d = ⟨d.cr, d.nx, d.ah, d.ti, d.pa, d.tr, d.li, (if d.si < d.pu then d.si + 1 else d.si), d.pu, d.hl, d.S, d.Q⟩ := by
  unfold tkA
  rw [show (if d.pu < d.si + 1 then d.pu else d.si + 1) = (if d.si < d.pu then d.si + 1 else d.si) by split <;> split <;> omega]
set_option maxHeartbeats 64000000 in
/-- the document's StepOf -/
theorem rstep_any (X : Hx) (d : Hd) (z : Int) (b : Bool) (w : World) (h : RdHd w X d) :
    Calls Try.prog 38 #[.agg #[.int .i64 d.cr, .int .i64 d.nx, .int .i64 d.ah, .slice X.sa X.sn X.sc, .slice X.qa X.qn X.qc, .int .i64 d.ti, .int .i64 d.pa, .int .i64 d.tr, .int .i64 d.li, .int .i64 d.si, .int .i64 d.pu, .int .i64 d.hl], .int .i64 z, .bool b] w fun e w' => ∃ (P1 : Hx) (xa : Option Addr) (xn xc : Nat), e = .returned (.tuple #[.agg #[.int .i64 (spV d z b).cr, .int .i64 (spV d z b).nx, .int .i64 (spV d z b).ah, .slice P1.sa P1.sn P1.sc, .slice P1.qa P1.qn P1.qc, .int .i64 (spV d z b).ti, .int .i64 (spV d z b).pa, .int .i64 (spV d z b).tr, .int .i64 (spV d z b).li, .int .i64 (spV d z b).si, .int .i64 (spV d z b).pu, .int .i64 (spV d z b).hl], .slice xa xn xc, .int .i64 (spE d : Int)]) ∧ RdHd w' P1 (spV d z b) ∧ RdW w' xa xn xc (spR d z b) ∧ w.grownBy w' none := by
  obtain ⟨F, hF1, hF2⟩ := h.s.ex
  obtain ⟨K, hK1, hK2⟩ := h.q.ex
  have l1 := h.s.len
  have l2 := h.q.len
  have hq := hnd_of hF1 hF2 hK1 hK2 l1 l2
  have b0 := BxS.new w 50 #[.int .i64 d.cr, .int .i64 d.nx, .int .i64 d.ah, .slice X.sa X.sn X.sc, .slice X.qa X.qn X.qc, .int .i64 d.ti, .int .i64 d.pa, .int .i64 d.tr, .int .i64 d.li, .int .i64 d.si, .int .i64 d.pu, .int .i64 d.hl]
  have g0 := World.grownBy_alloc w (.cells #[.int .i64 d.cr, .int .i64 d.nx, .int .i64 d.ah, .slice X.sa X.sn X.sc, .slice X.qa X.qn X.qc, .int .i64 d.ti, .int .i64 d.pa, .int .i64 d.tr, .int .i64 d.li, .int .i64 d.si, .int .i64 d.pu, .int .i64 d.hl] 50) none
  generalize hw0 : w.alloc (.cells #[.int .i64 d.cr, .int .i64 d.nx, .int .i64 d.ah, .slice X.sa X.sn X.sc, .slice X.qa X.qn X.qc, .int .i64 d.ti, .int .i64 d.pa, .int .i64 d.tr, .int .i64 d.li, .int .i64 d.si, .int .i64 d.pu, .int .i64 d.hl] 50) = w0 at b0 g0
  have hz0 : w0.heap.size = w.heap.size + 1 := by rw [← hw0]; simp
  have b1 := BxS.new w0 50 #[.int .i64 0, .int .i64 0, .int .i64 0, .slice none 0 0, .slice none 0 0, .int .i64 0, .int .i64 0, .int .i64 0, .int .i64 0, .int .i64 0, .int .i64 0, .int .i64 0]
  have g1 := World.grownBy_alloc w0 (.cells #[.int .i64 0, .int .i64 0, .int .i64 0, .slice none 0 0, .slice none 0 0, .int .i64 0, .int .i64 0, .int .i64 0, .int .i64 0, .int .i64 0, .int .i64 0, .int .i64 0] 50) none
  generalize hw1 : w0.alloc (.cells #[.int .i64 0, .int .i64 0, .int .i64 0, .slice none 0 0, .slice none 0 0, .int .i64 0, .int .i64 0, .int .i64 0, .int .i64 0, .int .i64 0, .int .i64 0, .int .i64 0] 50) = w1 at b1 g1
  rw [hz0] at b1
  have p0 := b0.keep g1 (by simp)
  have G1 := grown_trans g0 g1
  have sz1 : w.heap.size + 2 ≤ w1.heap.size := by rw [← hw1]; simp [hz0]
  have hM := rhmay_any d.cr d.nx d.ah X.sa X.sn X.sc F X.qa X.qn X.qc K d.ti d.pa d.tr d.li d.si d.pu d.hl w1 (hF1.keep G1) (hK1.keep G1)
  unfold hnA at hM
  rw [hq] at hM
  have i12 := Try.info_hn3
  obtain ⟨c0, c1, c2, c3, c4, c5, c6, c7, c8, c9, c10, c11⟩ := p0.cell12
  have s0 : True := trivial
  cases hB : hndB d with
  | false =>
    rw [hB] at hM
    have e1 : spV d z b = hd0 := if_neg (by rw [hB]; simp)
    have e2 : spE d = 11 := if_neg (by rw [hB]; simp)
    have e3 : spR d z b = [] := if_neg (by rw [hB]; simp)
    clear hB hq
    rw [e1, e2, e3]
    clear e1 e2 e3
    go_enter Try.func38, Try.ntmps38
    go_wp2_with (first
      | (go_at_call 66; have _t := s0; clear s0; refine hM.mono ?_; rintro e w2 ⟨rfl, y2⟩; have sz2 := y2.size; have p0 := p0.keep y2 (by simp); have p1 := b1.keep y2 (by simp); clear c0 c1 c2 c3 c4 c5 c6 c7 c8 c9 c10 c11; obtain ⟨c0, c1, c2, c3, c4, c5, c6, c7, c8, c9, c10, c11⟩ := p0.cell12; have s1 : True := trivial)
      | (have _t := s1; clear s1; refine wpList_stX _ rfl _ (.tmp 6) (.tmp 19) rfl (w.heap.size + 1) _ _ rfl rfl p1 i12 rfl (by simp [Value.oneCell']) ?_; intro w9 b9 g9))
    refine bodyPost_ret (results_cell3 rfl _ _ _ ⟨w.heap.size + 1, 0, none⟩ _ (.slice none 0 0) (.int .i64 11) rfl (BxS.load (t := 50) b9 Try.underlying50 i12) rfl rfl) rfl ?_
    exact ⟨hx0, none, 0, 0, rfl, ⟨RdW.nil _, RdW.nil _⟩, RdW.nil _, grown_far (grown_trans G1 y2) g9 (fun q e => by have e := Option.some.inj e; omega)⟩
  | true =>
    rw [hB] at hM
    obtain ⟨_, n1, n2, f1, f2, _, _⟩ := hnd_ok hB
    obtain ⟨hk2, hs1, hs2, hs3⟩ := hk_of hB
    have hpa : 1 ≤ d.pa ∧ d.ti + 1 ≤ d.pa := by
      have hB2 := hB
      unfold hndB hnB cmB at hB2
      simp only [Bool.and_eq_true, decide_eq_true_eq] at hB2
      obtain ⟨⟨⟨⟨⟨⟨⟨⟨⟨⟨⟨h1, h2⟩, h3⟩, h4⟩, h5⟩, h6⟩, h7, h7'⟩, h8, h8'⟩, h9⟩, h10⟩, h11⟩, h12⟩ := hB2
      have a3 := kwB_ok h3
      have a9 := kwB_ok h9
      omega
    have kH := fun wz (h : RdHd wz X d) => handOf2_any X d wz h (fun r hr => by have := f1 r hr; omega) (by omega) (fun r hr => by have := f2 r hr; omega) (by omega)
    unfold hnV at kH
    have e1 : spV d z b = tsV d z b := if_pos hB
    have e2 : spE d = 0 := if_pos hB
    have e3 : spR d z b = tsR d z b := if_pos hB
    rw [e1, e2, e3, show ((0 : Nat) : Int) = 0 from rfl]
    clear hq hF1 hF2 hK1 hK2 hB e1 e2 e3
    by_cases hh : d.hl = 0
    · have e4 : tsV d z b = tkD d z b := if_pos hh
      have e5 : tsR d z b = tkU d z b := if_pos hh
      rw [e4, e5]
      have hh' : (d.hl != 0) = false := by rw [hh]; rfl
      have HH : Hid (d.hl = 0) := hh
      have HA : Hid (tkA d = ⟨d.cr, d.nx, d.ah, d.ti, d.pa, d.tr, d.li, (if d.si < d.pu then d.si + 1 else d.si), d.pu, d.hl, d.S, d.Q⟩) := tkA_eq hs2
      clear e4 e5 hh
      have kRd := fun wz => rread_any z wz
      unfold gtA at kRd
      have i7 := Try.info_gt
      have hwr : IntKind.i64.wrap (d.si + 1) = d.si + 1 := wrap_in _ (by omega) (by omega)
      go_enter Try.func38, Try.ntmps38
      by_cases hsp : d.si < d.pu
      · have HA2 : Hid (tkA d = ⟨d.cr, d.nx, d.ah, d.ti, d.pa, d.tr, d.li, (d.si + 1), d.pu, d.hl, d.S, d.Q⟩) := by show _ = _; rw [HA.out, if_pos hsp]
        clear HA
        go_upto_region 9 with (first
          | (go_at_call 66; have _t := s0; clear s0; refine hM.mono ?_; rintro e w2 ⟨rfl, y2⟩; have sz2 := y2.size; have p0 := p0.keep y2 (by simp); have p1 := b1.keep y2 (by simp); clear c0 c1 c2 c3 c4 c5 c6 c7 c8 c9 c10 c11; obtain ⟨c0, c1, c2, c3, c4, c5, c6, c7, c8, c9, c10, c11⟩ := p0.cell12; have s1 : True := trivial)
          | (go_at_call 37; have _t := s1; clear s1; refine (kH _ (h.keep (grown_trans G1 y2))).mono ?_; rintro e w3 ⟨Y, rs, qs, rfl, hk, y3⟩; have sz3 := y3.size; have p0 := p0.keep y3 (by simp); have p1 := p1.keep y3 (by simp); clear c0 c1 c2 c3 c4 c5 c6 c7 c8 c9 c10 c11; have s2 : True := trivial)
          | (have _t := s2; clear s2; refine wpList_stX _ rfl _ (.tmp 3) (.tmp 21) rfl w.heap.size _ _ rfl rfl p0 i12 rfl (by simp [Value.oneCell']) ?_; intro w4 p4 u4; obtain ⟨c0, c1, c2, c3, c4, c5, c6, c7, c8, c9, c10, c11⟩ := p4.cell12; have p14 := p1.keep u4 (fun e => by have := Option.some.inj e; omega); have hk4 := hk.fz (fz_of2 u4) (fun x hx e => by have := hk.lo' x hx; have e := Option.some.inj e; omega); have s3 : True := trivial)
          | (have _t := s3; clear s3; refine wpList_stC _ rfl _ _ _ rfl w.heap.size 9 50 _ #[.int .i64 d.cr, .int .i64 d.nx, .int .i64 d.ah, .slice Y.sa Y.sn Y.sc, .slice Y.qa Y.qn Y.qc, .int .i64 d.ti, .int .i64 d.pa, .int .i64 d.tr, .int .i64 d.li, .int .i64 (d.si + 1), .int .i64 d.pu, .int .i64 d.hl] (.int .i64 (d.si + 1)) rfl rfl p4 (stc_int _ _ _) (by show 9 < 12; decide) rfl ?_; intro w5 b5 u5; skip))
        have lo2 : w2.heap.size ≤ w4.heap.size := by have := u4.size; omega
        have hW4 := DW.of p4 (by omega) lo2 hk4
        have G4 := grown_far (grown_trans (grown_trans G1 y2) y3) u4 (fun q e => by have e := Option.some.inj e; omega)
        have hW5 := hW4.setI ⟨d.cr, d.nx, d.ah, d.ti, d.pa, d.tr, d.li, (d.si + 1), d.pu, d.hl, d.S, d.Q⟩ rfl rfl b5 u5
        have b65 := p14.keep u5 (fun e => by have := Option.some.inj e; omega)
        have G5 := grown_far G4 u5 (fun q e => by have e := Option.some.inj e; omega)
        clear c0 c1 c2 c3 c4 c5 c6 c7 c8 c9 c10 c11
        go_cut [11, 12] from 35 to 39 (fun s11 s12 wy => ∃ (gg : Nat), s11 = .pointer (some ⟨gg, 0, none⟩) ∧ s12 = .int .i64 (stE z : Int) ∧ BxS wy gg 38 #[.int .i64 0, .int .i64 (stN z : Int), .int .i64 0, .bool (stB z 13), .bool (stB z 12), .bool (stB z 11), .int .i64 (stC z : Int)] ∧ w5.grownBy wy none ∧ w5.heap.size ≤ gg)
        case first =>
          have s5 : True := trivial
          generalize stN z = N at *
          generalize stC z = C at *
          generalize stB z 13 = sh at *
          generalize stB z 12 = wt at *
          generalize stB z 11 = ag at *
          generalize stE z = E at *
          go_wp2_with (first
            | (go_at_call 26; have _t := s5; clear s5; refine (kRd _).mono ?_; rintro e w6 ⟨rfl, y6⟩; have bt0 := BxS.new w6 38 #[.int .i64 0, .int .i64 0, .int .i64 0, .bool false, .bool false, .bool false, .int .i64 0]; have gt0 := World.grownBy_alloc w6 (.cells #[.int .i64 0, .int .i64 0, .int .i64 0, .bool false, .bool false, .bool false, .int .i64 0] 38) none; have s6 : True := trivial)
            | (have _t := s6; clear s6; refine wpList_stX _ rfl _ (.tmp 11) (.tmp 38) rfl w6.heap.size _ _ rfl rfl bt0 i7 rfl (by simp [Value.oneCell']) ?_; intro w7 bt7 u7))
          go_meet
          have := y6.size
          exact ⟨w6.heap.size, rfl, rfl, bt7, grown_far (grown_trans y6 gt0) u7 (fun q e => by have e := Option.some.inj e; omega), by omega⟩
        case rest =>
        obtain ⟨gg, e11, e12, bg, y7, hgg⟩ := hcut
        subst e11
        subst e12
        generalize wc = w7 at *
        apply_assumption
        have hll := hW5.ll
        exact so_t10 w w7 w2.heap.size w.heap.size (w.heap.size + 1) gg d _ Y rs qs z b _ _ _ _ _ _ HA2.out rfl rfl rfl rfl rfl (hW5.keep y7) (b65.keep y7 (by simp)) bg ⟨by omega, by omega⟩ (by omega) (Nat.le_refl _) (grown_trans G5 y7) ⟨⟨hk2.cr, hk2.nx, hk2.ah, hk2.q, hk2.fS, hk2.fQ⟩, hk2.ti, hk2.tr⟩ HH.out hpa.2 hpa.1
      · have HA2 : Hid (tkA d = ⟨d.cr, d.nx, d.ah, d.ti, d.pa, d.tr, d.li, d.si, d.pu, d.hl, d.S, d.Q⟩) := by show _ = _; rw [HA.out, if_neg hsp]
        clear HA
        go_upto_region 9 with (first
          | (go_at_call 66; have _t := s0; clear s0; refine hM.mono ?_; rintro e w2 ⟨rfl, y2⟩; have sz2 := y2.size; have p0 := p0.keep y2 (by simp); have p1 := b1.keep y2 (by simp); clear c0 c1 c2 c3 c4 c5 c6 c7 c8 c9 c10 c11; obtain ⟨c0, c1, c2, c3, c4, c5, c6, c7, c8, c9, c10, c11⟩ := p0.cell12; have s1 : True := trivial)
          | (go_at_call 37; have _t := s1; clear s1; refine (kH _ (h.keep (grown_trans G1 y2))).mono ?_; rintro e w3 ⟨Y, rs, qs, rfl, hk, y3⟩; have sz3 := y3.size; have p0 := p0.keep y3 (by simp); have p1 := p1.keep y3 (by simp); clear c0 c1 c2 c3 c4 c5 c6 c7 c8 c9 c10 c11; have s2 : True := trivial)
          | (have _t := s2; clear s2; refine wpList_stX _ rfl _ (.tmp 3) (.tmp 21) rfl w.heap.size _ _ rfl rfl p0 i12 rfl (by simp [Value.oneCell']) ?_; intro w4 p4 u4; obtain ⟨c0, c1, c2, c3, c4, c5, c6, c7, c8, c9, c10, c11⟩ := p4.cell12; have p14 := p1.keep u4 (fun e => by have := Option.some.inj e; omega); have hk4 := hk.fz (fz_of2 u4) (fun x hx e => by have := hk.lo' x hx; have e := Option.some.inj e; omega); have s3 : True := trivial))
        have lo2 : w2.heap.size ≤ w4.heap.size := by have := u4.size; omega
        have hW4 := DW.of p4 (by omega) lo2 hk4
        have G4 := grown_far (grown_trans (grown_trans G1 y2) y3) u4 (fun q e => by have e := Option.some.inj e; omega)
        have hW5 := hW4
        have b65 := p14
        have G5 := G4
        generalize w4 = w5 at *
        clear c0 c1 c2 c3 c4 c5 c6 c7 c8 c9 c10 c11
        go_cut [11, 12] from 35 to 39 (fun s11 s12 wy => ∃ (gg : Nat), s11 = .pointer (some ⟨gg, 0, none⟩) ∧ s12 = .int .i64 (stE z : Int) ∧ BxS wy gg 38 #[.int .i64 0, .int .i64 (stN z : Int), .int .i64 0, .bool (stB z 13), .bool (stB z 12), .bool (stB z 11), .int .i64 (stC z : Int)] ∧ w5.grownBy wy none ∧ w5.heap.size ≤ gg)
        case first =>
          have s5 : True := trivial
          generalize stN z = N at *
          generalize stC z = C at *
          generalize stB z 13 = sh at *
          generalize stB z 12 = wt at *
          generalize stB z 11 = ag at *
          generalize stE z = E at *
          go_wp2_with (first
            | (go_at_call 26; have _t := s5; clear s5; refine (kRd _).mono ?_; rintro e w6 ⟨rfl, y6⟩; have bt0 := BxS.new w6 38 #[.int .i64 0, .int .i64 0, .int .i64 0, .bool false, .bool false, .bool false, .int .i64 0]; have gt0 := World.grownBy_alloc w6 (.cells #[.int .i64 0, .int .i64 0, .int .i64 0, .bool false, .bool false, .bool false, .int .i64 0] 38) none; have s6 : True := trivial)
            | (have _t := s6; clear s6; refine wpList_stX _ rfl _ (.tmp 11) (.tmp 38) rfl w6.heap.size _ _ rfl rfl bt0 i7 rfl (by simp [Value.oneCell']) ?_; intro w7 bt7 u7))
          go_meet
          have := y6.size
          exact ⟨w6.heap.size, rfl, rfl, bt7, grown_far (grown_trans y6 gt0) u7 (fun q e => by have e := Option.some.inj e; omega), by omega⟩
        case rest =>
        obtain ⟨gg, e11, e12, bg, y7, hgg⟩ := hcut
        subst e11
        subst e12
        generalize wc = w7 at *
        apply_assumption
        have hll := hW5.ll
        exact so_t10 w w7 w2.heap.size w.heap.size (w.heap.size + 1) gg d _ Y rs qs z b _ _ _ _ _ _ HA2.out rfl rfl rfl rfl rfl (hW5.keep y7) (b65.keep y7 (by simp)) bg ⟨by omega, by omega⟩ (by omega) (Nat.le_refl _) (grown_trans G5 y7) ⟨⟨hk2.cr, hk2.nx, hk2.ah, hk2.q, hk2.fS, hk2.fQ⟩, hk2.ti, hk2.tr⟩ HH.out hpa.2 hpa.1
    · have e4 : tsV d z b = d := if_neg hh
      have e5 : tsR d z b = [] := if_neg hh
      rw [e4, e5]
      have hh' : (d.hl != 0) = true := by simp; exact hh
      clear e4 e5
      go_enter Try.func38, Try.ntmps38
      go_wp2_with (first
        | (go_at_call 66; have _t := s0; clear s0; refine hM.mono ?_; rintro e w2 ⟨rfl, y2⟩; have sz2 := y2.size; have p0 := p0.keep y2 (by simp); have p1 := b1.keep y2 (by simp); clear c0 c1 c2 c3 c4 c5 c6 c7 c8 c9 c10 c11; obtain ⟨c0, c1, c2, c3, c4, c5, c6, c7, c8, c9, c10, c11⟩ := p0.cell12; have s1 : True := trivial)
        | (go_at_call 37; have _t := s1; clear s1; refine (kH _ (h.keep (grown_trans G1 y2))).mono ?_; rintro e w3 ⟨Y, rs, qs, rfl, hk, y3⟩; have sz3 := y3.size; have p0 := p0.keep y3 (by simp); have p1 := p1.keep y3 (by simp); clear c0 c1 c2 c3 c4 c5 c6 c7 c8 c9 c10 c11; have s2 : True := trivial)
        | (have _t := s2; clear s2; refine wpList_stX _ rfl _ (.tmp 3) (.tmp 21) rfl w.heap.size _ _ rfl rfl p0 i12 rfl (by simp [Value.oneCell']) ?_; intro w4 p4 u4; obtain ⟨c0, c1, c2, c3, c4, c5, c6, c7, c8, c9, c10, c11⟩ := p4.cell12; have p14 := p1.keep u4 (fun e => by have := Option.some.inj e; omega); have hk4 := hk.fz (fz_of2 u4) (fun x hx e => by have := hk.lo' x hx; have e := Option.some.inj e; omega); have s3 : True := trivial)
        | (have _t := s3; clear s3; refine wpList_stX _ rfl _ (.tmp 6) (.tmp 25) rfl (w.heap.size + 1) _ _ rfl rfl p14 i12 rfl (by simp [Value.oneCell']) ?_; intro w9 b9 g9))
      refine bodyPost_ret (results_cell3 rfl _ _ _ ⟨w.heap.size + 1, 0, none⟩ _ (.slice none 0 0) (.int .i64 0) rfl (BxS.load (t := 50) b9 Try.underlying50 i12) rfl rfl) rfl ?_
      have hk9 := hk4.fz (fz_of2 g9) (fun x hx e => by have := hk.lo' x hx; have := y2.size; have e := Option.some.inj e; omega)
      exact ⟨Y, none, 0, 0, rfl, hk9.rd, RdW.nil _, grown_far (grown_far (grown_trans (grown_trans G1 y2) y3) u4 (fun q e => by have e := Option.some.inj e; omega)) g9 (fun q e => by have e := Option.some.inj e; omega)⟩
/-- rows that are short enough -/
theorem upL_fit (cr : Nat) (q : Int) (R : List (List Nat)) (h : Fit 1017 R) : Fit 1024 (upL cr q R) := by
  induction R generalizing q with
  | nil => intro r hr; cases hr
  | cons a R ih =>
    intro r hr
    rcases List.mem_cons.1 hr with e | hr
    · rw [e, orL_len]
      have := h a (List.mem_cons_self ..)
      omega
    · exact ih (q + 1) (fun r hr => h r (List.mem_cons_of_mem _ hr)) r hr
/-- a hand's rows are among others -/
structure Am (d d' : Hd) : Prop where
  s : ∀ r, r ∈ d'.S → r ∈ d.S
  q : ∀ r, r ∈ d'.Q → r ∈ d.Q
  ls : d'.S.length ≤ d.S.length
  lq : d'.Q.length ≤ d.Q.length
theorem am_seD (d : Hd) (m : Nat) (sh : Bool) : Am d (seD d m sh) := by
  unfold seD
  split
  · exact ⟨fun _ h => h, fun _ h => h, Nat.le_refl _, Nat.le_refl _⟩
  · split
    · split
      · exact ⟨fun _ h => List.mem_of_mem_drop h, fun _ h => h, by show (d.S.drop m).length ≤ _; rw [List.length_drop]; omega, Nat.le_refl _⟩
      · exact ⟨fun _ h => List.mem_of_mem_drop h, fun _ h => h, by show (d.S.drop m).length ≤ _; rw [List.length_drop]; omega, Nat.le_refl _⟩
    · split
      · exact ⟨fun _ h => h, fun _ h => h, Nat.le_refl _, Nat.le_refl _⟩
      · exact ⟨fun _ h => h, fun _ h => h, Nat.le_refl _, Nat.le_refl _⟩
theorem am_saD (d : Hd) (wt ag : Bool) : Am d (saD d wt ag) := by
  unfold saD
  split
  · exact ⟨fun _ h => h, fun _ h => h, Nat.le_refl _, Nat.le_refl _⟩
  · split
    · exact ⟨fun _ h => h, fun _ h => h, Nat.le_refl _, Nat.le_refl _⟩
    · split
      · exact ⟨fun _ h => h, fun _ h => h, Nat.le_refl _, Nat.le_refl _⟩
      · exact ⟨fun _ h => h, fun _ h => h, Nat.le_refl _, Nat.le_refl _⟩
theorem Am.trans {a b c : Hd} (h : Am a b) (k : Am b c) : Am a c := ⟨fun r hr => h.s r (k.s r hr), fun r hr => h.q r (k.q r hr), Nat.le_trans k.ls h.ls, Nat.le_trans k.lq h.lq⟩
theorem am_tkB (d : Hd) (z : Int) (b : Bool) : Am d (tkB d z b) := by
  have h : Am d (tkA d) := ⟨fun _ h => h, fun _ h => h, Nat.le_refl _, Nat.le_refl _⟩
  unfold tkB
  split
  · exact h.trans (am_seD _ _ _)
  · exact h
theorem am_tkC (d : Hd) (z : Int) (b : Bool) : Am d (tkC d z b) := by
  unfold tkC
  split
  · exact (am_tkB d z b).trans (am_saD _ _ _)
  · exact am_tkB d z b
theorem saU_fit (d : Hd) (wt ag : Bool) (h : Fit 1017 d.S) : Fit 1024 (saU d wt ag) := by
  unfold saU
  split
  · intro r hr; cases hr
  · split
    · intro r hr; cases hr
    · split
      · intro r hr; cases hr
      · exact upL_fit _ _ _ h
theorem tk_fit {d : Hd} {z : Int} {b : Bool} (f1 : Fit 1017 d.S) (f2 : Fit 1017 d.Q) (n1 : d.S.length ≤ 127) (n2 : d.Q.length ≤ 100) : (Fit 1017 (tkD d z b).S ∧ (tkD d z b).S.length ≤ 300) ∧ (Fit 1017 (tkD d z b).Q ∧ (tkD d z b).Q.length ≤ 300) ∧ Fit 1024 (tkU d z b) ∧ (tkU d z b).length ≤ 300 := by
  have hb := am_tkB d z b
  have hc := am_tkC d z b
  have hcu : Fit 1024 (tkCU d z b) ∧ (tkCU d z b).length ≤ 127 := by
    unfold tkCU
    split
    · have := saU_len (tkB d z b) (tkG z b 12) (tkG z b 11)
      exact ⟨saU_fit _ _ _ (fun r hr => f1 r (hb.s r hr)), by have := hb.ls; omega⟩
    · exact ⟨(fun r hr => by cases hr), by decide⟩
  have fS : Fit 1017 (tkC d z b).S := fun r hr => f1 r (hc.s r hr)
  have fQ : Fit 1017 (tkC d z b).Q := fun r hr => f2 r (hc.q r hr)
  have l1 := hc.ls
  have l2 := hc.lq
  unfold tkD tkU
  split
  · refine ⟨⟨fun r hr => ?_, ?_⟩, ⟨fun r hr => fQ r (List.mem_of_mem_drop hr), ?_⟩, fun r hr => ?_, ?_⟩
    · rcases List.mem_append.1 hr with hr | hr
      · exact fS r hr
      · exact fQ r (List.mem_of_mem_take hr)
    · show ((tkC d z b).S ++ _).length ≤ _
      rw [List.length_append, List.length_take]; omega
    · show (List.drop _ _).length ≤ _
      rw [List.length_drop]; omega
    · rcases List.mem_append.1 hr with hr | hr
      · exact hcu.1 r hr
      · exact upL_fit _ _ _ (fun r hr => fQ r (List.mem_of_mem_take hr)) r hr
    · unfold snU
      rw [List.length_append, upL_len, List.length_take]; omega
  · refine ⟨⟨fS, by omega⟩, ⟨fQ, by omega⟩, fun r hr => ?_, ?_⟩
    · rw [List.append_nil] at hr; exact hcu.1 r hr
    · rw [List.append_nil]; omega
theorem sp_fit (d : Hd) (z : Int) (b : Bool) : ((Fit 140737488351232 (spV d z b).S ∧ (spV d z b).S.length * 24 ≤ 140737488351232) ∧ (Fit 140737488351232 (spV d z b).Q ∧ (spV d z b).Q.length * 24 ≤ 140737488351232)) ∧ (Fit 140737488351232 (spR d z b) ∧ (spR d z b).length * 24 ≤ 140737488351232) := by
  cases hB : hndB d with
  | false =>
    have e1 : spV d z b = hd0 := if_neg (by rw [hB]; simp)
    have e3 : spR d z b = [] := if_neg (by rw [hB]; simp)
    rw [e1, e3]
    exact ⟨⟨⟨(fun r h => by cases h), by decide⟩, ⟨(fun r h => by cases h), by decide⟩⟩, ⟨(fun r h => by cases h), by decide⟩⟩
  | true =>
    obtain ⟨_, n1, n2, f1, f2, _, _⟩ := hnd_ok hB
    have e1 : spV d z b = tsV d z b := if_pos hB
    have e3 : spR d z b = tsR d z b := if_pos hB
    rw [e1, e3]
    unfold tsV tsR
    split
    · obtain ⟨⟨a1, a2⟩, ⟨a3, a4⟩, a5, a6⟩ := tk_fit (z := z) (b := b) f1 f2 n1 n2
      exact ⟨⟨⟨fun r h => (by have := a1 r h; omega), by omega⟩, ⟨fun r h => (by have := a3 r h; omega), by omega⟩⟩, ⟨fun r h => (by have := a5 r h; omega), by omega⟩⟩
    · exact ⟨⟨⟨fun r h => (by have := f1 r h; omega), by omega⟩, ⟨fun r h => (by have := f2 r h; omega), by omega⟩⟩, ⟨(fun r h => by cases h), by decide⟩⟩
set_option maxHeartbeats 16000000 in
theorem steps_walk (X : Hx) (d : Hd) (z : Int) (b : Bool) (w : World) (h : RdHd w X d) (fd : (Fit 140737488351232 d.S ∧ X.sn * 24 ≤ 140737488351232) ∧ (Fit 140737488351232 d.Q ∧ X.qn * 24 ≤ 140737488351232)) :
    Calls Try.prog 9 #[.agg (hnV d X), .int .i64 z, .bool b] w fun e w' => e = .returned (.bool true) ∧ Below w.heap.size w w' := by
  have b0 := BxS.new w 50 #[.int .i64 d.cr, .int .i64 d.nx, .int .i64 d.ah, .slice X.sa X.sn X.sc, .slice X.qa X.qn X.qc, .int .i64 d.ti, .int .i64 d.pa, .int .i64 d.tr, .int .i64 d.li, .int .i64 d.si, .int .i64 d.pu, .int .i64 d.hl]
  have g0 := World.grownBy_alloc w (.cells #[.int .i64 d.cr, .int .i64 d.nx, .int .i64 d.ah, .slice X.sa X.sn X.sc, .slice X.qa X.qn X.qc, .int .i64 d.ti, .int .i64 d.pa, .int .i64 d.tr, .int .i64 d.li, .int .i64 d.si, .int .i64 d.pu, .int .i64 d.hl] 50) none
  generalize hw0 : w.alloc (.cells #[.int .i64 d.cr, .int .i64 d.nx, .int .i64 d.ah, .slice X.sa X.sn X.sc, .slice X.qa X.qn X.qc, .int .i64 d.ti, .int .i64 d.pa, .int .i64 d.tr, .int .i64 d.li, .int .i64 d.si, .int .i64 d.pu, .int .i64 d.hl] 50) = w0 at b0 g0
  have hz0 : w0.heap.size = w.heap.size + 1 := by rw [← hw0]; simp
  have b1 := BxS.new w0 3 #[.int .i64 z]
  have g1 := World.grownBy_alloc w0 (.cells #[.int .i64 z] 3) none
  generalize hw1 : w0.alloc (.cells #[.int .i64 z] 3) = w1 at b1 g1
  have hz1 : w1.heap.size = w.heap.size + 1 + 1 := by rw [← hw1]; simp [hz0]
  rw [hz0] at b1
  have b2 := BxS.new w1 4 #[.bool b]
  have g2 := World.grownBy_alloc w1 (.cells #[.bool b] 4) none
  generalize hw2 : w1.alloc (.cells #[.bool b] 4) = w2 at b2 g2
  rw [hz1] at b2
  have p0 := (b0.keep g1 (by simp)).keep g2 (by simp)
  have p1 := b1.keep g2 (by simp)
  have G2 := grown_trans (grown_trans g0 g1) g2
  have x1 : w2.cell? ⟨w.heap.size + 1, 0, none⟩ = some (.int .i64 z) := p1.cell 0 (by show 0 < 1; decide)
  have x2 : w2.cell? ⟨w.heap.size + 1 + 1, 0, none⟩ = some (.bool b) := b2.cell 0 (by show 0 < 1; decide)
  have hF := rstep_any X d z b w2 (h.keep G2)
  have hC := fun gs gh wz (Z : Hx) (hv : VrS gs gh z b wz) (hz : RdHd wz Z d) => steps1_any gs gh z b d Z wz hv hz
  obtain ⟨fW, fR⟩ := sp_fit d z b
  have l1 := h.s.len
  have l2 := h.q.len
  generalize spV d z b = W at *
  generalize spR d z b = R at *
  generalize spE d = Er at *
  have hA := fun gs gh Y ra rn rc wz hv hd hw hr => handAs_step gs gh d W R Er X Y ra rn rc wz (VrS gs gh z b) (fun x y hx hg => hx.keep x y hg) hv (fun wz Z hv hz => hC gs gh wz Z hv hz) hd hw hr ⟨⟨fd.1.1, by omega⟩, ⟨fd.2.1, by omega⟩⟩ fW fR
  clear hC
  unfold hnV
  obtain ⟨c0, c1, c2, c3, c4, c5, c6, c7, c8, c9, c10, c11⟩ := p0.cell12
  go_enter Try.func9, Try.ntmps9
  go_wp2_with (first
    | (go_at_call 38; refine hF.mono ?_; rintro e w3 ⟨Y, ra, rn, rc, rfl, hw, hr, y3⟩; have yA := World.grownBy_alloc w3 (.cells #[.int .i64 W.cr, .int .i64 W.nx, .int .i64 W.ah, .slice Y.sa Y.sn Y.sc, .slice Y.qa Y.qn Y.qc, .int .i64 W.ti, .int .i64 W.pa, .int .i64 W.tr, .int .i64 W.li, .int .i64 W.si, .int .i64 W.pu, .int .i64 W.hl] 50) none; have b3 := BxS.new w3 50 #[.int .i64 W.cr, .int .i64 W.nx, .int .i64 W.ah, .slice Y.sa Y.sn Y.sc, .slice Y.qa Y.qn Y.qc, .int .i64 W.ti, .int .i64 W.pa, .int .i64 W.tr, .int .i64 W.li, .int .i64 W.si, .int .i64 W.pu, .int .i64 W.hl]; have YA := grown_trans y3 yA; clear x1 x2; clear c0 c1 c2 c3 c4 c5 c6 c7 c8 c9 c10 c11; obtain ⟨c0, c1, c2, c3, c4, c5, c6, c7, c8, c9, c10, c11⟩ := (p0.keep YA (by simp)).cell12; obtain ⟨e0, e1, e2, e3, e4, e5, e6, e7, e8, e9, e10, e11⟩ := b3.cell12)
    | (go_at_call 36; refine (hA _ _ Y ra rn rc _ ⟨p1.keep YA (by simp), b2.keep YA (by simp)⟩ (h.keep (grown_trans G2 YA)) (hw.keep yA) (hr.keep yA)).mono ?_; rintro e w4 ⟨rfl, y4⟩))
  go_ret
  exact ⟨rfl, (Below.refl _ _).grown (grown_trans (grown_trans G2 YA) y4) (Nat.le_refl _) (fun k hk => by cases hk)⟩
end Go.Proofs.Ytnnoeeakkpaocaa
