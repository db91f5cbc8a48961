import Derived.Test.YtdpgblojdppfeaaQL
import Derived.Test.YtdpgblojdppfeaaQI
namespace Go.Proofs.Ytdpgblojdppfeaa
open Go.RowKit
set_option maxRecDepth 100000
set_option linter.unusedVariables false
set_option linter.unusedSimpArgs false
set_option maxHeartbeats 32000000 in
/-- the document's Added -/
theorem radd_any (a : Option Addr) (n c : Nat) (R : List Kd) (kk : Kw) (w : World) (h : RdG w a n c R) (hk : RdI w kk.a kk.n kk.c kk.W) (hbd : I64 kk.id ∧ I64 kk.tp ∧ I64 kk.sn) :
    Calls Try.prog 5 #[.agg #[.slice a n c], .agg #[.int .i64 kk.id, .slice kk.a kk.n kk.c, .int .i64 kk.tp, .int .i64 kk.sn]] w fun e w' => ∃ (a' : Option Addr) (n' c' : Nat), e = .returned (.tuple #[.agg #[.slice a' n' c'], .int .i64 (adE R kk.d : Int)]) ∧ RdG w' a' n' c' (adV R kk.d) ∧ w.grownBy w' none := by
  have hlR := h.len
  have b0 := BxS.new w 24 #[.slice a n c]
  have g0 := World.grownBy_alloc w (.cells #[.slice a n c] 24) none
  generalize hw0 : w.alloc (.cells #[.slice a n c] 24) = w0 at b0 g0
  have hz0 : w0.heap.size = w.heap.size + 1 := by rw [← hw0]; simp
  have b1 := BxS.new w0 27 #[.int .i64 kk.id, .slice kk.a kk.n kk.c, .int .i64 kk.tp, .int .i64 kk.sn]
  have g1 := World.grownBy_alloc w0 (.cells #[.int .i64 kk.id, .slice kk.a kk.n kk.c, .int .i64 kk.tp, .int .i64 kk.sn] 27) none
  generalize hw1 : w0.alloc (.cells #[.int .i64 kk.id, .slice kk.a kk.n kk.c, .int .i64 kk.tp, .int .i64 kk.sn] 27) = w1 at b1 g1
  have hz1 : w1.heap.size = w.heap.size + 2 := by rw [← hw1]; simp [hz0]
  rw [hz0] at b1
  have b2 := BxS.new w1 24 #[.slice none 0 0]
  have g2 := World.grownBy_alloc w1 (.cells #[.slice none 0 0] 24) none
  generalize hw2 : w1.alloc (.cells #[.slice none 0 0] 24) = w2 at b2 g2
  rw [hz1] at b2
  have sz2 : w.heap.size + 3 ≤ w2.heap.size := by rw [← hw2]; simp [hz1]
  have p0 := (b0.keep g1 (by simp)).keep g2 (by simp)
  have p1 := b1.keep g2 (by simp)
  have G2 := grown_trans (grown_trans g0 g1) g2
  have x0 : w2.cell? ⟨w.heap.size, 0, none⟩ = some (.slice a n c) := p0.cell 0 (by show 0 < 1; decide)
  obtain ⟨t0, t1, t2, t3⟩ := BxS.cell4 p1
  have i1 := Try.info_rg1
  have i4 := Try.info_ky4
  have s0 : True := trivial
  have kM := rringMay_any a n c R w2 (h.keep G2)
  cases hB : rmB R with
  | false =>
    have e2 : adE R kk.d = 11 := by unfold adE; rw [hB]; rfl
    have e1 : adV R kk.d = [] := by unfold adV; rw [hB]; rfl
    rw [hB] at kM
    rw [e1, e2]
    clear e1 e2
    go_enter Try.func5, Try.ntmps5
    go_wp2_with (first
      | (go_at_call 17; have _t := s0; clear s0; refine kM.mono ?_; rintro e w3 ⟨rfl, y3⟩; have q0 := p0.keep y3 (by simp); have q1 := p1.keep y3 (by simp); have q2 := b2.keep y3 (by simp); have z3 := y3.size; clear x0 t0 t1 t2 t3; have x0 : w3.cell? ⟨w.heap.size, 0, none⟩ = some (.slice a n c) := q0.cell 0 (by show 0 < 1; decide); obtain ⟨t0, t1, t2, t3⟩ := BxS.cell4 q1; have s1 : True := trivial)
      | (have _t := s1; clear s1; refine wpList_stX _ rfl _ (.tmp 4) (.tmp 10) rfl (w.heap.size + 2) _ _ rfl rfl q2 i1 rfl (by simp [Value.oneCell']) ?_; intro w9 b9 u9; skip))
    refine bodyPost_ret (results_cell1t rfl _ _ _ ⟨w.heap.size + 2, 0, none⟩ _ (.int .i64 11) rfl (BxS.load (t := 24) b9 Try.underlying24 i1) rfl) rfl ?_
    exact ⟨none, 0, 0, rfl, RdG.nil _, grown_far (grown_trans G2 y3) u9 (fun q e => by have e := Option.some.inj e; omega)⟩
  | true =>
    obtain ⟨hl8, hw8⟩ := rm_ok hB
    rw [hB] at kM
    have HRB : Hid (rmB R = true) := hB
    clear hB
    have kC := fun wz hz => ringOf_any a n c R wz hz (fun k hk => by rw [hw8 k hk]; decide) (by omega)
    have kK := fun wz hz => rkeyMay_any kk.id kk.a kk.n kk.c kk.tp kk.sn kk.W wz hz hbd.2.1 hbd.2.2
    have ekb : kmB kk.id kk.n kk.W kk.tp kk.sn = kdB kk.d := by unfold kdB; rw [← hk.len]; rfl
    simp only [ekb] at kK
    clear ekb
    cases hkb : kdB kk.d with
    | false =>
      have e2 : adE R kk.d = 6 := by unfold adE; rw [HRB.out, hkb]; rfl
      have e1 : adV R kk.d = R := by unfold adV; rw [HRB.out, e2]; rfl
      simp only [hkb] at kK
      rw [e1, e2]
      clear e1 e2
      go_enter Try.func5, Try.ntmps5
      go_wp2_with (first
        | (go_at_call 17; have _t := s0; clear s0; refine kM.mono ?_; rintro e w3 ⟨rfl, y3⟩; have q0 := p0.keep y3 (by simp); have q1 := p1.keep y3 (by simp); have q2 := b2.keep y3 (by simp); have z3 := y3.size; clear x0 t0 t1 t2 t3; have x0 : w3.cell? ⟨w.heap.size, 0, none⟩ = some (.slice a n c) := q0.cell 0 (by show 0 < 1; decide); obtain ⟨t0, t1, t2, t3⟩ := BxS.cell4 q1; have s1 : True := trivial)
        | (go_at_call 11; have _t := s1; clear s1; refine (kC _ (h.keep (grown_trans G2 y3))).mono ?_; rintro e w4 ⟨a3, c3, ks3, rfl, hO3, y4⟩; have q0 := q0.keep y4 (by simp); have q1 := q1.keep y4 (by simp); have q2 := q2.keep y4 (by simp); clear x0 t0 t1 t2 t3; have s2 : True := trivial)
        | (have _t := s2; clear s2; refine wpList_stX _ rfl _ (.tmp 2) (.tmp 12) rfl w.heap.size _ _ rfl rfl q0 i1 rfl (by simp [Value.oneCell']) ?_; intro w5 q0 u5; have q1 := q1.keep u5 (fun e => by have e := Option.some.inj e; omega); have q2 := q2.keep u5 (fun e => by have e := Option.some.inj e; omega); have hO5 := hO3.far u5 (by omega); have G5 := grown_far (grown_trans (grown_trans G2 y3) y4) u5 (fun q e => by have e := Option.some.inj e; omega); have x0 : w5.cell? ⟨w.heap.size, 0, none⟩ = some (.slice a3 n c3) := q0.cell 0 (by show 0 < 1; decide); obtain ⟨t0, t1, t2, t3⟩ := BxS.cell4 q1; have s3 : True := trivial)
        | (go_at_call 18; have _t := s3; clear s3; refine (kK _ (hk.keep G5)).mono ?_; rintro e w6 ⟨rfl, y6⟩; have q0 := q0.keep y6 (by simp); have q1 := q1.keep y6 (by simp); have q2 := q2.keep y6 (by simp); have hO6 := hO5.keep y6; have G6 := grown_trans G5 y6; clear x0 t0 t1 t2 t3; have x0 : w6.cell? ⟨w.heap.size, 0, none⟩ = some (.slice a3 n c3) := q0.cell 0 (by show 0 < 1; decide); obtain ⟨t0, t1, t2, t3⟩ := BxS.cell4 q1; have s4 : True := trivial)
        | (have _t := s4; clear s4; refine wpList_stX _ rfl _ (.tmp 4) (.tmp 16) rfl (w.heap.size + 2) _ _ rfl rfl q2 i1 rfl (by simp [Value.oneCell']) ?_; intro w9 b9 u9; skip))
      refine bodyPost_ret (results_cell1t rfl _ _ _ ⟨w.heap.size + 2, 0, none⟩ _ (.int .i64 6) rfl (BxS.load (t := 24) b9 Try.underlying24 i1) rfl) rfl ?_
      exact ⟨_, _, _, rfl, (hO6.far u9 (by omega)).rd, grown_far G6 u9 (fun q e => by have e := Option.some.inj e; omega)⟩
    | true =>
      simp only [hkb] at kK
      have hkn : kk.n ≤ 8 := by
        have h2 := hkb
        unfold kdB kmB at h2
        simp only [Bool.and_eq_true, beq_iff_eq] at h2
        have h3 := h2.1.1.2
        unfold wdE at h3
        by_cases h8 : kk.d.W.length = 8
        · rw [← hk.len]; exact Nat.le_of_eq h8
        · rw [if_neg h8] at h3; cases h3
      have HKB : Hid (kdB kk.d = true) := hkb
      clear hkb
      go_enter Try.func5, Try.ntmps5
      go_wp2_with (first
        | (go_at_call 17; have _t := s0; clear s0; refine kM.mono ?_; rintro e w3 ⟨rfl, y3⟩; have q0 := p0.keep y3 (by simp); have q1 := p1.keep y3 (by simp); have q2 := b2.keep y3 (by simp); have z3 := y3.size; clear x0 t0 t1 t2 t3; have x0 : w3.cell? ⟨w.heap.size, 0, none⟩ = some (.slice a n c) := q0.cell 0 (by show 0 < 1; decide); obtain ⟨t0, t1, t2, t3⟩ := BxS.cell4 q1; have s1 : True := trivial)
        | (go_at_call 11; have _t := s1; clear s1; refine (kC _ (h.keep (grown_trans G2 y3))).mono ?_; rintro e w4 ⟨a3, c3, ks3, rfl, hO3, y4⟩; have q0 := q0.keep y4 (by simp); have q1 := q1.keep y4 (by simp); have q2 := q2.keep y4 (by simp); clear x0 t0 t1 t2 t3; have s2 : True := trivial)
        | (have _t := s2; clear s2; refine wpList_stX _ rfl _ (.tmp 2) (.tmp 12) rfl w.heap.size _ _ rfl rfl q0 i1 rfl (by simp [Value.oneCell']) ?_; intro w5 q0 u5; have q1 := q1.keep u5 (fun e => by have e := Option.some.inj e; omega); have q2 := q2.keep u5 (fun e => by have e := Option.some.inj e; omega); have hO5 := hO3.far u5 (by omega); have G5 := grown_far (grown_trans (grown_trans G2 y3) y4) u5 (fun q e => by have e := Option.some.inj e; omega); have x0 : w5.cell? ⟨w.heap.size, 0, none⟩ = some (.slice a3 n c3) := q0.cell 0 (by show 0 < 1; decide); obtain ⟨t0, t1, t2, t3⟩ := BxS.cell4 q1; have s3 : True := trivial)
        | (go_at_call 18; have _t := s3; clear s3; refine (kK _ (hk.keep G5)).mono ?_; rintro e w6 ⟨rfl, y6⟩; have q0 := q0.keep y6 (by simp); have q1 := q1.keep y6 (by simp); have q2 := q2.keep y6 (by simp); have hO6 := hO5.keep y6; have G6 := grown_trans G5 y6; clear x0 t0 t1 t2 t3; have x0 : w6.cell? ⟨w.heap.size, 0, none⟩ = some (.slice a3 n c3) := q0.cell 0 (by show 0 < 1; decide); obtain ⟨t0, t1, t2, t3⟩ := BxS.cell4 q1; have s4 : True := trivial))
      have zz3 : w3.heap.size ≤ w6.heap.size := by have := y4.size; have := u5.size; have := y6.size; omega
      clear kM kC kK
      clear x0 t0 t1 t2 t3
      go_loopw [6] (fun iv wr => ∃ (k : Nat), iv = .int .i64 k ∧ k ≤ n ∧ hasI R k kk.id = false ∧ w6.grownBy wr none) (fun iv _ => n - (intOf iv).toNat)
      case atStart => exact ⟨0, by go_num, Nat.zero_le _, by simp [hasI], World.grownBy.refl _ _⟩
      case round =>
        obtain ⟨j, rfl, hjn, hno, yr⟩ := hrel
        have q0 := q0.keep yr (by simp)
        have q1 := q1.keep yr (by simp)
        have q2 := q2.keep yr (by simp)
        have hOr := hO6.keep yr
        have Gr := grown_trans G6 yr
        have hls := hO3.o.len
        have x0 : wr.cell? ⟨w.heap.size, 0, none⟩ = some (.slice a3 n c3) := q0.cell 0 (by show 0 < 1; decide); obtain ⟨t0, t1, t2, t3⟩ := BxS.cell4 q1
        by_cases hlt : j < n
        · have hlt' : (j : Int) < (n : Int) := by omega
          obtain ⟨ll, hi, hd1⟩ := map_d_at hO3.d j (by omega)
          obtain ⟨g3, rfl⟩ := hO3.o.someK (by omega)
          obtain ⟨r0, r1, r2, r3⟩ := hOr.o.rd.four hi
          rw [Nat.zero_add] at r0
          have hwj : IntKind.i64.wrap ((j : Int) + 1) = (j : Int) + 1 := wrap_i64_in _ (by omega) (by omega)
          by_cases hid : ll.id = kk.id
          · have hid' : (ll.id == kk.id) = true := by rw [hid]; simp
            have hfj : fiN R kk.id = j := fiN_at R j ll.d kk.id hd1 hid hno
            have hO1 : drO R kk.id = true := by unfold drO; rw [hfj]; exact decide_eq_true (by omega)
            have HE : Hid (adE R kk.d = 4) := by show _ = _; unfold adE; rw [HRB.out, HKB.out]; show (if drO R kk.id = true then _ else _) = _; rw [hO1]; rfl
            have HV : Hid (adV R kk.d = R) := by show _ = _; unfold adV; rw [HRB.out, HE.out]; rfl
            clear hid hfj hO1 hd1
            go_wp2
            go_quiet (fail)
            have yq := grown_drewN wr nq none
            have q0 := q0.keep yq (by simp)
            have q2 := q2.keep yq (by simp)
            have hOq := hOr.keep yq
            have Gq := grown_trans Gr yq
            generalize wr.drewN nq = wq at *
            clear x0
            have x0 : wq.cell? ⟨w.heap.size, 0, none⟩ = some (.slice (some ⟨g3, 0, none⟩) n c3) := q0.cell 0 (by show 0 < 1; decide)
            go_wp2_with (refine wpList_stX _ rfl _ (.tmp 4) (.tmp 33) rfl (w.heap.size + 2) _ _ rfl rfl q2 i1 rfl (by simp [Value.oneCell']) ?_; intro w9 b9 u9)
            refine bodyPost_ret (results_cell1t rfl _ _ _ ⟨w.heap.size + 2, 0, none⟩ _ (.int .i64 4) rfl (BxS.load (t := 24) b9 Try.underlying24 i1) rfl) rfl ?_
            rw [HV.out, HE.out]
            exact ⟨_, _, _, rfl, (hOq.far u9 (by omega)).rd, grown_far Gq u9 (fun q e => by have e := Option.some.inj e; omega)⟩
          · have hid' : (ll.id == kk.id) = false := beq_false_of_ne hid
            have hh : hasI R (j + 1) kk.id = false := by rw [hasI_step R j ll.d hd1, hno]; show (_ || decide (ll.id = kk.id)) = false; rw [decide_eq_false hid]; rfl
            go_wp2
            go_quiet (fail)
            go_wp2
            go_roundw
            case rel => exact ⟨j + 1, by go_num, by omega, hh, grown_trans yr (grown_drewN _ _ _)⟩
            case measure => simp [intOf]; omega
        · have hlt' : ¬ (j : Int) < (n : Int) := by omega
          obtain rfl : j = n := by omega
          have hO1 : drO R kk.id = false := by unfold drO; rw [fiN_no R kk.id (by rw [hlR]; exact hno)]; exact decide_eq_false (by omega)
          by_cases h8 : R.length = 8
          · have HE : Hid (adE R kk.d = 12) := by show _ = _; unfold adE; rw [HRB.out, HKB.out]; show (if drO R kk.id = true then _ else _) = _; rw [hO1, if_pos h8]; rfl
            have HV : Hid (adV R kk.d = R) := by show _ = _; unfold adV; rw [HRB.out, HE.out]; rfl
            have h8' : (8 : Int) ≤ (j : Int) := by omega
            go_wp2_with (refine wpList_stX _ rfl _ (.tmp 4) (.tmp 38) rfl (w.heap.size + 2) _ _ rfl rfl q2 i1 rfl (by simp [Value.oneCell']) ?_; intro w9 b9 u9)
            refine bodyPost_ret (results_cell1t rfl _ _ _ ⟨w.heap.size + 2, 0, none⟩ _ (.int .i64 12) rfl (BxS.load (t := 24) b9 Try.underlying24 i1) rfl) rfl ?_
            rw [HV.out, HE.out]
            exact ⟨_, _, _, rfl, (hOr.far u9 (by omega)).rd, grown_far Gr u9 (fun q e => by have e := Option.some.inj e; omega)⟩
          · have HE : Hid (adE R kk.d = 0) := by show _ = _; unfold adE; rw [HRB.out, HKB.out]; show (if drO R kk.id = true then _ else _) = _; rw [hO1, if_neg h8]; rfl
            have HV : Hid (adV R kk.d = R ++ [kk.d]) := by show _ = _; unfold adV; rw [HRB.out, HE.out]; rfl
            have h8' : ¬ (8 : Int) ≤ (j : Int) := by omega
            have zr3 : w3.heap.size ≤ wr.heap.size := by have := yr.size; omega
            have s5 : True := trivial
            go_wp2_with (first
              | (at_builtin; have _t := s5; clear s5; refine wpList_cpI _ rfl _ _ rfl rfl kk.a kk.n kk.c kk.W rfl (hk.keep Gr) (by omega) ?_; intro xa xc w10 hX y10; have q0 := q0.keep y10 (by simp); have q1 := q1.keep y10 (by simp); have q2 := q2.keep y10 (by simp); have hO10 := hOr.keep y10; have G10 := grown_trans Gr y10; clear x0 t0 t1 t2 t3; have s6 : True := trivial)
              | (have _t := s6; clear s6; refine wpList_stC _ rfl _ _ _ rfl (w.heap.size + 1) 1 27 _ #[.int .i64 kk.id, .slice xa kk.n xc, .int .i64 kk.tp, .int .i64 kk.sn] (.slice xa kk.n xc) rfl rfl q1 (stc_ints _ _ _ _ _) (by show 1 < 4; decide) rfl ?_; intro w11 q1 u11; have q0 := q0.keep u11 (fun e => by have e := Option.some.inj e; omega); have q2 := q2.keep u11 (fun e => by have e := Option.some.inj e; omega); have hO11 := hO10.far u11 (by omega); have hX11 := (hX.wide (show w3.heap.size ≤ wr.heap.size by omega)).kept u11 (by cases e2 : (Value.slice xa kk.n xc).ownBlock with | none => exact .inl rfl | some x => exact .inr (fun e3 => by have e3 := Option.some.inj e3; have := hX.new x e2; have := Gr.size; omega)); have G11 := grown_far G10 u11 (fun q e => by have e := Option.some.inj e; omega); have x0 : w11.cell? ⟨w.heap.size, 0, none⟩ = some (.slice a3 j c3) := q0.cell 0 (by show 0 < 1; decide); obtain ⟨t0, t1, t2, t3⟩ := BxS.cell4 q1; have s7 : True := trivial)
              | (at_builtin; have _t := s7; clear s7; refine wpList_psK w11 w3.heap.size ⟨kk.id, xa, kk.n, xc, kk.W, kk.tp, kk.sn⟩ rfl _ _ rfl a3 j c3 ks3 rfl hO11.o (by have := y10.size; have := u11.size; omega) rfl (by omega) _ rfl hX11 hbd (fun q hq y hy e => by have h9 := (hOr.o.hi (.inr ⟨q, hq, hy⟩)).1; have h10 := hX.new y e; omega) ?_; intro gx cx w12 hO12 u12 hgx; have hlo12 : ∀ y, (Value.slice a3 j c3).ownBlock = some y → w3.heap.size ≤ y := fun y e => (hOr.o.hi (.inl e)).2; have q0 := q0.keep u12 (fun e => by have := hlo12 _ e.symm; omega); have q2 := q2.keep u12 (fun e => by have := hlo12 _ e.symm; omega); have G12 := grown_far G11 u12 (fun y e => by have := hlo12 _ e; omega); clear x0 t0 t1 t2 t3; have s8 : True := trivial)
              | (have _t := s8; clear s8; refine wpList_stC _ rfl _ _ _ rfl w.heap.size 0 24 _ #[.slice (some ⟨gx, 0, none⟩) (j + 1) cx] (.slice (some ⟨gx, 0, none⟩) (j + 1) cx) rfl rfl q0 (stc_keys _ _ _ _ _) (by show 0 < 1; decide) rfl ?_; intro w13 q0 u13; have q2 := q2.keep u13 (fun e => by have e := Option.some.inj e; omega); have G13 := grown_far G12 u13 (fun q e => by have e := Option.some.inj e; omega); have x0 : w13.cell? ⟨w.heap.size, 0, none⟩ = some (.slice (some ⟨gx, 0, none⟩) (j + 1) cx) := q0.cell 0 (by show 0 < 1; decide); have s9 : True := trivial)
              | (have _t := s9; clear s9; refine wpList_stX _ rfl _ (.tmp 4) (.tmp 49) rfl (w.heap.size + 2) _ _ rfl rfl q2 i1 rfl (by simp [Value.oneCell']) ?_; intro w9 b9 u9; skip))
            refine bodyPost_ret (results_cell1t rfl _ _ _ ⟨w.heap.size + 2, 0, none⟩ _ (.int .i64 0) rfl (BxS.load (t := 24) b9 Try.underlying24 i1) rfl) rfl ?_
            rw [HV.out, HE.out]
            have hG12 : OwG w12 w3.heap.size (some ⟨gx, 0, none⟩) (j + 1) cx (ks3 ++ [⟨kk.id, xa, kk.n, xc, kk.W, kk.tp, kk.sn⟩]) (R ++ [kk.d]) := ⟨hO12, by rw [List.map_append, hO3.d]; rfl⟩
            exact ⟨_, _, _, rfl, ((hG12.far u13 (by omega)).far u9 (by omega)).rd, grown_far G13 u9 (fun q e => by have e := Option.some.inj e; omega)⟩
end Go.Proofs.Ytdpgblojdppfeaa
