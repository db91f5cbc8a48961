import Derived.Test.YtdpgblojdppfeaaQH
namespace Go.Proofs.Ytdpgblojdppfeaa
open Go.RowKit
set_option maxRecDepth 100000
set_option linter.unusedVariables false
set_option linter.unusedSimpArgs false
/-- what Add answers -/
def adE (R : List Kd) (k : Kd) : Nat := if rmB R = true then (if kdB k = true then (if drO R k.id = true then 4 else (if R.length = 8 then 12 else 0)) else 6) else 11
def adV (R : List Kd) (k : Kd) : List Kd := if rmB R = true then (if adE R k = 0 then R ++ [k] else R) else []
set_option maxHeartbeats 32000000 in
theorem add_any (a : Option Addr) (n c : Nat) (R : List Kd) (kk : Kw) (w : World) (h : RdG w a n c R) (hk : RdI w kk.a kk.n kk.c kk.W) (hbd : I64 kk.id ∧ I64 kk.tp ∧ I64 kk.sn) :
    Calls Try.prog 8 #[.agg #[.slice a n c], .agg #[.int .i64 kk.id, .slice kk.a kk.n kk.c, .int .i64 kk.tp, .int .i64 kk.sn]] w fun e w' => ∃ (a' : Option Addr) (n' c' : Nat) (ks' : List Kw), e = .returned (.tuple #[.agg #[.slice a' n' c'], .int .i64 (adE R kk.d : Int)]) ∧ OwG w' w.heap.size a' n' c' ks' (adV R kk.d) ∧ w.grownBy w' none := by
  have hlR := h.len
  have b0 := BxS.new w 24 #[.slice a n c]
  have g0 := World.grownBy_alloc w (.cells #[.slice a n c] 24) none
  generalize hw0 : w.alloc (.cells #[.slice a n c] 24) = w0 at b0 g0
  have hz0 : w0.heap.size = w.heap.size + 1 := by rw [← hw0]; simp
  have b1 := BxS.new w0 27 #[.int .i64 kk.id, .slice kk.a kk.n kk.c, .int .i64 kk.tp, .int .i64 kk.sn]
  have g1 := World.grownBy_alloc w0 (.cells #[.int .i64 kk.id, .slice kk.a kk.n kk.c, .int .i64 kk.tp, .int .i64 kk.sn] 27) none
  generalize hw1 : w0.alloc (.cells #[.int .i64 kk.id, .slice kk.a kk.n kk.c, .int .i64 kk.tp, .int .i64 kk.sn] 27) = w1 at b1 g1
  have hz1 : w1.heap.size = w.heap.size + 2 := by rw [← hw1]; simp [hz0]
  rw [hz0] at b1
  have b2 := BxS.new w1 24 #[.slice none 0 0]
  have g2 := World.grownBy_alloc w1 (.cells #[.slice none 0 0] 24) none
  generalize hw2 : w1.alloc (.cells #[.slice none 0 0] 24) = w2 at b2 g2
  rw [hz1] at b2
  have sz2 : w.heap.size + 3 ≤ w2.heap.size := by rw [← hw2]; simp [hz1]
  have p0 := (b0.keep g1 (by simp)).keep g2 (by simp)
  have p1 := b1.keep g2 (by simp)
  have G2 := grown_trans (grown_trans g0 g1) g2
  have x0 : w2.cell? ⟨w.heap.size, 0, none⟩ = some (.slice a n c) := p0.cell 0 (by show 0 < 1; decide)
  obtain ⟨t0, t1, t2, t3⟩ := BxS.cell4 p1
  have i1 := Try.info_rg1
  have i4 := Try.info_ky4
  have s0 : True := trivial
  have kM := ringMayBe_any a n c R w2 (h.keep G2)
  cases hB : rmB R with
  | false =>
    have e2 : adE R kk.d = 11 := by unfold adE; rw [hB]; rfl
    have e1 : adV R kk.d = [] := by unfold adV; rw [hB]; rfl
    rw [hB] at kM
    rw [e1, e2]
    clear e1 e2
    go_enter Try.func8, Try.ntmps8
    go_wp2_with (first
      | (go_at_call 19; have _t := s0; clear s0; refine kM.mono ?_; rintro e w3 ⟨rfl, y3⟩; have q0 := p0.keep y3 (by simp); have q1 := p1.keep y3 (by simp); have q2 := b2.keep y3 (by simp); have z3 := y3.size; clear x0 t0 t1 t2 t3; have x0 : w3.cell? ⟨w.heap.size, 0, none⟩ = some (.slice a n c) := q0.cell 0 (by show 0 < 1; decide); obtain ⟨t0, t1, t2, t3⟩ := BxS.cell4 q1; have s1 : True := trivial)
      | (have _t := s1; clear s1; refine wpList_stX _ rfl _ (.tmp 4) (.tmp 9) rfl (w.heap.size + 2) _ _ rfl rfl q2 i1 rfl (by simp [Value.oneCell']) ?_; intro w9 b9 u9; skip))
    refine bodyPost_ret (results_cell1t rfl _ _ _ ⟨w.heap.size + 2, 0, none⟩ _ (.int .i64 11) rfl (BxS.load (t := 24) b9 Try.underlying24 i1) rfl) rfl ?_
    have GF := grown_far (grown_trans G2 y3) u9 (fun q e => by have e := Option.some.inj e; omega)
    first | exact ⟨none, 0, 0, [], rfl, OwG.nil _ _, GF⟩ | exact ⟨none, 0, 0, rfl, ⟨[], OwG.nil _ _⟩, GF⟩
  | true =>
    obtain ⟨hl8, hw8⟩ := rm_ok hB
    rw [hB] at kM
    have kC := fun wz hz => copyRing_any a n c R wz hz (fun k hk => by rw [hw8 k hk]; decide) (by omega)
    have kK := fun wz hz => keyMayBe_any kk.id kk.a kk.n kk.c kk.tp kk.sn kk.W wz hz
    have ekb : kmB kk.id kk.n kk.W kk.tp kk.sn = kdB kk.d := by unfold kdB; rw [← hk.len]; rfl
    simp only [ekb] at kK
    have kF := fun a' c' wz hz => find_any a' n c' R kk.id wz hz
    have HfX : Hid (fiX R kk.id = if fiN R kk.id < R.length then (fiN R kk.id : Int) else -1) := rfl
    clear ekb
    cases hkb : kdB kk.d with
    | false =>
      have e2 : adE R kk.d = 6 := by unfold adE; rw [hB, hkb]; rfl
      have e1 : adV R kk.d = R := by unfold adV; rw [hB, e2]; rfl
      simp only [hkb] at kK
      rw [e1, e2]
      clear e1 e2
      go_enter Try.func8, Try.ntmps8
      go_wp2_with (first
        | (go_at_call 19; have _t := s0; clear s0; refine kM.mono ?_; rintro e w3 ⟨rfl, y3⟩; have q0 := p0.keep y3 (by simp); have q1 := p1.keep y3 (by simp); have q2 := b2.keep y3 (by simp); have z3 := y3.size; clear x0 t0 t1 t2 t3; have x0 : w3.cell? ⟨w.heap.size, 0, none⟩ = some (.slice a n c) := q0.cell 0 (by show 0 < 1; decide); obtain ⟨t0, t1, t2, t3⟩ := BxS.cell4 q1; have s1 : True := trivial)
        | (go_at_call 20; have _t := s1; clear s1; refine (kC _ (h.keep (grown_trans G2 y3))).mono ?_; rintro e w4 ⟨a3, c3, ks3, rfl, hO3, y4⟩; have q0 := q0.keep y4 (by simp); have q1 := q1.keep y4 (by simp); have q2 := q2.keep y4 (by simp); clear x0 t0 t1 t2 t3; have s2 : True := trivial)
        | (have _t := s2; clear s2; refine wpList_stX _ rfl _ (.tmp 2) (.tmp 11) rfl w.heap.size _ _ rfl rfl q0 i1 rfl (by simp [Value.oneCell']) ?_; intro w5 q0 u5; have q1 := q1.keep u5 (fun e => by have e := Option.some.inj e; omega); have q2 := q2.keep u5 (fun e => by have e := Option.some.inj e; omega); have hO5 := hO3.far u5 (by omega); have G5 := grown_far (grown_trans (grown_trans G2 y3) y4) u5 (fun q e => by have e := Option.some.inj e; omega); have x0 : w5.cell? ⟨w.heap.size, 0, none⟩ = some (.slice a3 n c3) := q0.cell 0 (by show 0 < 1; decide); obtain ⟨t0, t1, t2, t3⟩ := BxS.cell4 q1; have s3 : True := trivial)
        | (go_at_call 21; have _t := s3; clear s3; refine (kK _ (hk.keep G5)).mono ?_; rintro e w6 ⟨rfl, y6⟩; have q0 := q0.keep y6 (by simp); have q1 := q1.keep y6 (by simp); have q2 := q2.keep y6 (by simp); have hO6 := hO5.keep y6; have G6 := grown_trans G5 y6; clear x0 t0 t1 t2 t3; have x0 : w6.cell? ⟨w.heap.size, 0, none⟩ = some (.slice a3 n c3) := q0.cell 0 (by show 0 < 1; decide); obtain ⟨t0, t1, t2, t3⟩ := BxS.cell4 q1; have s4 : True := trivial)
        | (have _t := s4; clear s4; refine wpList_stX _ rfl _ (.tmp 4) (.tmp 16) rfl (w.heap.size + 2) _ _ rfl rfl q2 i1 rfl (by simp [Value.oneCell']) ?_; intro w9 b9 u9; skip))
      refine bodyPost_ret (results_cell1t rfl _ _ _ ⟨w.heap.size + 2, 0, none⟩ _ (.int .i64 6) rfl (BxS.load (t := 24) b9 Try.underlying24 i1) rfl) rfl ?_
      have hF := hO6.far u9 (by omega)
      have GF := grown_far G6 u9 (fun q e => by have e := Option.some.inj e; omega)
      first | exact ⟨_, _, _, _, rfl, hF.wide (by omega), GF⟩ | exact ⟨_, _, _, rfl, ⟨_, hF.wide (by omega)⟩, GF⟩
    | true =>
      simp only [hkb] at kK
      have hkn : kk.n ≤ 8 := by
        have h2 := hkb
        unfold kdB kmB at h2
        simp only [Bool.and_eq_true, beq_iff_eq] at h2
        have h3 := h2.1.1.2
        unfold wdE at h3
        by_cases h8 : kk.d.W.length = 8
        · rw [← hk.len]; exact Nat.le_of_eq h8
        · rw [if_neg h8] at h3; cases h3
      cases hO : drO R kk.id with
      | true =>
        have e2 : adE R kk.d = 4 := by unfold adE; rw [hB, hkb]; show (if drO R kk.id = true then _ else _) = _; rw [hO]; rfl
        have e1 : adV R kk.d = R := by unfold adV; rw [hB, e2]; rfl
        have hfx : ∃ j : Nat, fiX R kk.id = (j : Int) := ⟨fiN R kk.id, by rw [HfX.out, if_pos (of_decide_eq_true hO)]⟩
        obtain ⟨j, hj⟩ := hfx
        simp only [hj] at kF
        have hj0 : (0 : Int) ≤ (j : Int) := by omega
        rw [e1, e2]
        clear e1 e2
        go_enter Try.func8, Try.ntmps8
        go_wp2_with (first
          | (go_at_call 19; have _t := s0; clear s0; refine kM.mono ?_; rintro e w3 ⟨rfl, y3⟩; have q0 := p0.keep y3 (by simp); have q1 := p1.keep y3 (by simp); have q2 := b2.keep y3 (by simp); have z3 := y3.size; clear x0 t0 t1 t2 t3; have x0 : w3.cell? ⟨w.heap.size, 0, none⟩ = some (.slice a n c) := q0.cell 0 (by show 0 < 1; decide); obtain ⟨t0, t1, t2, t3⟩ := BxS.cell4 q1; have s1 : True := trivial)
          | (go_at_call 20; have _t := s1; clear s1; refine (kC _ (h.keep (grown_trans G2 y3))).mono ?_; rintro e w4 ⟨a3, c3, ks3, rfl, hO3, y4⟩; have q0 := q0.keep y4 (by simp); have q1 := q1.keep y4 (by simp); have q2 := q2.keep y4 (by simp); clear x0 t0 t1 t2 t3; have s2 : True := trivial)
          | (have _t := s2; clear s2; refine wpList_stX _ rfl _ (.tmp 2) (.tmp 11) rfl w.heap.size _ _ rfl rfl q0 i1 rfl (by simp [Value.oneCell']) ?_; intro w5 q0 u5; have q1 := q1.keep u5 (fun e => by have e := Option.some.inj e; omega); have q2 := q2.keep u5 (fun e => by have e := Option.some.inj e; omega); have hO5 := hO3.far u5 (by omega); have G5 := grown_far (grown_trans (grown_trans G2 y3) y4) u5 (fun q e => by have e := Option.some.inj e; omega); have x0 : w5.cell? ⟨w.heap.size, 0, none⟩ = some (.slice a3 n c3) := q0.cell 0 (by show 0 < 1; decide); obtain ⟨t0, t1, t2, t3⟩ := BxS.cell4 q1; have s3 : True := trivial)
          | (go_at_call 21; have _t := s3; clear s3; refine (kK _ (hk.keep G5)).mono ?_; rintro e w6 ⟨rfl, y6⟩; have q0 := q0.keep y6 (by simp); have q1 := q1.keep y6 (by simp); have q2 := q2.keep y6 (by simp); have hO6 := hO5.keep y6; have G6 := grown_trans G5 y6; clear x0 t0 t1 t2 t3; have x0 : w6.cell? ⟨w.heap.size, 0, none⟩ = some (.slice a3 n c3) := q0.cell 0 (by show 0 < 1; decide); obtain ⟨t0, t1, t2, t3⟩ := BxS.cell4 q1; have s4 : True := trivial)
          | (go_at_call 22; have _t := s4; clear s4; refine (kF _ _ _ hO6.rd).mono ?_; rintro e w7 ⟨rfl, y7⟩; have q0 := q0.keep y7 (by simp); have q1 := q1.keep y7 (by simp); have q2 := q2.keep y7 (by simp); have hO7 := hO6.keep y7; have G7 := grown_trans G6 y7; clear x0 t0 t1 t2 t3; have x0 : w7.cell? ⟨w.heap.size, 0, none⟩ = some (.slice a3 n c3) := q0.cell 0 (by show 0 < 1; decide); obtain ⟨t0, t1, t2, t3⟩ := BxS.cell4 q1; have s5 : True := trivial)
          | (have _t := s5; clear s5; refine wpList_stX _ rfl _ (.tmp 4) (.tmp 23) rfl (w.heap.size + 2) _ _ rfl rfl q2 i1 rfl (by simp [Value.oneCell']) ?_; intro w9 b9 u9; skip))
        refine bodyPost_ret (results_cell1t rfl _ _ _ ⟨w.heap.size + 2, 0, none⟩ _ (.int .i64 4) rfl (BxS.load (t := 24) b9 Try.underlying24 i1) rfl) rfl ?_
        have hF := hO7.far u9 (by omega)
        have GF := grown_far G7 u9 (fun q e => by have e := Option.some.inj e; omega)
        first | exact ⟨_, _, _, _, rfl, hF.wide (by omega), GF⟩ | exact ⟨_, _, _, rfl, ⟨_, hF.wide (by omega)⟩, GF⟩
      | false =>
        have hfx : fiX R kk.id = -1 := by rw [HfX.out, if_neg (of_decide_eq_false hO)]
        simp only [hfx] at kF
        by_cases h8 : R.length = 8
        · have e2 : adE R kk.d = 12 := by unfold adE; rw [hB, hkb]; show (if drO R kk.id = true then _ else _) = _; rw [hO, if_pos h8]; rfl
          have e1 : adV R kk.d = R := by unfold adV; rw [hB, e2]; rfl
          have h8' : ((n : Int) == 8) = true := by simp; omega
          rw [e1, e2]
          clear e1 e2
          go_enter Try.func8, Try.ntmps8
          go_wp2_with (first
            | (go_at_call 19; have _t := s0; clear s0; refine kM.mono ?_; rintro e w3 ⟨rfl, y3⟩; have q0 := p0.keep y3 (by simp); have q1 := p1.keep y3 (by simp); have q2 := b2.keep y3 (by simp); have z3 := y3.size; clear x0 t0 t1 t2 t3; have x0 : w3.cell? ⟨w.heap.size, 0, none⟩ = some (.slice a n c) := q0.cell 0 (by show 0 < 1; decide); obtain ⟨t0, t1, t2, t3⟩ := BxS.cell4 q1; have s1 : True := trivial)
            | (go_at_call 20; have _t := s1; clear s1; refine (kC _ (h.keep (grown_trans G2 y3))).mono ?_; rintro e w4 ⟨a3, c3, ks3, rfl, hO3, y4⟩; have q0 := q0.keep y4 (by simp); have q1 := q1.keep y4 (by simp); have q2 := q2.keep y4 (by simp); clear x0 t0 t1 t2 t3; have s2 : True := trivial)
            | (have _t := s2; clear s2; refine wpList_stX _ rfl _ (.tmp 2) (.tmp 11) rfl w.heap.size _ _ rfl rfl q0 i1 rfl (by simp [Value.oneCell']) ?_; intro w5 q0 u5; have q1 := q1.keep u5 (fun e => by have e := Option.some.inj e; omega); have q2 := q2.keep u5 (fun e => by have e := Option.some.inj e; omega); have hO5 := hO3.far u5 (by omega); have G5 := grown_far (grown_trans (grown_trans G2 y3) y4) u5 (fun q e => by have e := Option.some.inj e; omega); have x0 : w5.cell? ⟨w.heap.size, 0, none⟩ = some (.slice a3 n c3) := q0.cell 0 (by show 0 < 1; decide); obtain ⟨t0, t1, t2, t3⟩ := BxS.cell4 q1; have s3 : True := trivial)
            | (go_at_call 21; have _t := s3; clear s3; refine (kK _ (hk.keep G5)).mono ?_; rintro e w6 ⟨rfl, y6⟩; have q0 := q0.keep y6 (by simp); have q1 := q1.keep y6 (by simp); have q2 := q2.keep y6 (by simp); have hO6 := hO5.keep y6; have G6 := grown_trans G5 y6; clear x0 t0 t1 t2 t3; have x0 : w6.cell? ⟨w.heap.size, 0, none⟩ = some (.slice a3 n c3) := q0.cell 0 (by show 0 < 1; decide); obtain ⟨t0, t1, t2, t3⟩ := BxS.cell4 q1; have s4 : True := trivial)
            | (go_at_call 22; have _t := s4; clear s4; refine (kF _ _ _ hO6.rd).mono ?_; rintro e w7 ⟨rfl, y7⟩; have q0 := q0.keep y7 (by simp); have q1 := q1.keep y7 (by simp); have q2 := q2.keep y7 (by simp); have hO7 := hO6.keep y7; have G7 := grown_trans G6 y7; clear x0 t0 t1 t2 t3; have x0 : w7.cell? ⟨w.heap.size, 0, none⟩ = some (.slice a3 n c3) := q0.cell 0 (by show 0 < 1; decide); obtain ⟨t0, t1, t2, t3⟩ := BxS.cell4 q1; have s5 : True := trivial)
            | (have _t := s5; clear s5; refine wpList_stX _ rfl _ (.tmp 4) (.tmp 29) rfl (w.heap.size + 2) _ _ rfl rfl q2 i1 rfl (by simp [Value.oneCell']) ?_; intro w9 b9 u9; skip))
          refine bodyPost_ret (results_cell1t rfl _ _ _ ⟨w.heap.size + 2, 0, none⟩ _ (.int .i64 12) rfl (BxS.load (t := 24) b9 Try.underlying24 i1) rfl) rfl ?_
          have hF := hO7.far u9 (by omega)
          have GF := grown_far G7 u9 (fun q e => by have e := Option.some.inj e; omega)
          first | exact ⟨_, _, _, _, rfl, hF.wide (by omega), GF⟩ | exact ⟨_, _, _, rfl, ⟨_, hF.wide (by omega)⟩, GF⟩
        · have e2 : adE R kk.d = 0 := by unfold adE; rw [hB, hkb]; show (if drO R kk.id = true then _ else _) = _; rw [hO, if_neg h8]; rfl
          have e1 : adV R kk.d = R ++ [kk.d] := by unfold adV; rw [hB, e2]; rfl
          have h8' : ((n : Int) == 8) = false := by simp; omega
          rw [e1, e2]
          clear e1 e2
          go_enter Try.func8, Try.ntmps8
          go_wp2_with (first
            | (go_at_call 19; have _t := s0; clear s0; refine kM.mono ?_; rintro e w3 ⟨rfl, y3⟩; have q0 := p0.keep y3 (by simp); have q1 := p1.keep y3 (by simp); have q2 := b2.keep y3 (by simp); have z3 := y3.size; clear x0 t0 t1 t2 t3; have x0 : w3.cell? ⟨w.heap.size, 0, none⟩ = some (.slice a n c) := q0.cell 0 (by show 0 < 1; decide); obtain ⟨t0, t1, t2, t3⟩ := BxS.cell4 q1; have s1 : True := trivial)
            | (go_at_call 20; have _t := s1; clear s1; refine (kC _ (h.keep (grown_trans G2 y3))).mono ?_; rintro e w4 ⟨a3, c3, ks3, rfl, hO3, y4⟩; have q0 := q0.keep y4 (by simp); have q1 := q1.keep y4 (by simp); have q2 := q2.keep y4 (by simp); clear x0 t0 t1 t2 t3; have s2 : True := trivial)
            | (have _t := s2; clear s2; refine wpList_stX _ rfl _ (.tmp 2) (.tmp 11) rfl w.heap.size _ _ rfl rfl q0 i1 rfl (by simp [Value.oneCell']) ?_; intro w5 q0 u5; have q1 := q1.keep u5 (fun e => by have e := Option.some.inj e; omega); have q2 := q2.keep u5 (fun e => by have e := Option.some.inj e; omega); have hO5 := hO3.far u5 (by omega); have G5 := grown_far (grown_trans (grown_trans G2 y3) y4) u5 (fun q e => by have e := Option.some.inj e; omega); have x0 : w5.cell? ⟨w.heap.size, 0, none⟩ = some (.slice a3 n c3) := q0.cell 0 (by show 0 < 1; decide); obtain ⟨t0, t1, t2, t3⟩ := BxS.cell4 q1; have s3 : True := trivial)
            | (go_at_call 21; have _t := s3; clear s3; refine (kK _ (hk.keep G5)).mono ?_; rintro e w6 ⟨rfl, y6⟩; have q0 := q0.keep y6 (by simp); have q1 := q1.keep y6 (by simp); have q2 := q2.keep y6 (by simp); have hO6 := hO5.keep y6; have G6 := grown_trans G5 y6; clear x0 t0 t1 t2 t3; have x0 : w6.cell? ⟨w.heap.size, 0, none⟩ = some (.slice a3 n c3) := q0.cell 0 (by show 0 < 1; decide); obtain ⟨t0, t1, t2, t3⟩ := BxS.cell4 q1; have s4 : True := trivial)
            | (go_at_call 22; have _t := s4; clear s4; refine (kF _ _ _ hO6.rd).mono ?_; rintro e w7 ⟨rfl, y7⟩; have q0 := q0.keep y7 (by simp); have q1 := q1.keep y7 (by simp); have q2 := q2.keep y7 (by simp); have hO7 := hO6.keep y7; have G7 := grown_trans G6 y7; clear x0 t0 t1 t2 t3; have x0 : w7.cell? ⟨w.heap.size, 0, none⟩ = some (.slice a3 n c3) := q0.cell 0 (by show 0 < 1; decide); obtain ⟨t0, t1, t2, t3⟩ := BxS.cell4 q1; have s5 : True := trivial))
          have SD := grown_drew w7 none
          have hO8 := hO7.keep SD
          have SS : BxS w7.drew w.heap.size 24 #[.slice a3 n c3] ∧ BxS w7.drew (w.heap.size + 1) 27 #[.int .i64 kk.id, .slice kk.a kk.n kk.c, .int .i64 kk.tp, .int .i64 kk.sn] := ⟨q0.keep SD (by simp), q1.keep SD (by simp)⟩
          have q2 := q2.keep SD (by simp)
          have G8 := grown_trans G7 SD
          have hk8 := hk.keep G8
          refine wp_regionL (fun wz => BxS wz w.heap.size 24 #[.slice a3 n c3] ∧ BxS wz (w.heap.size + 1) 27 #[.int .i64 kk.id, .slice kk.a kk.n kk.c, .int .i64 kk.tp, .int .i64 kk.sn]) [7] #[false, false, false, false, false, false, false, false] rfl (by kernel_rfl) ?_
          refine wpAnyZ_take [1, 5, 7] 0 (.pointer (some ⟨w.heap.size, 0, none⟩)) rfl (by kernel_rfl) (fun _ _ _ h => h) SS rfl (by rintro wz ⟨hz1, hz2⟩; have z0 : wz.cell? ⟨w.heap.size, 0, none⟩ = some (.slice a3 n c3) := hz1.cell 0 (by show 0 < 1; decide); obtain ⟨z1, z2, z3, z4⟩ := BxS.cell4 hz2; go_simp) ?_
          try simp only [List.getElem_toArray, List.getElem_cons_succ, List.getElem_cons_zero, Act.put, List.setIfInBounds_toArray, List.set_cons_zero, List.set_cons_succ]
          refine wpAnyZ_take [5, 7] 1 (.slice a3 n c3) rfl (by kernel_rfl) (fun _ _ _ h => h) SS rfl (by rintro wz ⟨hz1, hz2⟩; have z0 : wz.cell? ⟨w.heap.size, 0, none⟩ = some (.slice a3 n c3) := hz1.cell 0 (by show 0 < 1; decide); obtain ⟨z1, z2, z3, z4⟩ := BxS.cell4 hz2; go_simp) ?_
          try simp only [List.getElem_toArray, List.getElem_cons_succ, List.getElem_cons_zero, Act.put, List.setIfInBounds_toArray, List.set_cons_zero, List.set_cons_succ]
          refine wpAnyZ_take [3, 4, 5, 7] 2 (.agg #[.int .i64 kk.id, .slice kk.a kk.n kk.c, .int .i64 kk.tp, .int .i64 kk.sn]) rfl (by kernel_rfl) (fun _ _ _ h => h) SS rfl (by rintro wz ⟨hz1, hz2⟩; have z0 : wz.cell? ⟨w.heap.size, 0, none⟩ = some (.slice a3 n c3) := hz1.cell 0 (by show 0 < 1; decide); obtain ⟨z1, z2, z3, z4⟩ := BxS.cell4 hz2; go_simp) ?_
          try simp only [List.getElem_toArray, List.getElem_cons_succ, List.getElem_cons_zero, Act.put, List.setIfInBounds_toArray, List.set_cons_zero, List.set_cons_succ]
          generalize w7.drew = w8 at *
          refine wpAnyZ_oneB 3 rfl (by kernel_rfl) (fun K hK => ?_)
          go_simp
          go_at_call 23
          refine (copyKey_any kk _ hk8 (by omega)).mono ?_
          rintro e w10 ⟨xa, xc, rfl, hX, y10⟩
          dsimp only
          have hO10 := hO8.keep y10
          have q2 := q2.keep y10 (by simp)
          have G10 := grown_trans G8 y10
          have SS : BxS w10 w.heap.size 24 #[.slice a3 n c3] ∧ BxS w10 (w.heap.size + 1) 27 #[.int .i64 kk.id, .slice kk.a kk.n kk.c, .int .i64 kk.tp, .int .i64 kk.sn] := ⟨SS.1.keep y10 (by simp), SS.2.keep y10 (by simp)⟩
          refine hK _ _ (fun _ => SS) ?_
          try simp only [List.getElem_toArray, List.getElem_cons_succ, List.getElem_cons_zero, Act.put, List.setIfInBounds_toArray, List.set_cons_zero, List.set_cons_succ]
          refine wpAnyZ_oneB 4 rfl (by kernel_rfl) (fun K hK => ?_)
          go_simp
          have yA := World.grownBy_alloc w10 (.cells #[.int .i64 kk.id, .slice xa kk.n xc, .int .i64 kk.tp, .int .i64 kk.sn] 27) none
          refine hK _ _ (fun _ => ⟨SS.1.keep yA (by simp), SS.2.keep yA (by simp)⟩) ?_
          try simp only [List.getElem_toArray, List.getElem_cons_succ, List.getElem_cons_zero, Act.put, List.setIfInBounds_toArray, List.set_cons_zero, List.set_cons_succ]
          have z10 := G10.size
          have z8 := y10.size
          have zl : w3.heap.size ≤ w8.heap.size := by have := y4.size; have := u5.size; have := y6.size; have := y7.size; have := SD.size; omega
          refine wpAnyZ_oneB 5 rfl (by kernel_rfl) (fun K hK => ?_)
          refine step_psK w10 w3.heap.size ⟨kk.id, xa, kk.n, xc, kk.W, kk.tp, kk.sn⟩ rfl _ _ rfl a3 n c3 ks3 rfl hO10.o (by omega) rfl (by omega) _ rfl (hX.wide (by omega)) hbd (fun q hq y hy e => by have h9 := (hO8.o.hi (.inr ⟨q, hq, hy⟩)).1; have h10 := hX.new y e; omega) ?_
          intro gx cx w11 hO11 u11 hgx
          have hlo11 : ∀ y, (Value.slice a3 n c3).ownBlock = some y → w3.heap.size ≤ y := fun y e => (hO8.o.hi (.inl e)).2
          have hB11 := SS.1.keep u11 (fun e => by have := hlo11 _ e.symm; omega)
          have hK11 := SS.2.keep u11 (fun e => by have := hlo11 _ e.symm; omega)
          have q2 := q2.keep u11 (fun e => by have := hlo11 _ e.symm; omega)
          have G11 := grown_far G10 u11 (fun y e => by have := hlo11 _ e; omega)
          have SS : BxS w11 w.heap.size 24 #[.slice a3 n c3] ∧ BxS w11 (w.heap.size + 1) 27 #[.int .i64 kk.id, .slice kk.a kk.n kk.c, .int .i64 kk.tp, .int .i64 kk.sn] := ⟨hB11, hK11⟩
          refine hK _ _ (fun _ => SS) ?_
          try simp only [List.getElem_toArray, List.getElem_cons_succ, List.getElem_cons_zero, Act.put, List.setIfInBounds_toArray, List.set_cons_zero, List.set_cons_succ]
          refine wpAnyZ_take [7] 6 (.pointer (some ⟨w.heap.size, 0, none⟩)) rfl (by kernel_rfl) (fun _ _ _ h => h) SS rfl (by rintro wz ⟨hz1, hz2⟩; have z0 : wz.cell? ⟨w.heap.size, 0, none⟩ = some (.slice a3 n c3) := hz1.cell 0 (by show 0 < 1; decide); obtain ⟨z1, z2, z3, z4⟩ := BxS.cell4 hz2; go_simp) ?_
          try simp only [List.getElem_toArray, List.getElem_cons_succ, List.getElem_cons_zero, Act.put, List.setIfInBounds_toArray, List.set_cons_zero, List.set_cons_succ]
          refine wpAnyZ_oneB 7 rfl (by kernel_rfl) (fun K hK => ?_)
          refine step_stC _ rfl _ _ _ rfl w.heap.size 0 24 _ #[.slice (some ⟨gx, 0, none⟩) (n + 1) cx] (.slice (some ⟨gx, 0, none⟩) (n + 1) cx) rfl rfl SS.1 (stc_keys _ _ _ _ _) (by show 0 < 1; decide) rfl ?_
          intro w12 b12 u12
          refine hK _ _ (fun h => absurd (by decide) h) ?_
          try simp only [List.getElem_toArray, List.getElem_cons_succ, List.getElem_cons_zero, Act.put, List.setIfInBounds_toArray, List.set_cons_zero, List.set_cons_succ]
          refine wpAnyZ_doneB (by kernel_rfl) ?_ _
          have q2 := q2.keep u12 (fun e => by have e := Option.some.inj e; omega)
          have G12 := grown_far G11 u12 (fun q e => by have e := Option.some.inj e; omega)
          have x12 : w12.cell? ⟨w.heap.size, 0, none⟩ = some (.slice (some ⟨gx, 0, none⟩) (n + 1) cx) := b12.cell 0 (by show 0 < 1; decide)
          go_wp2_with (refine wpList_stX _ rfl _ (.tmp 4) (.tmp 37) rfl (w.heap.size + 2) _ _ rfl rfl q2 i1 rfl (by simp [Value.oneCell']) ?_; intro w9 b9 u9)
          refine bodyPost_ret (results_cell1t rfl _ _ _ ⟨w.heap.size + 2, 0, none⟩ _ (.int .i64 0) rfl (BxS.load (t := 24) b9 Try.underlying24 i1) rfl) rfl ?_
          have hG11 : OwG w11 w3.heap.size (some ⟨gx, 0, none⟩) (n + 1) cx (ks3 ++ [⟨kk.id, xa, kk.n, xc, kk.W, kk.tp, kk.sn⟩]) (R ++ [kk.d]) := ⟨hO11, by rw [List.map_append, hO3.d]; rfl⟩
          have hF := (hG11.far u12 (by omega)).far u9 (by omega)
          have GF := grown_far G12 u9 (fun q e => by have e := Option.some.inj e; omega)
          first | exact ⟨_, _, _, _, rfl, hF.wide (by omega), GF⟩ | exact ⟨_, _, _, rfl, ⟨_, hF.wide (by omega)⟩, GF⟩
end Go.Proofs.Ytdpgblojdppfeaa
