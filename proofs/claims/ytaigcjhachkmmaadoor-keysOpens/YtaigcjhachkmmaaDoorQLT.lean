import Derived.Test.YtaigcjhachkmmaaDoorQEJ
import Derived.Test.YtaigcjhachkmmaaDoorQOn
import Derived.Test.YtaigcjhachkmmaaDoorYRl
import Derived.Test.YtaigcjhachkmmaaDoorYSm
namespace Go.Proofs.YtaigcjhachkmmaaDoor
open Go.RowKit
set_option maxRecDepth 100000
set_option linter.unusedVariables false
set_option linter.unusedSimpArgs false

/-- what Add answers -/
def adE (R : List Kd) (k : Kd) : Nat := if rmB R = true then (if kdB k = true then (if drO R k.id = true then 4 else (if R.length = 8 then 12 else 0)) else 6) else 11
def adV (R : List Kd) (k : Kd) : List Kd := if rmB R = true then (if adE R k = 0 then R ++ [k] else R) else []
set_option maxHeartbeats 32000000 in
theorem add_any (a : Option Addr) (n c : Nat) (R : List Kd) (kk : Kw) (w : World) (h : RdG w a n c R) (hk : RdI w kk.a kk.n kk.c kk.W) (hbd : I64 kk.id ∧ I64 kk.tp ∧ I64 kk.sn) :
    Calls Tryd.prog 15 #[.agg #[.slice a n c], .agg #[.int .i64 kk.id, .slice kk.a kk.n kk.c, .int .i64 kk.tp, .int .i64 kk.sn]] w fun e w' => ∃ (a' : Option Addr) (n' c' : Nat) (ks' : List Kw), e = .returned (.tuple #[.agg #[.slice a' n' c'], .int .i64 (adE R kk.d : Int)]) ∧ OwG w' w.heap.size a' n' c' ks' (adV R kk.d) ∧ w.grownBy w' none := by
  have hlR := h.len
  have b0 := BxS.new w 24 #[.slice a n c]
  have g0 := World.grownBy_alloc w (.cells #[.slice a n c] 24) none
  generalize hw0 : w.alloc (.cells #[.slice a n c] 24) = w0 at b0 g0
  have hz0 : w0.heap.size = w.heap.size + 1 := by rw [← hw0]; simp
  have b1 := BxS.new w0 36 #[.int .i64 kk.id, .slice kk.a kk.n kk.c, .int .i64 kk.tp, .int .i64 kk.sn]
  have g1 := World.grownBy_alloc w0 (.cells #[.int .i64 kk.id, .slice kk.a kk.n kk.c, .int .i64 kk.tp, .int .i64 kk.sn] 36) none
  generalize hw1 : w0.alloc (.cells #[.int .i64 kk.id, .slice kk.a kk.n kk.c, .int .i64 kk.tp, .int .i64 kk.sn] 36) = w1 at b1 g1
  have hz1 : w1.heap.size = w.heap.size + 2 := by rw [← hw1]; simp [hz0]
  rw [hz0] at b1
  have b2 := BxS.new w1 24 #[.slice none 0 0]
  have g2 := World.grownBy_alloc w1 (.cells #[.slice none 0 0] 24) none
  generalize hw2 : w1.alloc (.cells #[.slice none 0 0] 24) = w2 at b2 g2
  rw [hz1] at b2
  have sz2 : w.heap.size + 3 ≤ w2.heap.size := by rw [← hw2]; simp [hz1]
  have p0 := (b0.keep g1 (by simp)).keep g2 (by simp)
  have p1 := b1.keep g2 (by simp)
  have G2 := grown_trans (grown_trans g0 g1) g2
  have x0 : w2.cell? ⟨w.heap.size, 0, none⟩ = some (.slice a n c) := p0.cell 0 (by show 0 < 1; decide)
  obtain ⟨t0, t1, t2, t3⟩ := BxS.cell4 p1
  have i1 := Tryd.info_rg1
  have i4 := Tryd.info_ky4
  have s0 : True := trivial
  have kM := ringMayBe_any a n c R w2 (h.keep G2)
  cases hB : rmB R with
  | false =>
    have e2 : adE R kk.d = 11 := by unfold adE; rw [hB]; rfl
    have e1 : adV R kk.d = [] := by unfold adV; rw [hB]; rfl
    rw [hB] at kM
    rw [e1, e2]
    clear e1 e2
    go_enter Tryd.func15, Tryd.ntmps15
    go_wp2_with (first
      | (go_at_call 20; have _t := s0; clear s0; refine kM.mono ?_; rintro e w3 ⟨rfl, y3⟩; have q0 := p0.keep y3 (by simp); have q1 := p1.keep y3 (by simp); have q2 := b2.keep y3 (by simp); have z3 := y3.size; clear x0 t0 t1 t2 t3; have x0 : w3.cell? ⟨w.heap.size, 0, none⟩ = some (.slice a n c) := q0.cell 0 (by show 0 < 1; decide); obtain ⟨t0, t1, t2, t3⟩ := BxS.cell4 q1; have s1 : True := trivial)
      | (have _t := s1; clear s1; refine wpList_stX _ rfl _ (.tmp 4) (.tmp 9) rfl (w.heap.size + 2) _ _ rfl rfl q2 i1 rfl (by simp [Value.oneCell']) ?_; intro w9 b9 u9; skip))
    refine bodyPost_ret (results_cell1t rfl _ _ _ ⟨w.heap.size + 2, 0, none⟩ _ (.int .i64 11) rfl (BxS.load (t := 24) b9 Tryd.underlying24 i1) rfl) rfl ?_
    have GF := grown_far (grown_trans G2 y3) u9 (fun q e => by have e := Option.some.inj e; omega)
    first | exact ⟨none, 0, 0, [], rfl, OwG.nil _ _, GF⟩ | exact ⟨none, 0, 0, rfl, ⟨[], OwG.nil _ _⟩, GF⟩
  | true =>
    obtain ⟨hl8, hw8⟩ := rm_ok hB
    rw [hB] at kM
    have kC := fun wz hz => copyRing_any a n c R wz hz (fun k hk => by rw [hw8 k hk]; decide) (by omega)
    have kK := fun wz hz => keyMayBe_any kk.id kk.a kk.n kk.c kk.tp kk.sn kk.W wz hz
    have ekb : kmB kk.id kk.n kk.W kk.tp kk.sn = kdB kk.d := by unfold kdB; rw [← hk.len]; rfl
    simp only [ekb] at kK
    have kF := fun a' c' wz hz => find_any a' n c' R kk.id wz hz
    have HfX : Hid (fiX R kk.id = if fiN R kk.id < R.length then (fiN R kk.id : Int) else -1) := rfl
    clear ekb
    cases hkb : kdB kk.d with
    | false =>
      have e2 : adE R kk.d = 6 := by unfold adE; rw [hB, hkb]; rfl
      have e1 : adV R kk.d = R := by unfold adV; rw [hB, e2]; rfl
      simp only [hkb] at kK
      rw [e1, e2]
      clear e1 e2
      go_enter Tryd.func15, Tryd.ntmps15
      go_wp2_with (first
        | (go_at_call 20; have _t := s0; clear s0; refine kM.mono ?_; rintro e w3 ⟨rfl, y3⟩; have q0 := p0.keep y3 (by simp); have q1 := p1.keep y3 (by simp); have q2 := b2.keep y3 (by simp); have z3 := y3.size; clear x0 t0 t1 t2 t3; have x0 : w3.cell? ⟨w.heap.size, 0, none⟩ = some (.slice a n c) := q0.cell 0 (by show 0 < 1; decide); obtain ⟨t0, t1, t2, t3⟩ := BxS.cell4 q1; have s1 : True := trivial)
        | (go_at_call 21; have _t := s1; clear s1; refine (kC _ (h.keep (grown_trans G2 y3))).mono ?_; rintro e w4 ⟨a3, c3, ks3, rfl, hO3, y4⟩; have q0 := q0.keep y4 (by simp); have q1 := q1.keep y4 (by simp); have q2 := q2.keep y4 (by simp); clear x0 t0 t1 t2 t3; have s2 : True := trivial)
        | (have _t := s2; clear s2; refine wpList_stX _ rfl _ (.tmp 2) (.tmp 11) rfl w.heap.size _ _ rfl rfl q0 i1 rfl (by simp [Value.oneCell']) ?_; intro w5 q0 u5; have q1 := q1.keep u5 (fun e => by have e := Option.some.inj e; omega); have q2 := q2.keep u5 (fun e => by have e := Option.some.inj e; omega); have hO5 := hO3.far u5 (by omega); have G5 := grown_far (grown_trans (grown_trans G2 y3) y4) u5 (fun q e => by have e := Option.some.inj e; omega); have x0 : w5.cell? ⟨w.heap.size, 0, none⟩ = some (.slice a3 n c3) := q0.cell 0 (by show 0 < 1; decide); obtain ⟨t0, t1, t2, t3⟩ := BxS.cell4 q1; have s3 : True := trivial)
        | (go_at_call 33; have _t := s3; clear s3; refine (kK _ (hk.keep G5)).mono ?_; rintro e w6 ⟨rfl, y6⟩; have q0 := q0.keep y6 (by simp); have q1 := q1.keep y6 (by simp); have q2 := q2.keep y6 (by simp); have hO6 := hO5.keep y6; have G6 := grown_trans G5 y6; clear x0 t0 t1 t2 t3; have x0 : w6.cell? ⟨w.heap.size, 0, none⟩ = some (.slice a3 n c3) := q0.cell 0 (by show 0 < 1; decide); obtain ⟨t0, t1, t2, t3⟩ := BxS.cell4 q1; have s4 : True := trivial)
        | (have _t := s4; clear s4; refine wpList_stX _ rfl _ (.tmp 4) (.tmp 16) rfl (w.heap.size + 2) _ _ rfl rfl q2 i1 rfl (by simp [Value.oneCell']) ?_; intro w9 b9 u9; skip))
      refine bodyPost_ret (results_cell1t rfl _ _ _ ⟨w.heap.size + 2, 0, none⟩ _ (.int .i64 6) rfl (BxS.load (t := 24) b9 Tryd.underlying24 i1) rfl) rfl ?_
      have hF := hO6.far u9 (by omega)
      have GF := grown_far G6 u9 (fun q e => by have e := Option.some.inj e; omega)
      first | exact ⟨_, _, _, _, rfl, hF.wide (by omega), GF⟩ | exact ⟨_, _, _, rfl, ⟨_, hF.wide (by omega)⟩, GF⟩
    | true =>
      simp only [hkb] at kK
      have hkn : kk.n ≤ 8 := by
        have h2 := hkb
        unfold kdB kmB at h2
        simp only [Bool.and_eq_true, beq_iff_eq] at h2
        have h3 := h2.1.1.2
        unfold wdE at h3
        by_cases h8 : kk.d.W.length = 8
        · rw [← hk.len]; exact Nat.le_of_eq h8
        · rw [if_neg h8] at h3; cases h3
      cases hO : drO R kk.id with
      | true =>
        have e2 : adE R kk.d = 4 := by unfold adE; rw [hB, hkb]; show (if drO R kk.id = true then _ else _) = _; rw [hO]; rfl
        have e1 : adV R kk.d = R := by unfold adV; rw [hB, e2]; rfl
        have hfx : ∃ j : Nat, fiX R kk.id = (j : Int) := ⟨fiN R kk.id, by rw [HfX.out, if_pos (of_decide_eq_true hO)]⟩
        obtain ⟨j, hj⟩ := hfx
        simp only [hj] at kF
        have hj0 : (0 : Int) ≤ (j : Int) := by omega
        rw [e1, e2]
        clear e1 e2
        go_enter Tryd.func15, Tryd.ntmps15
        go_wp2_with (first
          | (go_at_call 20; have _t := s0; clear s0; refine kM.mono ?_; rintro e w3 ⟨rfl, y3⟩; have q0 := p0.keep y3 (by simp); have q1 := p1.keep y3 (by simp); have q2 := b2.keep y3 (by simp); have z3 := y3.size; clear x0 t0 t1 t2 t3; have x0 : w3.cell? ⟨w.heap.size, 0, none⟩ = some (.slice a n c) := q0.cell 0 (by show 0 < 1; decide); obtain ⟨t0, t1, t2, t3⟩ := BxS.cell4 q1; have s1 : True := trivial)
          | (go_at_call 21; have _t := s1; clear s1; refine (kC _ (h.keep (grown_trans G2 y3))).mono ?_; rintro e w4 ⟨a3, c3, ks3, rfl, hO3, y4⟩; have q0 := q0.keep y4 (by simp); have q1 := q1.keep y4 (by simp); have q2 := q2.keep y4 (by simp); clear x0 t0 t1 t2 t3; have s2 : True := trivial)
          | (have _t := s2; clear s2; refine wpList_stX _ rfl _ (.tmp 2) (.tmp 11) rfl w.heap.size _ _ rfl rfl q0 i1 rfl (by simp [Value.oneCell']) ?_; intro w5 q0 u5; have q1 := q1.keep u5 (fun e => by have e := Option.some.inj e; omega); have q2 := q2.keep u5 (fun e => by have e := Option.some.inj e; omega); have hO5 := hO3.far u5 (by omega); have G5 := grown_far (grown_trans (grown_trans G2 y3) y4) u5 (fun q e => by have e := Option.some.inj e; omega); have x0 : w5.cell? ⟨w.heap.size, 0, none⟩ = some (.slice a3 n c3) := q0.cell 0 (by show 0 < 1; decide); obtain ⟨t0, t1, t2, t3⟩ := BxS.cell4 q1; have s3 : True := trivial)
          | (go_at_call 33; have _t := s3; clear s3; refine (kK _ (hk.keep G5)).mono ?_; rintro e w6 ⟨rfl, y6⟩; have q0 := q0.keep y6 (by simp); have q1 := q1.keep y6 (by simp); have q2 := q2.keep y6 (by simp); have hO6 := hO5.keep y6; have G6 := grown_trans G5 y6; clear x0 t0 t1 t2 t3; have x0 : w6.cell? ⟨w.heap.size, 0, none⟩ = some (.slice a3 n c3) := q0.cell 0 (by show 0 < 1; decide); obtain ⟨t0, t1, t2, t3⟩ := BxS.cell4 q1; have s4 : True := trivial)
          | (go_at_call 24; have _t := s4; clear s4; refine (kF _ _ _ hO6.rd).mono ?_; rintro e w7 ⟨rfl, y7⟩; have q0 := q0.keep y7 (by simp); have q1 := q1.keep y7 (by simp); have q2 := q2.keep y7 (by simp); have hO7 := hO6.keep y7; have G7 := grown_trans G6 y7; clear x0 t0 t1 t2 t3; have x0 : w7.cell? ⟨w.heap.size, 0, none⟩ = some (.slice a3 n c3) := q0.cell 0 (by show 0 < 1; decide); obtain ⟨t0, t1, t2, t3⟩ := BxS.cell4 q1; have s5 : True := trivial)
          | (have _t := s5; clear s5; refine wpList_stX _ rfl _ (.tmp 4) (.tmp 23) rfl (w.heap.size + 2) _ _ rfl rfl q2 i1 rfl (by simp [Value.oneCell']) ?_; intro w9 b9 u9; skip))
        refine bodyPost_ret (results_cell1t rfl _ _ _ ⟨w.heap.size + 2, 0, none⟩ _ (.int .i64 4) rfl (BxS.load (t := 24) b9 Tryd.underlying24 i1) rfl) rfl ?_
        have hF := hO7.far u9 (by omega)
        have GF := grown_far G7 u9 (fun q e => by have e := Option.some.inj e; omega)
        first | exact ⟨_, _, _, _, rfl, hF.wide (by omega), GF⟩ | exact ⟨_, _, _, rfl, ⟨_, hF.wide (by omega)⟩, GF⟩
      | false =>
        have hfx : fiX R kk.id = -1 := by rw [HfX.out, if_neg (of_decide_eq_false hO)]
        simp only [hfx] at kF
        by_cases h8 : R.length = 8
        · have e2 : adE R kk.d = 12 := by unfold adE; rw [hB, hkb]; show (if drO R kk.id = true then _ else _) = _; rw [hO, if_pos h8]; rfl
          have e1 : adV R kk.d = R := by unfold adV; rw [hB, e2]; rfl
          have h8' : ((n : Int) == 8) = true := by simp; omega
          rw [e1, e2]
          clear e1 e2
          go_enter Tryd.func15, Tryd.ntmps15
          go_wp2_with (first
            | (go_at_call 20; have _t := s0; clear s0; refine kM.mono ?_; rintro e w3 ⟨rfl, y3⟩; have q0 := p0.keep y3 (by simp); have q1 := p1.keep y3 (by simp); have q2 := b2.keep y3 (by simp); have z3 := y3.size; clear x0 t0 t1 t2 t3; have x0 : w3.cell? ⟨w.heap.size, 0, none⟩ = some (.slice a n c) := q0.cell 0 (by show 0 < 1; decide); obtain ⟨t0, t1, t2, t3⟩ := BxS.cell4 q1; have s1 : True := trivial)
            | (go_at_call 21; have _t := s1; clear s1; refine (kC _ (h.keep (grown_trans G2 y3))).mono ?_; rintro e w4 ⟨a3, c3, ks3, rfl, hO3, y4⟩; have q0 := q0.keep y4 (by simp); have q1 := q1.keep y4 (by simp); have q2 := q2.keep y4 (by simp); clear x0 t0 t1 t2 t3; have s2 : True := trivial)
            | (have _t := s2; clear s2; refine wpList_stX _ rfl _ (.tmp 2) (.tmp 11) rfl w.heap.size _ _ rfl rfl q0 i1 rfl (by simp [Value.oneCell']) ?_; intro w5 q0 u5; have q1 := q1.keep u5 (fun e => by have e := Option.some.inj e; omega); have q2 := q2.keep u5 (fun e => by have e := Option.some.inj e; omega); have hO5 := hO3.far u5 (by omega); have G5 := grown_far (grown_trans (grown_trans G2 y3) y4) u5 (fun q e => by have e := Option.some.inj e; omega); have x0 : w5.cell? ⟨w.heap.size, 0, none⟩ = some (.slice a3 n c3) := q0.cell 0 (by show 0 < 1; decide); obtain ⟨t0, t1, t2, t3⟩ := BxS.cell4 q1; have s3 : True := trivial)
            | (go_at_call 33; have _t := s3; clear s3; refine (kK _ (hk.keep G5)).mono ?_; rintro e w6 ⟨rfl, y6⟩; have q0 := q0.keep y6 (by simp); have q1 := q1.keep y6 (by simp); have q2 := q2.keep y6 (by simp); have hO6 := hO5.keep y6; have G6 := grown_trans G5 y6; clear x0 t0 t1 t2 t3; have x0 : w6.cell? ⟨w.heap.size, 0, none⟩ = some (.slice a3 n c3) := q0.cell 0 (by show 0 < 1; decide); obtain ⟨t0, t1, t2, t3⟩ := BxS.cell4 q1; have s4 : True := trivial)
            | (go_at_call 24; have _t := s4; clear s4; refine (kF _ _ _ hO6.rd).mono ?_; rintro e w7 ⟨rfl, y7⟩; have q0 := q0.keep y7 (by simp); have q1 := q1.keep y7 (by simp); have q2 := q2.keep y7 (by simp); have hO7 := hO6.keep y7; have G7 := grown_trans G6 y7; clear x0 t0 t1 t2 t3; have x0 : w7.cell? ⟨w.heap.size, 0, none⟩ = some (.slice a3 n c3) := q0.cell 0 (by show 0 < 1; decide); obtain ⟨t0, t1, t2, t3⟩ := BxS.cell4 q1; have s5 : True := trivial)
            | (have _t := s5; clear s5; refine wpList_stX _ rfl _ (.tmp 4) (.tmp 29) rfl (w.heap.size + 2) _ _ rfl rfl q2 i1 rfl (by simp [Value.oneCell']) ?_; intro w9 b9 u9; skip))
          refine bodyPost_ret (results_cell1t rfl _ _ _ ⟨w.heap.size + 2, 0, none⟩ _ (.int .i64 12) rfl (BxS.load (t := 24) b9 Tryd.underlying24 i1) rfl) rfl ?_
          have hF := hO7.far u9 (by omega)
          have GF := grown_far G7 u9 (fun q e => by have e := Option.some.inj e; omega)
          first | exact ⟨_, _, _, _, rfl, hF.wide (by omega), GF⟩ | exact ⟨_, _, _, rfl, ⟨_, hF.wide (by omega)⟩, GF⟩
        · have e2 : adE R kk.d = 0 := by unfold adE; rw [hB, hkb]; show (if drO R kk.id = true then _ else _) = _; rw [hO, if_neg h8]; rfl
          have e1 : adV R kk.d = R ++ [kk.d] := by unfold adV; rw [hB, e2]; rfl
          have h8' : ((n : Int) == 8) = false := by simp; omega
          rw [e1, e2]
          clear e1 e2
          go_enter Tryd.func15, Tryd.ntmps15
          go_wp2_with (first
            | (go_at_call 20; have _t := s0; clear s0; refine kM.mono ?_; rintro e w3 ⟨rfl, y3⟩; have q0 := p0.keep y3 (by simp); have q1 := p1.keep y3 (by simp); have q2 := b2.keep y3 (by simp); have z3 := y3.size; clear x0 t0 t1 t2 t3; have x0 : w3.cell? ⟨w.heap.size, 0, none⟩ = some (.slice a n c) := q0.cell 0 (by show 0 < 1; decide); obtain ⟨t0, t1, t2, t3⟩ := BxS.cell4 q1; have s1 : True := trivial)
            | (go_at_call 21; have _t := s1; clear s1; refine (kC _ (h.keep (grown_trans G2 y3))).mono ?_; rintro e w4 ⟨a3, c3, ks3, rfl, hO3, y4⟩; have q0 := q0.keep y4 (by simp); have q1 := q1.keep y4 (by simp); have q2 := q2.keep y4 (by simp); clear x0 t0 t1 t2 t3; have s2 : True := trivial)
            | (have _t := s2; clear s2; refine wpList_stX _ rfl _ (.tmp 2) (.tmp 11) rfl w.heap.size _ _ rfl rfl q0 i1 rfl (by simp [Value.oneCell']) ?_; intro w5 q0 u5; have q1 := q1.keep u5 (fun e => by have e := Option.some.inj e; omega); have q2 := q2.keep u5 (fun e => by have e := Option.some.inj e; omega); have hO5 := hO3.far u5 (by omega); have G5 := grown_far (grown_trans (grown_trans G2 y3) y4) u5 (fun q e => by have e := Option.some.inj e; omega); have x0 : w5.cell? ⟨w.heap.size, 0, none⟩ = some (.slice a3 n c3) := q0.cell 0 (by show 0 < 1; decide); obtain ⟨t0, t1, t2, t3⟩ := BxS.cell4 q1; have s3 : True := trivial)
            | (go_at_call 33; have _t := s3; clear s3; refine (kK _ (hk.keep G5)).mono ?_; rintro e w6 ⟨rfl, y6⟩; have q0 := q0.keep y6 (by simp); have q1 := q1.keep y6 (by simp); have q2 := q2.keep y6 (by simp); have hO6 := hO5.keep y6; have G6 := grown_trans G5 y6; clear x0 t0 t1 t2 t3; have x0 : w6.cell? ⟨w.heap.size, 0, none⟩ = some (.slice a3 n c3) := q0.cell 0 (by show 0 < 1; decide); obtain ⟨t0, t1, t2, t3⟩ := BxS.cell4 q1; have s4 : True := trivial)
            | (go_at_call 24; have _t := s4; clear s4; refine (kF _ _ _ hO6.rd).mono ?_; rintro e w7 ⟨rfl, y7⟩; have q0 := q0.keep y7 (by simp); have q1 := q1.keep y7 (by simp); have q2 := q2.keep y7 (by simp); have hO7 := hO6.keep y7; have G7 := grown_trans G6 y7; clear x0 t0 t1 t2 t3; have x0 : w7.cell? ⟨w.heap.size, 0, none⟩ = some (.slice a3 n c3) := q0.cell 0 (by show 0 < 1; decide); obtain ⟨t0, t1, t2, t3⟩ := BxS.cell4 q1; have s5 : True := trivial))
          have SD := grown_drew w7 none
          have hO8 := hO7.keep SD
          have SS : BxS w7.drew w.heap.size 24 #[.slice a3 n c3] ∧ BxS w7.drew (w.heap.size + 1) 36 #[.int .i64 kk.id, .slice kk.a kk.n kk.c, .int .i64 kk.tp, .int .i64 kk.sn] := ⟨q0.keep SD (by simp), q1.keep SD (by simp)⟩
          have q2 := q2.keep SD (by simp)
          have G8 := grown_trans G7 SD
          have hk8 := hk.keep G8
          refine wp_regionL (fun wz => BxS wz w.heap.size 24 #[.slice a3 n c3] ∧ BxS wz (w.heap.size + 1) 36 #[.int .i64 kk.id, .slice kk.a kk.n kk.c, .int .i64 kk.tp, .int .i64 kk.sn]) [7] #[false, false, false, false, false, false, false, false] rfl (by kernel_rfl) ?_
          refine wpAnyZ_take [1, 5, 7] 0 (.pointer (some ⟨w.heap.size, 0, none⟩)) rfl (by kernel_rfl) (fun _ _ _ h => h) SS rfl (by rintro wz ⟨hz1, hz2⟩; have z0 : wz.cell? ⟨w.heap.size, 0, none⟩ = some (.slice a3 n c3) := hz1.cell 0 (by show 0 < 1; decide); obtain ⟨z1, z2, z3, z4⟩ := BxS.cell4 hz2; go_simp) ?_
          try simp only [List.getElem_toArray, List.getElem_cons_succ, List.getElem_cons_zero, Act.put, List.setIfInBounds_toArray, List.set_cons_zero, List.set_cons_succ]
          refine wpAnyZ_take [5, 7] 1 (.slice a3 n c3) rfl (by kernel_rfl) (fun _ _ _ h => h) SS rfl (by rintro wz ⟨hz1, hz2⟩; have z0 : wz.cell? ⟨w.heap.size, 0, none⟩ = some (.slice a3 n c3) := hz1.cell 0 (by show 0 < 1; decide); obtain ⟨z1, z2, z3, z4⟩ := BxS.cell4 hz2; go_simp) ?_
          try simp only [List.getElem_toArray, List.getElem_cons_succ, List.getElem_cons_zero, Act.put, List.setIfInBounds_toArray, List.set_cons_zero, List.set_cons_succ]
          refine wpAnyZ_take [3, 4, 5, 7] 2 (.agg #[.int .i64 kk.id, .slice kk.a kk.n kk.c, .int .i64 kk.tp, .int .i64 kk.sn]) rfl (by kernel_rfl) (fun _ _ _ h => h) SS rfl (by rintro wz ⟨hz1, hz2⟩; have z0 : wz.cell? ⟨w.heap.size, 0, none⟩ = some (.slice a3 n c3) := hz1.cell 0 (by show 0 < 1; decide); obtain ⟨z1, z2, z3, z4⟩ := BxS.cell4 hz2; go_simp) ?_
          try simp only [List.getElem_toArray, List.getElem_cons_succ, List.getElem_cons_zero, Act.put, List.setIfInBounds_toArray, List.set_cons_zero, List.set_cons_succ]
          generalize w7.drew = w8 at *
          refine wpAnyZ_oneB 3 rfl (by kernel_rfl) (fun K hK => ?_)
          go_simp
          go_at_call 35
          refine (copyKey_any kk _ hk8 (by omega)).mono ?_
          rintro e w10 ⟨xa, xc, rfl, hX, y10⟩
          dsimp only
          have hO10 := hO8.keep y10
          have q2 := q2.keep y10 (by simp)
          have G10 := grown_trans G8 y10
          have SS : BxS w10 w.heap.size 24 #[.slice a3 n c3] ∧ BxS w10 (w.heap.size + 1) 36 #[.int .i64 kk.id, .slice kk.a kk.n kk.c, .int .i64 kk.tp, .int .i64 kk.sn] := ⟨SS.1.keep y10 (by simp), SS.2.keep y10 (by simp)⟩
          refine hK _ _ (fun _ => SS) ?_
          try simp only [List.getElem_toArray, List.getElem_cons_succ, List.getElem_cons_zero, Act.put, List.setIfInBounds_toArray, List.set_cons_zero, List.set_cons_succ]
          refine wpAnyZ_oneB 4 rfl (by kernel_rfl) (fun K hK => ?_)
          go_simp
          have yA := World.grownBy_alloc w10 (.cells #[.int .i64 kk.id, .slice xa kk.n xc, .int .i64 kk.tp, .int .i64 kk.sn] 36) none
          refine hK _ _ (fun _ => ⟨SS.1.keep yA (by simp), SS.2.keep yA (by simp)⟩) ?_
          try simp only [List.getElem_toArray, List.getElem_cons_succ, List.getElem_cons_zero, Act.put, List.setIfInBounds_toArray, List.set_cons_zero, List.set_cons_succ]
          have z10 := G10.size
          have z8 := y10.size
          have zl : w3.heap.size ≤ w8.heap.size := by have := y4.size; have := u5.size; have := y6.size; have := y7.size; have := SD.size; omega
          refine wpAnyZ_oneB 5 rfl (by kernel_rfl) (fun K hK => ?_)
          refine step_psK w10 w3.heap.size ⟨kk.id, xa, kk.n, xc, kk.W, kk.tp, kk.sn⟩ rfl _ _ rfl a3 n c3 ks3 rfl hO10.o (by omega) rfl (by omega) _ rfl (hX.wide (by omega)) hbd (fun q hq y hy e => by have h9 := (hO8.o.hi (.inr ⟨q, hq, hy⟩)).1; have h10 := hX.new y e; omega) ?_
          intro gx cx w11 hO11 u11 hgx
          have hlo11 : ∀ y, (Value.slice a3 n c3).ownBlock = some y → w3.heap.size ≤ y := fun y e => (hO8.o.hi (.inl e)).2
          have hB11 := SS.1.keep u11 (fun e => by have := hlo11 _ e.symm; omega)
          have hK11 := SS.2.keep u11 (fun e => by have := hlo11 _ e.symm; omega)
          have q2 := q2.keep u11 (fun e => by have := hlo11 _ e.symm; omega)
          have G11 := grown_far G10 u11 (fun y e => by have := hlo11 _ e; omega)
          have SS : BxS w11 w.heap.size 24 #[.slice a3 n c3] ∧ BxS w11 (w.heap.size + 1) 36 #[.int .i64 kk.id, .slice kk.a kk.n kk.c, .int .i64 kk.tp, .int .i64 kk.sn] := ⟨hB11, hK11⟩
          refine hK _ _ (fun _ => SS) ?_
          try simp only [List.getElem_toArray, List.getElem_cons_succ, List.getElem_cons_zero, Act.put, List.setIfInBounds_toArray, List.set_cons_zero, List.set_cons_succ]
          refine wpAnyZ_take [7] 6 (.pointer (some ⟨w.heap.size, 0, none⟩)) rfl (by kernel_rfl) (fun _ _ _ h => h) SS rfl (by rintro wz ⟨hz1, hz2⟩; have z0 : wz.cell? ⟨w.heap.size, 0, none⟩ = some (.slice a3 n c3) := hz1.cell 0 (by show 0 < 1; decide); obtain ⟨z1, z2, z3, z4⟩ := BxS.cell4 hz2; go_simp) ?_
          try simp only [List.getElem_toArray, List.getElem_cons_succ, List.getElem_cons_zero, Act.put, List.setIfInBounds_toArray, List.set_cons_zero, List.set_cons_succ]
          refine wpAnyZ_oneB 7 rfl (by kernel_rfl) (fun K hK => ?_)
          refine step_stC _ rfl _ _ _ rfl w.heap.size 0 24 _ #[.slice (some ⟨gx, 0, none⟩) (n + 1) cx] (.slice (some ⟨gx, 0, none⟩) (n + 1) cx) rfl rfl SS.1 (stc_keys _ _ _ _ _) (by show 0 < 1; decide) rfl ?_
          intro w12 b12 u12
          refine hK _ _ (fun h => absurd (by decide) h) ?_
          try simp only [List.getElem_toArray, List.getElem_cons_succ, List.getElem_cons_zero, Act.put, List.setIfInBounds_toArray, List.set_cons_zero, List.set_cons_succ]
          refine wpAnyZ_doneB (by kernel_rfl) ?_ _
          have q2 := q2.keep u12 (fun e => by have e := Option.some.inj e; omega)
          have G12 := grown_far G11 u12 (fun q e => by have e := Option.some.inj e; omega)
          have x12 : w12.cell? ⟨w.heap.size, 0, none⟩ = some (.slice (some ⟨gx, 0, none⟩) (n + 1) cx) := b12.cell 0 (by show 0 < 1; decide)
          go_wp2_with (refine wpList_stX _ rfl _ (.tmp 4) (.tmp 37) rfl (w.heap.size + 2) _ _ rfl rfl q2 i1 rfl (by simp [Value.oneCell']) ?_; intro w9 b9 u9)
          refine bodyPost_ret (results_cell1t rfl _ _ _ ⟨w.heap.size + 2, 0, none⟩ _ (.int .i64 0) rfl (BxS.load (t := 24) b9 Tryd.underlying24 i1) rfl) rfl ?_
          have hG11 : OwG w11 w3.heap.size (some ⟨gx, 0, none⟩) (n + 1) cx (ks3 ++ [⟨kk.id, xa, kk.n, xc, kk.W, kk.tp, kk.sn⟩]) (R ++ [kk.d]) := ⟨hO11, by rw [List.map_append, hO3.d]; rfl⟩
          have hF := (hG11.far u12 (by omega)).far u9 (by omega)
          have GF := grown_far G12 u9 (fun q e => by have e := Option.some.inj e; omega)
          first | exact ⟨_, _, _, _, rfl, hF.wide (by omega), GF⟩ | exact ⟨_, _, _, rfl, ⟨_, hF.wide (by omega)⟩, GF⟩

/-- hidden twice is what it was -/
theorem cv_cv (W : Nat → Nat) (c : Nat) (B : List Nat) : cvL W c (cvL W c B) = B := by
  have at' : ∀ (C : List Nat) (i : Nat), i < C.length → nth (cvL W c C) i = cvB W c C i := fun C i h => by
    unfold nth cvL
    rw [List.getD_eq_getElem?_getD, List.getElem?_map, List.getElem?_range h]
    rfl
  refine List.ext_getElem? (fun i => ?_)
  by_cases h : i < B.length
  · have h1 : i < (cvL W c B).length := by rw [cvL_len]; exact h
    have h2 : i < (cvL W c (cvL W c B)).length := by rw [cvL_len]; exact h1
    have e := at' (cvL W c B) i h1
    unfold cvB at e
    rw [at' B i h] at e
    unfold cvB at e
    rw [Nat.xor_assoc, Nat.xor_self, Nat.xor_zero] at e
    unfold nth at e
    rw [List.getD_eq_getElem?_getD, List.getD_eq_getElem?_getD, List.getElem?_eq_getElem h, List.getElem?_eq_getElem h2] at e
    rw [List.getElem?_eq_getElem h, List.getElem?_eq_getElem h2]
    exact congrArg some e
  · rw [List.getElem?_eq_none (by rw [cvL_len, cvL_len]; omega), List.getElem?_eq_none (by omega)]
theorem beT_at (s x k i : Nat) (h : i < k) : nth (beT s x k) i = beB s x i := by
  unfold nth beT
  rw [List.getD_eq_getElem?_getD, List.getElem?_map, List.getElem?_range h]
  rfl
/-- a number's bytes, read again -/
theorem nuN_beT (s x : Nat) (hx : x < 2 ^ (s * 8)) (k : Nat) (hk : k ≤ s) : nuN (beT s x s) k = x / 2 ^ ((s - k) * 8) := by
  induction k with
  | zero => rw [Nat.sub_zero, Nat.div_eq_of_lt hx]; rfl
  | succ k ih =>
    show nuN (beT s x s) k * 256 + nth (beT s x s) k = _
    rw [ih (by omega), beT_at s x s k (by omega)]
    unfold beB
    rw [show s - 1 - k = s - (k + 1) by omega, show (s - k) * 8 = (s - (k + 1)) * 8 + 8 by omega, Nat.pow_add, ← Nat.div_div_eq_div_mul]
    generalize x / 2 ^ ((s - (k + 1)) * 8) = q
    show q / 256 * 256 + q % 256 = q
    omega
theorem slH_len (W : Nat → Nat) (c i : Nat) (B : List Nat) : (slH W c i B).length = B.length + 7 := by
  unfold slH
  rw [List.length_append, List.length_append, beT_len, cvL_len]
  show 1 + 6 + _ = _
  omega
theorem tagL_len8 (W : Nat → Nat) (c : Nat) (B : List Nat) : (tagL W c B).length = 8 := beT_len _ _ _
/-- what Open reads of a head and eight bytes -/
theorem on_head (W : Nat → Nat) {c i : Nat} {B X : List Nat} (hc : c < 281474976710656) (hX : X.length = 8) : nth (slH W c i B ++ X) 0 = i ∧ onC (slH W c i B ++ X) = c ∧ (slH W c i B ++ X).length = B.length + 15 ∧ (slH W c i B ++ X).take ((slH W c i B ++ X).length - 8) = slH W c i B ∧ (slH W c i B ++ X).drop ((slH W c i B ++ X).length - 8) = X ∧ (slH W c i B).drop 7 = cvL W c B := by
  have hl : (slH W c i B ++ X).length = B.length + 15 := by rw [List.length_append, slH_len, hX]
  have h8 : (slH W c i B ++ X).length - 8 = (slH W c i B).length := by rw [hl, slH_len]; omega
  refine ⟨rfl, ?_, hl, by rw [h8, List.take_left], by rw [h8, List.drop_left], ?_⟩
  · unfold onC slH
    rw [show ([i] ++ beT 6 c 6 ++ cvL W c B ++ X).drop 1 = beT 6 c 6 ++ (cvL W c B ++ X) by simp, List.take_left' (beT_len _ _ _), nuN_beT 6 c (by omega) 6 (Nat.le_refl _)]
    show c / 1 = c
    exact Nat.div_one c
  · unfold slH
    exact List.drop_left' (by rw [List.length_append, beT_len]; rfl)
/-- what is sealed is opened, if it is not too old -/
theorem on_sealed {R : List Kd} {c i : Nat} {B : List Nat} (hR : rmB R = true) (hO : drO R (i : Int) = true) (hc : c < 281474976710656) (hB : B.length ≤ 1000) (k : Kd) (hk : R.getD (fiN R (i : Int)) kd0 = k) :
    onE R (slL (fun x => (nthI k.W x).toNat) c i B) = (if oldB k.tp k.sn.toNat c = true then 13 else 0) ∧ (oldB k.tp k.sn.toNat c = false → onY R (slL (fun x => (nthI k.W x).toNat) c i B) = B ∧ onI R (slL (fun x => (nthI k.W x).toNat) c i B) = i ∧ onV R (slL (fun x => (nthI k.W x).toNat) c i B) = R.set (fiN R (i : Int)) ⟨k.id, k.W, opT k.tp c, (opS k.tp k.sn.toNat c : Int)⟩) := by
  obtain ⟨h0, h1, h2, h3, h4, h5⟩ := on_head (fun x => (nthI k.W x).toNat) (i := i) (B := B) (X := tagL (fun x => (nthI k.W x).toNat) c (slH (fun x => (nthI k.W x).toNat) c i B)) hc (tagL_len8 _ _ _)
  have e : slL (fun x => (nthI k.W x).toNat) c i B = slH (fun x => (nthI k.W x).toNat) c i B ++ tagL (fun x => (nthI k.W x).toNat) c (slH (fun x => (nthI k.W x).toNat) c i B) := rfl
  rw [← e] at h0 h1 h2 h3 h4
  generalize hS : slL (fun x => (nthI k.W x).toNat) c i B = S at h0 h1 h2 h3 h4
  have hK : onK R S = k := by unfold onK; rw [h0]; exact hk
  have hW : onW R S = fun x => (nthI k.W x).toNat := by funext x; unfold onW; rw [hK]
  have hT : onT R S = true := by unfold onT; rw [hW, h1, h3, h4]; exact decide_eq_true rfl
  have hw : kwB (S.length : Int) 15 1015 = true := kwB_t (by rw [h2]; omega)
  have hE : onE R S = (if oldB k.tp k.sn.toNat c = true then 13 else 0) := by
    unfold onE
    rw [if_pos hR, if_pos hw, h0, if_pos hO, if_pos hT, hK, h1]
  refine ⟨hE, fun ho => ?_⟩
  have hE : onE R S = 0 := by rw [hE, ho]; rfl
  refine ⟨?_, ?_, ?_⟩
  · unfold onY
    rw [if_pos hE, hW, h1, h3, h5]
    exact cv_cv _ _ _
  · unfold onI
    rw [if_pos hE, h0]
  · unfold onV
    rw [if_pos hR, if_pos hE, h0]
    unfold onX
    rw [hK, h1]
/-- other bytes in the tag's place are no tag -/
theorem on_wrong {R : List Kd} {c i : Nat} {B X : List Nat} (hR : rmB R = true) (hc : c < 281474976710656) (hB : B.length ≤ 1000) (k : Kd) (hk : R.getD (fiN R (i : Int)) kd0 = k) (hX : X.length = 8) (hne : X ≠ tagL (fun x => (nthI k.W x).toNat) c (slH (fun x => (nthI k.W x).toNat) c i B)) :
    onE R (slH (fun x => (nthI k.W x).toNat) c i B ++ X) = 14 := by
  obtain ⟨h0, h1, h2, h3, h4, h5⟩ := on_head (fun x => (nthI k.W x).toNat) (i := i) (B := B) (X := X) hc hX
  generalize hS : slH (fun x => (nthI k.W x).toNat) c i B ++ X = S at h0 h1 h2 h3 h4
  have hK : onK R S = k := by unfold onK; rw [h0]; exact hk
  have hW : onW R S = fun x => (nthI k.W x).toNat := by funext x; unfold onW; rw [hK]
  have hT : onT R S = false := by unfold onT; rw [hW, h1, h3, h4]; exact decide_eq_false hne
  have hw : kwB (S.length : Int) 15 1015 = true := kwB_t (by rw [h2]; omega)
  unfold onE
  rw [if_pos hR, if_pos hw, hT]
  split <;> rfl
/-- a ring of one key -/
theorem rm_one {k : Kd} (h : kdB k = true) : rmB [k] = true := by
  show (true && (true && (kdB k && !false))) = true
  rw [h]; rfl
theorem fi_one (k : Kd) : fiN [k] k.id = 0 := by
  show (if k.id = k.id then 0 else _) = 0
  rw [if_pos rfl]
theorem dr_one (k : Kd) : drO [k] k.id = true := by
  unfold drO; rw [fi_one]; rfl
/-- behind the first counter nothing was seen -/
theorem op_first (c : Nat) : opT (-1) c = (c : Int) ∧ opS (-1) 0 c = 0 ∧ oldB (-1) 0 c = false := by
  refine ⟨?_, ?_, ?_⟩
  · unfold opT; rw [if_neg (by omega)]
  · unfold opS; rw [if_neg (by omega), if_pos (by decide)]
  · unfold oldB; rw [if_pos (by omega)]
theorem old_same (s c : Nat) : oldB (c : Int) s c = true := by
  unfold oldB
  rw [if_neg (by omega), Int.sub_self]
  rfl

/-- what a key keeps in mind of counters from 'base' on: t - 1 is the highest that was (t = 0: none was), D: which were -/
structure On1 (base t s : Nat) (tp : Int) (D : Nat → Bool) : Prop where
  no : t = 0 → tp = -1 ∧ s = 0 ∧ ∀ j, D j = false
  so : 0 < t → tp = (base : Int) + ((t : Int) - 1) ∧ D (t - 1) = true ∧ ∀ j, t ≤ j → D j = false
  bit : ∀ m, s.testBit m = (decide (m < 62) && (decide (m + 1 < t) && D (t - 2 - m)))
def frB (t : Nat) (D : Nat → Bool) (n : Nat) : Bool := !D n && decide ((t : Int) - 1 - 62 ≤ (n : Int))
theorem On1.first (base : Nat) : On1 base 0 0 (-1) (fun _ => false) :=
  ⟨fun _ => ⟨rfl, rfl, fun _ => rfl⟩, fun h => absurd h (by decide), fun m => by simp⟩
theorem On1.old {base t s : Nat} {tp : Int} {D : Nat → Bool} (h : On1 base t s tp D) (n : Nat) : oldB tp s (base + n) = !frB t D n := by
  unfold oldB frB
  by_cases ht : t = 0
  · obtain ⟨h1, h2, h3⟩ := h.no ht
    rw [h1, if_pos (by omega), h3, ht]
    rw [show decide (((0 : Nat) : Int) - 1 - 62 ≤ (n : Int)) = true from decide_eq_true (by omega)]
    rfl
  · obtain ⟨h1, h2, h3⟩ := h.so (by omega)
    by_cases hn : t ≤ n
    · rw [if_pos (by omega), h3 n hn, show decide ((t : Int) - 1 - 62 ≤ (n : Int)) = true from decide_eq_true (by omega)]
      rfl
    · rw [if_neg (by omega)]
      by_cases he : n = t - 1
      · rw [show decide (tp - ((base + n : Nat) : Int) = 0) = true from decide_eq_true (by omega), he, h2]
        rfl
      · rw [show decide (tp - ((base + n : Nat) : Int) = 0) = false from decide_eq_false (by omega)]
        by_cases hf : 62 < tp - ((base + n : Nat) : Int)
        · rw [show decide (62 < tp - ((base + n : Nat) : Int)) = true from decide_eq_true hf, show decide ((t : Int) - 1 - 62 ≤ (n : Int)) = false from decide_eq_false (by omega)]
          simp
        · rw [show decide (62 < tp - ((base + n : Nat) : Int)) = false from decide_eq_false hf, show decide ((t : Int) - 1 - 62 ≤ (n : Int)) = true from decide_eq_true (by omega)]
          have e : (tp - ((base + n : Nat) : Int) - 1).toNat = t - 2 - n := by omega
          rw [e, h.bit, show decide (t - 2 - n < 62) = true from decide_eq_true (by omega), show decide (t - 2 - n + 1 < t) = true from decide_eq_true (by omega), show t - 2 - (t - 2 - n) = n by omega]
          simp
theorem bit_up (s e m : Nat) : (((2 * s + 1) * 2 ^ e) % 4611686018427387904).testBit m = (decide (m < 62) && (decide (m = e) || (decide (e < m) && s.testBit (m - e - 1)))) := by
  rw [show (4611686018427387904 : Nat) = 2 ^ 62 from rfl, Nat.testBit_mod_two_pow, Nat.testBit_mul_two_pow]
  by_cases h : m < 62
  · rw [decide_eq_true h]
    by_cases h1 : e ≤ m
    · by_cases h2 : m = e
      · rw [h2, Nat.sub_self, Nat.testBit_zero]
        simp
      · have h3 : m - e = (m - e - 1) + 1 := by omega
        rw [h3, Nat.testBit_succ, show (2 * s + 1) / 2 = s by omega, decide_eq_false h2, decide_eq_true (show e < m by omega), decide_eq_true (show m ≥ e by omega)]
        simp
    · rw [decide_eq_false (show ¬ m ≥ e by omega), decide_eq_false (show ¬ m = e by omega), decide_eq_false (show ¬ e < m by omega)]
      rfl
  · rw [decide_eq_false h]
    simp
theorem On1.next {base t s : Nat} {tp : Int} {D : Nat → Bool} (h : On1 base t s tp D) (n : Nat) (hf : frB t D n = true) :
    On1 base (max t (n + 1)) (opS tp s (base + n)) (opT tp (base + n)) (fun j => if j = n then true else D j) := by
  unfold frB at hf
  rw [Bool.and_eq_true, Bool.not_eq_true', decide_eq_true_eq] at hf
  obtain ⟨hD, hf⟩ := hf
  by_cases ht : t = 0
  · obtain ⟨h1, h2, h3⟩ := h.no ht
    have e : max t (n + 1) = n + 1 := by omega
    have eS : opS tp s (base + n) = 0 := by unfold opS; rw [h1, h2, if_neg (by omega), if_pos (by decide)]
    have eT : opT tp (base + n) = ((base + n : Nat) : Int) := by unfold opT; rw [h1, if_neg (by omega)]
    rw [e, eS, eT]
    refine ⟨fun h => by omega, fun _ => ⟨by omega, by simp, fun j hj => ?_⟩, fun m => ?_⟩
    · show (if j = n then true else D j) = false
      rw [if_neg (by omega), h3]
    · rw [Nat.zero_testBit]
      by_cases hm : m + 1 < n + 1
      · show false = (decide (m < 62) && (decide (m + 1 < n + 1) && (if n + 1 - 2 - m = n then true else D (n + 1 - 2 - m))))
        rw [if_neg (by omega), h3]
        simp
      · rw [decide_eq_false hm]
        simp
  · obtain ⟨h1, h2, h3⟩ := h.so (by omega)
    by_cases hn : t ≤ n
    · have e : max t (n + 1) = n + 1 := by omega
      have eT : opT tp (base + n) = ((base + n : Nat) : Int) := by unfold opT; rw [if_neg (by omega)]
      have eS : opS tp s (base + n) = ((2 * s + 1) * 2 ^ (n - t)) % 4611686018427387904 := by
        unfold opS; rw [if_neg (by omega), if_neg (by omega), show (((base + n : Nat) : Int) - tp - 1).toNat = n - t by omega]
      rw [e, eS, eT]
      refine ⟨fun h => by omega, fun _ => ⟨by omega, by simp, fun j hj => ?_⟩, fun m => ?_⟩
      · show (if j = n then true else D j) = false
        rw [if_neg (by omega), h3 j (by omega)]
      · rw [bit_up]
        by_cases hm : m < 62
        · rw [decide_eq_true hm]
          by_cases h4 : m = n - t
          · rw [decide_eq_true h4, decide_eq_true (show m + 1 < n + 1 by omega)]
            show _ = (true && (true && (if n + 1 - 2 - m = n then true else D (n + 1 - 2 - m))))
            rw [if_neg (by omega), show n + 1 - 2 - m = t - 1 by omega, h2]
            rfl
          · rw [decide_eq_false h4]
            by_cases h5 : n - t < m
            · rw [decide_eq_true h5, h.bit, decide_eq_true (show m - (n - t) - 1 < 62 by omega)]
              by_cases h6 : m + 1 < n + 1
              · rw [decide_eq_true h6, decide_eq_true (show m - (n - t) - 1 + 1 < t by omega)]
                show _ = (true && (true && (if n + 1 - 2 - m = n then true else D (n + 1 - 2 - m))))
                rw [if_neg (by omega), show n + 1 - 2 - m = t - 2 - (m - (n - t) - 1) by omega]
                rfl
              · rw [decide_eq_false h6, decide_eq_false (show ¬ m - (n - t) - 1 + 1 < t by omega)]
                rfl
            · rw [decide_eq_false h5]
              show _ = (true && (decide (m + 1 < n + 1) && (if n + 1 - 2 - m = n then true else D (n + 1 - 2 - m))))
              by_cases h6 : m + 1 < n + 1
              · rw [if_neg (by omega), h3 _ (by omega)]
                simp
              · rw [decide_eq_false h6]
                rfl
        · rw [decide_eq_false hm]
          rfl
    · have hne : n ≠ t - 1 := fun e => by rw [e, h2] at hD; cases hD
      have e : max t (n + 1) = t := by omega
      have eT : opT tp (base + n) = tp := by unfold opT; rw [if_pos (by omega)]
      have eS : opS tp s (base + n) = s ||| 2 ^ (t - 2 - n) := by
        unfold opS; rw [if_pos (by omega), show (tp - ((base + n : Nat) : Int) - 1).toNat = t - 2 - n by omega]
      rw [e, eS, eT]
      refine ⟨fun h => absurd h ht, fun _ => ⟨h1, ?_, fun j hj => ?_⟩, fun m => ?_⟩
      · show (if t - 1 = n then true else D (t - 1)) = true
        rw [if_neg (by omega), h2]
      · show (if j = n then true else D j) = false
        rw [if_neg (by omega), h3 j hj]
      · rw [Nat.testBit_or, Nat.testBit_two_pow, h.bit]
        show _ = (decide (m < 62) && (decide (m + 1 < t) && (if t - 2 - m = n then true else D (t - 2 - m))))
        by_cases h4 : t - 2 - n = m
        · rw [decide_eq_true h4, decide_eq_true (show m < 62 by omega), decide_eq_true (show m + 1 < t by omega), if_pos (by omega)]
          simp
        · rw [decide_eq_false h4]
          by_cases h5 : m + 1 < t
          · rw [if_neg (by omega)]
            simp
          · rw [decide_eq_false h5]
            simp
/-- such a key may be -/
theorem On1.may {base t s : Nat} {tp : Int} {D : Nat → Bool} (h : On1 base t s tp D) (hb : base + t ≤ 281474976710656) {i : Nat} (hi : i < 256) {W : List Int} (hl : W.length = 8) (hW : ∀ x, x ∈ W → 0 ≤ x ∧ x ≤ 4294967295) :
    kdB ⟨(i : Int), W, tp, (s : Int)⟩ = true := by
  have h0 : wdB W = true := wdB_t (fun j hj => by
    have e : nthI W j ∈ W := by
      unfold nthI
      rw [List.getD_eq_getElem?_getD, List.getElem?_eq_getElem (by omega)]
      exact List.getElem_mem _
    exact hW _ e)
  have h1 : -1 ≤ tp ∧ tp ≤ 281474976710655 ∧ s < 2 ^ snT tp := by
    by_cases ht : t = 0
    · obtain ⟨h1, h2, _⟩ := h.no ht
      rw [h1, h2]
      exact ⟨by decide, by decide, by decide⟩
    · obtain ⟨h1, h2, _⟩ := h.so (by omega)
      refine ⟨by omega, by omega, Nat.lt_pow_two_of_testBit _ (fun m hm => ?_)⟩
      rw [h.bit]
      unfold snT at hm
      by_cases h3 : m < 62
      · rw [decide_eq_false (show ¬ m + 1 < t by omega)]
        simp
      · rw [decide_eq_false h3]
        rfl
  show (kwB (i : Int) 0 255 && (wdE W.length W == 0) && kwB tp (-1) 281474976710655 && snB tp (s : Int)) = true
  unfold wdE snB
  rw [hl, if_pos rfl, h0, if_pos rfl, kwB_t (show (0 : Int) ≤ (i : Int) ∧ (i : Int) ≤ 255 by omega), kwB_t (show (-1 : Int) ≤ tp ∧ tp ≤ 281474976710655 by omega), kwB_t (show (0 : Int) ≤ (s : Int) ∧ (s : Int) ≤ ((2 ^ snT tp : Nat) : Int) - 1 by omega)]
  rfl

theorem xor_other {x y : Nat} (h : y ≠ 0) : x ^^^ y ≠ x := by
  intro e
  have h1 : x ^^^ (x ^^^ y) = x ^^^ x := by rw [e]
  rw [← Nat.xor_assoc, Nat.xor_self, Nat.zero_xor] at h1
  exact h h1
/-- the law's key, new, and behind its first counter -/
theorem key_new {i : Nat} (hi : i < 256) {S : List Int} (hl : S.length = 8) (hS : ∀ x, x ∈ S → 0 ≤ x ∧ x ≤ 4294967295) : kdB ⟨(i : Int), S, -1, 0⟩ = true :=
  (On1.first 0).may (by decide) hi hl hS
theorem key_old {i c : Nat} (hc : c < 281474976710656) (hi : i < 256) {S : List Int} (hl : S.length = 8) (hS : ∀ x, x ∈ S → 0 ≤ x ∧ x ≤ 4294967295) : kdB ⟨(i : Int), S, (c : Int), 0⟩ = true := by
  have h : On1 c 1 0 (c : Int) (fun j => decide (j = 0)) := ⟨(fun h => by cases h), fun _ => ⟨by omega, rfl, fun j hj => decide_eq_false (by omega)⟩, fun m => by simp⟩
  exact h.may (by omega) hi hl hS
theorem add_first {k : Kd} (h : kdB k = true) : adE [] k = 0 ∧ adV [] k = [k] := by
  have e : adE [] k = 0 := by
    unfold adE
    rw [if_pos (by rfl), if_pos h, if_neg (by unfold drO fiN; simp), if_neg (by decide)]
  refine ⟨e, ?_⟩
  unfold adV
  rw [if_pos (by rfl), if_pos e]
  rfl
def wdF (S : List Int) (x : Nat) : Nat := (nthI S x).toNat
structure BkF (i c : Nat) (S : List Int) (B SL : List Nat) : Prop where
  len : SL.length = B.length + 15
  bd : B.length ≤ 1000
  e0 : onE [⟨(i : Int), S, -1, 0⟩] SL = 0
  y0 : onY [⟨(i : Int), S, -1, 0⟩] SL = B
  i0 : onI [⟨(i : Int), S, -1, 0⟩] SL = i
  v0 : onV [⟨(i : Int), S, -1, 0⟩] SL = [⟨(i : Int), S, (c : Int), 0⟩]
  e1 : onE [⟨(i : Int), S, (c : Int), 0⟩] SL = 13
  wr : ∀ p y, p < 8 → y ≠ 0 → onE [⟨(i : Int), S, -1, 0⟩] (SL.set (SL.length - 1 - p) (nth SL (SL.length - 1 - p) ^^^ y)) = 14
theorem bk_math {i c : Nat} {S : List Int} {B : List Nat} (hi : i < 256) (hc : c < 281474976710656) (hl : S.length = 8) (hS : ∀ x, x ∈ S → 0 ≤ x ∧ x ≤ 4294967295) (hB : B.length ≤ 1000) :
    BkF i c S B (slL (fun x => (nthI S x).toNat) c i B) := by
  have h1 := key_new hi hl hS
  have h2 := key_old hc hi hl hS
  obtain ⟨o1, o2, o3⟩ := op_first c
  have f1 : ([⟨(i : Int), S, -1, 0⟩] : List Kd).getD (fiN [⟨(i : Int), S, -1, 0⟩] (i : Int)) kd0 = ⟨(i : Int), S, -1, 0⟩ := by rw [show fiN [⟨(i : Int), S, -1, 0⟩] (i : Int) = 0 from fi_one ⟨(i : Int), S, -1, 0⟩]; rfl
  have f2 : ([⟨(i : Int), S, (c : Int), 0⟩] : List Kd).getD (fiN [⟨(i : Int), S, (c : Int), 0⟩] (i : Int)) kd0 = ⟨(i : Int), S, (c : Int), 0⟩ := by rw [show fiN [⟨(i : Int), S, (c : Int), 0⟩] (i : Int) = 0 from fi_one ⟨(i : Int), S, (c : Int), 0⟩]; rfl
  obtain ⟨a1, a2⟩ := on_sealed (R := [⟨(i : Int), S, -1, 0⟩]) (c := c) (i := i) (B := B) (rm_one h1) (dr_one ⟨(i : Int), S, -1, 0⟩) hc hB ⟨(i : Int), S, -1, 0⟩ f1
  obtain ⟨b1, _⟩ := on_sealed (R := [⟨(i : Int), S, (c : Int), 0⟩]) (c := c) (i := i) (B := B) (rm_one h2) (dr_one ⟨(i : Int), S, (c : Int), 0⟩) hc hB ⟨(i : Int), S, (c : Int), 0⟩ f2
  have o3' : oldB (-1) ((0 : Int).toNat) c = false := o3
  obtain ⟨a3, a4, a5⟩ := a2 o3'
  have hlen : (slL (fun x => (nthI S x).toNat) c i B).length = B.length + 15 := by
    unfold slL; rw [List.length_append, slH_len, tagL_len8]
  refine ⟨hlen, hB, ?_, a3, a4, ?_, ?_, fun p y hp hy => ?_⟩
  · rw [a1, if_neg (by rw [o3']; simp)]
  · rw [a5, show fiN [⟨(i : Int), S, -1, 0⟩] (i : Int) = 0 from fi_one ⟨(i : Int), S, -1, 0⟩]
    show [_] = [_]
    rw [o1, show opS (-1) ((0 : Int).toNat) c = 0 from o2]
    rfl
  · rw [b1, if_pos (old_same _ _)]
  · have hL8 := tagL_len8 (fun x => (nthI S x).toNat) c (slH (fun x => (nthI S x).toNat) c i B)
    have hH := slH_len (fun x => (nthI S x).toNat) c i B
    rw [hlen]
    generalize hT : tagL (fun x => (nthI S x).toNat) c (slH (fun x => (nthI S x).toNat) c i B) = T at hL8
    have e : slL (fun x => (nthI S x).toNat) c i B = slH (fun x => (nthI S x).toNat) c i B ++ T := by unfold slL; rw [hT]
    have en : nth (slL (fun x => (nthI S x).toNat) c i B) (B.length + 15 - 1 - p) = nth T (7 - p) := by
      unfold nth
      rw [e, List.getD_eq_getElem?_getD, List.getD_eq_getElem?_getD, List.getElem?_append_right (by omega), hH, show B.length + 15 - 1 - p - (B.length + 7) = 7 - p by omega]
    rw [en, e, List.set_append_right _ _ (by omega), hH, show B.length + 15 - 1 - p - (B.length + 7) = 7 - p by omega]
    refine on_wrong (rm_one h1) hc hB ⟨(i : Int), S, -1, 0⟩ f1 (by rw [List.length_set]; exact hL8) ?_
    rw [hT]
    intro ee
    have := congrArg (fun L => nth L (7 - p)) ee
    simp only [nth, List.getD_eq_getElem?_getD] at this
    rw [List.getElem?_set_self (by omega)] at this
    exact xor_other hy this
theorem seal_math {i c : Nat} {S : List Int} {B : List Nat} (hi : i < 256) (hc : c < 281474976710656) (hl : S.length = 8) (hS : ∀ x, x ∈ S → 0 ≤ x ∧ x ≤ 4294967295) (hB : B.length ≤ 1000) :
    slE (i : Int) 8 S (-1) 0 (c : Int) B.length = 0 ∧ slR (i : Int) 8 S (-1) 0 (c : Int) B = slL (fun x => (nthI S x).toNat) c i B := by
  have h1 := key_new hi hl hS
  unfold kdB at h1
  rw [hl] at h1
  have e : slE (i : Int) 8 S (-1) 0 (c : Int) B.length = 0 := by
    unfold slE
    rw [if_pos h1, if_pos (kwB_t (by omega)), if_pos hB]
  refine ⟨e, ?_⟩
  unfold slR
  rw [if_pos e]
  rfl
end Go.Proofs.YtaigcjhachkmmaaDoor
