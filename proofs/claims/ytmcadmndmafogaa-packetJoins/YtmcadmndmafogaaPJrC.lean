import Derived.Test.YtmcadmndmafogaaPJo8
namespace Go.Proofs.Ytmcadmndmafogaa
open Go.RowKit
set_option maxRecDepth 100000
set_option linter.unusedVariables false
set_option linter.unusedSimpArgs false

set_option maxHeartbeats 1000000 in
theorem joins_CWt (ap nx ct q : Int) (a : Option Addr) (n c : Nat) (up se : Bool) (b : Option Addr) (m d : Nat) (U D : List Nat) (w : World) (hU : Rd w a n c U) (hD : Rd w b m d D) (Hq : Hid (q = (ct + 1) % 16384)) (ha1 : 0 ≤ ap) (ha2 : ap ≤ 2046) (h0 : 0 ≤ ct) (h1 : ct ≤ 16383) (hm : 0 < m) (hm2 : m ≤ 65536) (hn0 : 0 < n) (hn : n ≤ 1048576) (hx1 : nx ≠ -1) (hx2 : nx ≠ ct) (hx3 : -1 ≤ nx) (hx4 : nx ≤ 16383) :
    Calls Try.prog 23 #[.agg #[.int .i64 ap, .int .i64 nx, .bool true, .slice a n c], .agg #[.bool up, .bool se, .int .i64 ap, .int .i64 3, .int .i64 ct, .slice b m d]] w fun e w' => ∃ a1 n1 c1 a2 n2 c2, e = .returned (.tuple #[.agg #[.int .i64 ap, .int .i64 q, .bool false, .slice a1 n1 c1], .slice a2 n2 c2, .bool true, .int .i64 0]) ∧ Ans w' w.heap.size a1 n1 c1 ([]) ∧ Ans w' w.heap.size a2 n2 c2 (D) ∧ w.grownBy w' none := by
  have i4 := Try.info_jn
  have hmy : mayE ap 3 ct m = 0 := by unfold mayE; rw [if_pos (by omega), if_neg (by omega)]
  have hWR := fun wz => may_any up se ap 3 ct b m d wz
  rw [hmy] at hWR
  unfold pkV at hWR
  have hqt : (ct + 1).tmod 16384 = q := by rw [Int.tmod_eq_emod_of_nonneg (by omega)]; exact Hq.out.symm
  have hqm : (ct + 1) % 16384 = q := Hq.out.symm
  have j0 := BxJ.new w ap nx true a n c
  have g0 := World.grownBy_alloc w (.cells #[.int .i64 ap, .int .i64 nx, .bool true, .slice a n c] 44) none
  generalize hw0 : w.alloc (.cells #[.int .i64 ap, .int .i64 nx, .bool true, .slice a n c] 44) = w0 at j0 g0
  have hz0 : w0.heap.size = w.heap.size + 1 := by rw [← hw0]; simp
  have p1 := BxP.new w0 up se ap 3 ct b m d
  have g1 := World.grownBy_alloc w0 (.cells #[.bool up, .bool se, .int .i64 ap, .int .i64 3, .int .i64 ct, .slice b m d] 25) none
  generalize hw1 : w0.alloc (.cells #[.bool up, .bool se, .int .i64 ap, .int .i64 3, .int .i64 ct, .slice b m d] 25) = w1 at p1 g1
  have hz1 : w1.heap.size = w.heap.size + 2 := by rw [← hw1]; simp [hz0]
  rw [hz0] at p1
  have r2 := BxJ.new w1 0 0 false none 0 0
  have g2 := World.grownBy_alloc w1 (.cells #[.int .i64 0, .int .i64 0, .bool false, .slice none 0 0] 44) none
  generalize hw2 : w1.alloc (.cells #[.int .i64 0, .int .i64 0, .bool false, .slice none 0 0] 44) = w2 at r2 g2
  rw [hz1] at r2
  have j2 := j0.keep (grown_trans g1 g2) (by simp)
  have p2 := p1.keep g2 (by simp)
  have G2 := grown_trans g0 (grown_trans g1 g2)
  obtain ⟨c0, c1, c2, c3⟩ := j2.cell
  obtain ⟨q0, q1, q2, q3, q4, q5⟩ := p2.cell
  have t1 : True := trivial
  have e1 : decide (ap < 0) = false := decide_eq_false (by omega)
  have e2 : decide (2047 ≤ ap) = false := decide_eq_false (by omega)
  have e3 : decide (nx < -1) = false := decide_eq_false (by omega)
  have e4 : decide (16383 < nx) = false := decide_eq_false (by omega)
  have e5 : ((nx == -1) : Bool) = false := by simpa using hx1
  have e6 : ((nx != -1) : Bool) = true := by simpa using hx1
  have e7 : ((nx != ct) : Bool) = true := by simpa using hx2
  have e8 : decide ((1048576 : Int) < (n : Int)) = false := decide_eq_false (by omega)
  have e9 : decide ((0 : Int) < (n : Int)) = true := decide_eq_true (by omega)
  have ea : (((n : Int) == 0) : Bool) = false := by simp; omega
  have eb : decide ((0 : Int) < (m : Int)) = true := decide_eq_true (by omega)
  go_enter Try.func23, Try.ntmps23
  go_wp2_with (first
    | (go_at_call 28; have _t := t1; clear t1; refine (hWR w2).mono ?_; rintro e w3 ⟨rfl, g3⟩; clear c0 c1 c2 c3 q0 q1 q2 q3 q4 q5; have r3 := r2.keep g3 (by simp); have p3 := p2.keep g3 (by simp); have j3 := j2.keep g3 (by simp); obtain ⟨c0, c1, c2, c3⟩ := j3.cell; obtain ⟨q0, q1, q2, q3, q4, q5⟩ := p3.cell; have G3 := grown_trans G2 g3; have gA := World.grownBy_alloc w3 (.cells #[.int .i64 ap, .int .i64 q, .bool false, .slice none 0 0] 44) none; have o4 := BxJ.new w3 ap q false none 0 0; have r4 := r3.keep gA (by simp); have p4 := p3.keep gA (by simp); have j4 := j3.keep gA (by simp); have G4 := grown_trans G3 gA; have hz3 : w.heap.size + 2 < w3.heap.size := r3.lt; have s3 := j4.cell.2.2.2; have t2 : True := trivial)
    | (at_builtin; have _t := t2; refine wpList_clB (w3.alloc (.cells #[.int .i64 ap, .int .i64 q, .bool false, .slice none 0 0] 44)) rfl _ _ rfl rfl a n c U rfl (hU.keep G4) (by omega) ?_; clear t2; intro ax cx w5 g5 hA5; clear c0 c1 c2 c3 q0 q1 q2 q3 q4 q5; clear s3; have r5 := r4.keep g5 (by simp); have p5 := p4.keep g5 (by simp); have j5 := j4.keep g5 (by simp); have o5 := o4.keep g5 (by simp); have G5 := grown_trans G4 g5; obtain ⟨c0, c1, c2, c3⟩ := j5.cell; obtain ⟨q0, q1, q2, q3, q4, q5⟩ := p5.cell; have t3 : True := trivial)
    | (at_builtin; have _t := t3; refine wpList_clB w5 rfl _ _ rfl rfl b m d D rfl (hD.keep G5) (by omega) ?_; clear t3; intro ay cy w6 g6 hA6; clear c0 c1 c2 c3 q0 q1 q2 q3 q4 q5; have r6 := r5.keep g6 (by simp); have p6 := p5.keep g6 (by simp); have o6 := o5.keep g6 (by simp); have G6 := grown_trans G5 g6; obtain ⟨q0, q1, q2, q3, q4, q5⟩ := p6.cell; obtain ⟨o0, o1, o2, o3⟩ := o6.cell; obtain ⟨r0', r1', r2', r3'⟩ := r6.cell; have f2 := BxS.free o6 2; have f3 := BxS.free o6 3; have y0 := BxS.free r6 0; have y1 := BxS.free r6 1; have y2 := BxS.free r6 2; have y3 := BxS.free r6 3; ))
  have n3 : some (w.heap.size + 2) ≠ some w3.heap.size := by simp; omega
  have rA : BxS ((w6.setCell ⟨w3.heap.size, 2, none⟩ (.bool false)).setCell ⟨w3.heap.size, 3, none⟩ (.slice none 0 0)) (w.heap.size + 2) 44 _ := BxS.keep (BxS.keep r6 (grown_set _ _ _ _) n3) (grown_set _ _ _ _) n3
  have rB : BxS ((((((w6.setCell ⟨w3.heap.size, 2, none⟩ (.bool false)).setCell ⟨w3.heap.size, 3, none⟩ (.slice none 0 0)).setCell ⟨w.heap.size + 2, 0, none⟩ (.int .i64 ap)).setCell ⟨w.heap.size + 2, 1, none⟩ (.int .i64 q)).setCell ⟨w.heap.size + 2, 2, none⟩ (.bool false)).setCell ⟨w.heap.size + 2, 3, none⟩ (.slice none 0 0)) (w.heap.size + 2) 44 #[.int .i64 ap, .int .i64 q, .bool false, .slice none 0 0] := (((BxS.set rA 0 (.int .i64 ap)).set 1 (.int .i64 q)).set 2 (.bool false)).set 3 (.slice none 0 0)
  have gX : w6.grownBy ((w6.setCell ⟨w3.heap.size, 2, none⟩ (.bool false)).setCell ⟨w3.heap.size, 3, none⟩ (.slice none 0 0)) (some w3.heap.size) := grown_trans (grown_set _ _ _ _) (grown_set _ _ _ _)
  have gY : ((w6.setCell ⟨w3.heap.size, 2, none⟩ (.bool false)).setCell ⟨w3.heap.size, 3, none⟩ (.slice none 0 0)).grownBy ((((((w6.setCell ⟨w3.heap.size, 2, none⟩ (.bool false)).setCell ⟨w3.heap.size, 3, none⟩ (.slice none 0 0)).setCell ⟨w.heap.size + 2, 0, none⟩ (.int .i64 ap)).setCell ⟨w.heap.size + 2, 1, none⟩ (.int .i64 q)).setCell ⟨w.heap.size + 2, 2, none⟩ (.bool false)).setCell ⟨w.heap.size + 2, 3, none⟩ (.slice none 0 0)) (some (w.heap.size + 2)) := grown_trans (grown_set _ _ _ _) (grown_trans (grown_set _ _ _ _) (grown_trans (grown_set _ _ _ _) (grown_set _ _ _ _)))
  refine bodyPost_ret (results_cell4 rfl _ _ _ ⟨w.heap.size + 2, 0, none⟩ _ (.slice ay m cy) (.bool true) (.int .i64 0) rfl (BxS.load rB Try.underlying44 i4) rfl rfl rfl) rfl ?_
  have hlo1 : w3.heap.size < w5.heap.size := o5.lt
  have hlo2 : w.heap.size + 2 < w5.heap.size := Nat.lt_trans hz3 hlo1
  have hlo3 : w.heap.size ≤ w5.heap.size := by omega
  exact ⟨none, 0, 0, ay, m, cy, rfl, ans_nil _ _, ((hA6.kept gX (.inr (Ne.symm (sp_ne hA6 hlo1)))).kept gY (.inr (Ne.symm (sp_ne hA6 hlo2)))).wide hlo3, grown_far (grown_far G6 gX (fun g e => by cases e; omega)) gY (fun g e => by cases e; omega)⟩
set_option maxHeartbeats 1000000 in
theorem joins_CFt (ap nx ct q : Int) (a : Option Addr) (n c : Nat) (up se : Bool) (b : Option Addr) (m d : Nat) (U D : List Nat) (w : World) (hU : Rd w a n c U) (hD : Rd w b m d D) (Hq : Hid (q = (ct + 1) % 16384)) (ha1 : 0 ≤ ap) (ha2 : ap ≤ 2046) (h0 : 0 ≤ ct) (h1 : ct ≤ 16383) (hm : 0 < m) (hm2 : m ≤ 65536) (hn0 : 0 < n) (hn : n ≤ 1048576) (hx1 : nx ≠ -1) (hx2 : nx ≠ ct) (hx3 : -1 ≤ nx) (hx4 : nx ≤ 16383) :
    Calls Try.prog 23 #[.agg #[.int .i64 ap, .int .i64 nx, .bool true, .slice a n c], .agg #[.bool up, .bool se, .int .i64 ap, .int .i64 1, .int .i64 ct, .slice b m d]] w fun e w' => ∃ a1 n1 c1 a2 n2 c2, e = .returned (.tuple #[.agg #[.int .i64 ap, .int .i64 q, .bool true, .slice a1 n1 c1], .slice a2 n2 c2, .bool true, .int .i64 0]) ∧ Ans w' w.heap.size a1 n1 c1 (D) ∧ Ans w' w.heap.size a2 n2 c2 ([]) ∧ w.grownBy w' none := by
  have i4 := Try.info_jn
  have hmy : mayE ap 1 ct m = 0 := by unfold mayE; rw [if_pos (by omega), if_neg (by omega)]
  have hWR := fun wz => may_any up se ap 1 ct b m d wz
  rw [hmy] at hWR
  unfold pkV at hWR
  have hqt : (ct + 1).tmod 16384 = q := by rw [Int.tmod_eq_emod_of_nonneg (by omega)]; exact Hq.out.symm
  have hqm : (ct + 1) % 16384 = q := Hq.out.symm
  have j0 := BxJ.new w ap nx true a n c
  have g0 := World.grownBy_alloc w (.cells #[.int .i64 ap, .int .i64 nx, .bool true, .slice a n c] 44) none
  generalize hw0 : w.alloc (.cells #[.int .i64 ap, .int .i64 nx, .bool true, .slice a n c] 44) = w0 at j0 g0
  have hz0 : w0.heap.size = w.heap.size + 1 := by rw [← hw0]; simp
  have p1 := BxP.new w0 up se ap 1 ct b m d
  have g1 := World.grownBy_alloc w0 (.cells #[.bool up, .bool se, .int .i64 ap, .int .i64 1, .int .i64 ct, .slice b m d] 25) none
  generalize hw1 : w0.alloc (.cells #[.bool up, .bool se, .int .i64 ap, .int .i64 1, .int .i64 ct, .slice b m d] 25) = w1 at p1 g1
  have hz1 : w1.heap.size = w.heap.size + 2 := by rw [← hw1]; simp [hz0]
  rw [hz0] at p1
  have r2 := BxJ.new w1 0 0 false none 0 0
  have g2 := World.grownBy_alloc w1 (.cells #[.int .i64 0, .int .i64 0, .bool false, .slice none 0 0] 44) none
  generalize hw2 : w1.alloc (.cells #[.int .i64 0, .int .i64 0, .bool false, .slice none 0 0] 44) = w2 at r2 g2
  rw [hz1] at r2
  have j2 := j0.keep (grown_trans g1 g2) (by simp)
  have p2 := p1.keep g2 (by simp)
  have G2 := grown_trans g0 (grown_trans g1 g2)
  obtain ⟨c0, c1, c2, c3⟩ := j2.cell
  obtain ⟨q0, q1, q2, q3, q4, q5⟩ := p2.cell
  have t1 : True := trivial
  have e1 : decide (ap < 0) = false := decide_eq_false (by omega)
  have e2 : decide (2047 ≤ ap) = false := decide_eq_false (by omega)
  have e3 : decide (nx < -1) = false := decide_eq_false (by omega)
  have e4 : decide (16383 < nx) = false := decide_eq_false (by omega)
  have e5 : ((nx == -1) : Bool) = false := by simpa using hx1
  have e6 : ((nx != -1) : Bool) = true := by simpa using hx1
  have e7 : ((nx != ct) : Bool) = true := by simpa using hx2
  have e8 : decide ((1048576 : Int) < (n : Int)) = false := decide_eq_false (by omega)
  have e9 : decide ((0 : Int) < (n : Int)) = true := decide_eq_true (by omega)
  have ea : (((n : Int) == 0) : Bool) = false := by simp; omega
  have eb : decide ((0 : Int) < (m : Int)) = true := decide_eq_true (by omega)
  go_enter Try.func23, Try.ntmps23
  go_wp2_with (first
    | (go_at_call 28; have _t := t1; clear t1; refine (hWR w2).mono ?_; rintro e w3 ⟨rfl, g3⟩; clear c0 c1 c2 c3 q0 q1 q2 q3 q4 q5; have r3 := r2.keep g3 (by simp); have p3 := p2.keep g3 (by simp); have j3 := j2.keep g3 (by simp); obtain ⟨c0, c1, c2, c3⟩ := j3.cell; obtain ⟨q0, q1, q2, q3, q4, q5⟩ := p3.cell; have G3 := grown_trans G2 g3; have gA := World.grownBy_alloc w3 (.cells #[.int .i64 ap, .int .i64 q, .bool false, .slice none 0 0] 44) none; have o4 := BxJ.new w3 ap q false none 0 0; have r4 := r3.keep gA (by simp); have p4 := p3.keep gA (by simp); have j4 := j3.keep gA (by simp); have G4 := grown_trans G3 gA; have hz3 : w.heap.size + 2 < w3.heap.size := r3.lt; have s3 := j4.cell.2.2.2; have t2 : True := trivial)
    | (at_builtin; have _t := t2; refine wpList_clB (w3.alloc (.cells #[.int .i64 ap, .int .i64 q, .bool false, .slice none 0 0] 44)) rfl _ _ rfl rfl a n c U rfl (hU.keep G4) (by omega) ?_; clear t2; intro ax cx w5 g5 hA5; clear c0 c1 c2 c3 q0 q1 q2 q3 q4 q5; clear s3; have r5 := r4.keep g5 (by simp); have p5 := p4.keep g5 (by simp); have j5 := j4.keep g5 (by simp); have o5 := o4.keep g5 (by simp); have G5 := grown_trans G4 g5; obtain ⟨c0, c1, c2, c3⟩ := j5.cell; obtain ⟨q0, q1, q2, q3, q4, q5⟩ := p5.cell; have t3 : True := trivial)
    | (at_builtin; have _t := t3; refine wpList_clB w5 rfl _ _ rfl rfl b m d D rfl (hD.keep G5) (by omega) ?_; clear t3; intro ay cy w6 g6 hA6; clear c0 c1 c2 c3 q0 q1 q2 q3 q4 q5; have r6 := r5.keep g6 (by simp); have p6 := p5.keep g6 (by simp); have o6 := o5.keep g6 (by simp); have G6 := grown_trans G5 g6; obtain ⟨q0, q1, q2, q3, q4, q5⟩ := p6.cell; obtain ⟨o0, o1, o2, o3⟩ := o6.cell; obtain ⟨r0', r1', r2', r3'⟩ := r6.cell; have f2 := BxS.free o6 2; have f3 := BxS.free o6 3; have y0 := BxS.free r6 0; have y1 := BxS.free r6 1; have y2 := BxS.free r6 2; have y3 := BxS.free r6 3; ))
  have n3 : some (w.heap.size + 2) ≠ some w3.heap.size := by simp; omega
  have rA : BxS ((w6.setCell ⟨w3.heap.size, 2, none⟩ (.bool true)).setCell ⟨w3.heap.size, 3, none⟩ (.slice ay m cy)) (w.heap.size + 2) 44 _ := BxS.keep (BxS.keep r6 (grown_set _ _ _ _) n3) (grown_set _ _ _ _) n3
  have rB : BxS ((((((w6.setCell ⟨w3.heap.size, 2, none⟩ (.bool true)).setCell ⟨w3.heap.size, 3, none⟩ (.slice ay m cy)).setCell ⟨w.heap.size + 2, 0, none⟩ (.int .i64 ap)).setCell ⟨w.heap.size + 2, 1, none⟩ (.int .i64 q)).setCell ⟨w.heap.size + 2, 2, none⟩ (.bool true)).setCell ⟨w.heap.size + 2, 3, none⟩ (.slice ay m cy)) (w.heap.size + 2) 44 #[.int .i64 ap, .int .i64 q, .bool true, .slice ay m cy] := (((BxS.set rA 0 (.int .i64 ap)).set 1 (.int .i64 q)).set 2 (.bool true)).set 3 (.slice ay m cy)
  have gX : w6.grownBy ((w6.setCell ⟨w3.heap.size, 2, none⟩ (.bool true)).setCell ⟨w3.heap.size, 3, none⟩ (.slice ay m cy)) (some w3.heap.size) := grown_trans (grown_set _ _ _ _) (grown_set _ _ _ _)
  have gY : ((w6.setCell ⟨w3.heap.size, 2, none⟩ (.bool true)).setCell ⟨w3.heap.size, 3, none⟩ (.slice ay m cy)).grownBy ((((((w6.setCell ⟨w3.heap.size, 2, none⟩ (.bool true)).setCell ⟨w3.heap.size, 3, none⟩ (.slice ay m cy)).setCell ⟨w.heap.size + 2, 0, none⟩ (.int .i64 ap)).setCell ⟨w.heap.size + 2, 1, none⟩ (.int .i64 q)).setCell ⟨w.heap.size + 2, 2, none⟩ (.bool true)).setCell ⟨w.heap.size + 2, 3, none⟩ (.slice ay m cy)) (some (w.heap.size + 2)) := grown_trans (grown_set _ _ _ _) (grown_trans (grown_set _ _ _ _) (grown_trans (grown_set _ _ _ _) (grown_set _ _ _ _)))
  refine bodyPost_ret (results_cell4 rfl _ _ _ ⟨w.heap.size + 2, 0, none⟩ _ (.slice none 0 0) (.bool true) (.int .i64 0) rfl (BxS.load rB Try.underlying44 i4) rfl rfl rfl) rfl ?_
  have hlo1 : w3.heap.size < w5.heap.size := o5.lt
  have hlo2 : w.heap.size + 2 < w5.heap.size := Nat.lt_trans hz3 hlo1
  have hlo3 : w.heap.size ≤ w5.heap.size := by omega
  exact ⟨ay, m, cy, none, 0, 0, rfl, ((hA6.kept gX (.inr (Ne.symm (sp_ne hA6 hlo1)))).kept gY (.inr (Ne.symm (sp_ne hA6 hlo2)))).wide hlo3, ans_nil _ _, grown_far (grown_far G6 gX (fun g e => by cases e; omega)) gY (fun g e => by cases e; omega)⟩
set_option maxHeartbeats 1000000 in
theorem joins_CMt (ap nx ct q : Int) (a : Option Addr) (n c : Nat) (up se : Bool) (b : Option Addr) (m d : Nat) (U D : List Nat) (w : World) (hU : Rd w a n c U) (hD : Rd w b m d D) (Hq : Hid (q = (ct + 1) % 16384)) (ha1 : 0 ≤ ap) (ha2 : ap ≤ 2046) (h0 : 0 ≤ ct) (h1 : ct ≤ 16383) (hm : 0 < m) (hm2 : m ≤ 65536) (hn0 : 0 < n) (hn : n ≤ 1048576) (hx1 : nx ≠ -1) (hx2 : nx ≠ ct) (hx3 : -1 ≤ nx) (hx4 : nx ≤ 16383) :
    Calls Try.prog 23 #[.agg #[.int .i64 ap, .int .i64 nx, .bool true, .slice a n c], .agg #[.bool up, .bool se, .int .i64 ap, .int .i64 0, .int .i64 ct, .slice b m d]] w fun e w' => ∃ a1 n1 c1 a2 n2 c2, e = .returned (.tuple #[.agg #[.int .i64 ap, .int .i64 q, .bool false, .slice a1 n1 c1], .slice a2 n2 c2, .bool true, .int .i64 0]) ∧ Ans w' w.heap.size a1 n1 c1 ([]) ∧ Ans w' w.heap.size a2 n2 c2 ([]) ∧ w.grownBy w' none := by
  have i4 := Try.info_jn
  have hmy : mayE ap 0 ct m = 0 := by unfold mayE; rw [if_pos (by omega), if_neg (by omega)]
  have hWR := fun wz => may_any up se ap 0 ct b m d wz
  rw [hmy] at hWR
  unfold pkV at hWR
  have hqt : (ct + 1).tmod 16384 = q := by rw [Int.tmod_eq_emod_of_nonneg (by omega)]; exact Hq.out.symm
  have hqm : (ct + 1) % 16384 = q := Hq.out.symm
  have j0 := BxJ.new w ap nx true a n c
  have g0 := World.grownBy_alloc w (.cells #[.int .i64 ap, .int .i64 nx, .bool true, .slice a n c] 44) none
  generalize hw0 : w.alloc (.cells #[.int .i64 ap, .int .i64 nx, .bool true, .slice a n c] 44) = w0 at j0 g0
  have hz0 : w0.heap.size = w.heap.size + 1 := by rw [← hw0]; simp
  have p1 := BxP.new w0 up se ap 0 ct b m d
  have g1 := World.grownBy_alloc w0 (.cells #[.bool up, .bool se, .int .i64 ap, .int .i64 0, .int .i64 ct, .slice b m d] 25) none
  generalize hw1 : w0.alloc (.cells #[.bool up, .bool se, .int .i64 ap, .int .i64 0, .int .i64 ct, .slice b m d] 25) = w1 at p1 g1
  have hz1 : w1.heap.size = w.heap.size + 2 := by rw [← hw1]; simp [hz0]
  rw [hz0] at p1
  have r2 := BxJ.new w1 0 0 false none 0 0
  have g2 := World.grownBy_alloc w1 (.cells #[.int .i64 0, .int .i64 0, .bool false, .slice none 0 0] 44) none
  generalize hw2 : w1.alloc (.cells #[.int .i64 0, .int .i64 0, .bool false, .slice none 0 0] 44) = w2 at r2 g2
  rw [hz1] at r2
  have j2 := j0.keep (grown_trans g1 g2) (by simp)
  have p2 := p1.keep g2 (by simp)
  have G2 := grown_trans g0 (grown_trans g1 g2)
  obtain ⟨c0, c1, c2, c3⟩ := j2.cell
  obtain ⟨q0, q1, q2, q3, q4, q5⟩ := p2.cell
  have t1 : True := trivial
  have e1 : decide (ap < 0) = false := decide_eq_false (by omega)
  have e2 : decide (2047 ≤ ap) = false := decide_eq_false (by omega)
  have e3 : decide (nx < -1) = false := decide_eq_false (by omega)
  have e4 : decide (16383 < nx) = false := decide_eq_false (by omega)
  have e5 : ((nx == -1) : Bool) = false := by simpa using hx1
  have e6 : ((nx != -1) : Bool) = true := by simpa using hx1
  have e7 : ((nx != ct) : Bool) = true := by simpa using hx2
  have e8 : decide ((1048576 : Int) < (n : Int)) = false := decide_eq_false (by omega)
  have e9 : decide ((0 : Int) < (n : Int)) = true := decide_eq_true (by omega)
  have ea : (((n : Int) == 0) : Bool) = false := by simp; omega
  have eb : decide ((0 : Int) < (m : Int)) = true := decide_eq_true (by omega)
  go_enter Try.func23, Try.ntmps23
  go_wp2_with (first
    | (go_at_call 28; have _t := t1; clear t1; refine (hWR w2).mono ?_; rintro e w3 ⟨rfl, g3⟩; clear c0 c1 c2 c3 q0 q1 q2 q3 q4 q5; have r3 := r2.keep g3 (by simp); have p3 := p2.keep g3 (by simp); have j3 := j2.keep g3 (by simp); obtain ⟨c0, c1, c2, c3⟩ := j3.cell; obtain ⟨q0, q1, q2, q3, q4, q5⟩ := p3.cell; have G3 := grown_trans G2 g3; have gA := World.grownBy_alloc w3 (.cells #[.int .i64 ap, .int .i64 q, .bool false, .slice none 0 0] 44) none; have o4 := BxJ.new w3 ap q false none 0 0; have r4 := r3.keep gA (by simp); have p4 := p3.keep gA (by simp); have j4 := j3.keep gA (by simp); have G4 := grown_trans G3 gA; have hz3 : w.heap.size + 2 < w3.heap.size := r3.lt; have s3 := j4.cell.2.2.2; have t2 : True := trivial)
    | (at_builtin; have _t := t2; refine wpList_clB (w3.alloc (.cells #[.int .i64 ap, .int .i64 q, .bool false, .slice none 0 0] 44)) rfl _ _ rfl rfl a n c U rfl (hU.keep G4) (by omega) ?_; clear t2; intro ax cx w5 g5 hA5; clear c0 c1 c2 c3 q0 q1 q2 q3 q4 q5; clear s3; have r5 := r4.keep g5 (by simp); have p5 := p4.keep g5 (by simp); have j5 := j4.keep g5 (by simp); have o5 := o4.keep g5 (by simp); have G5 := grown_trans G4 g5; obtain ⟨c0, c1, c2, c3⟩ := j5.cell; obtain ⟨q0, q1, q2, q3, q4, q5⟩ := p5.cell; obtain ⟨o0, o1, o2, o3⟩ := o5.cell; obtain ⟨r0', r1', r2', r3'⟩ := r5.cell; have f2 := BxS.free o5 2; have f3 := BxS.free o5 3; have y0 := BxS.free r5 0; have y1 := BxS.free r5 1; have y2 := BxS.free r5 2; have y3 := BxS.free r5 3; have t3 : True := trivial))
  have n3 : some (w.heap.size + 2) ≠ some w3.heap.size := by simp; omega
  have rA : BxS ((w5.setCell ⟨w3.heap.size, 2, none⟩ (.bool false)).setCell ⟨w3.heap.size, 3, none⟩ (.slice none 0 0)) (w.heap.size + 2) 44 _ := BxS.keep (BxS.keep r5 (grown_set _ _ _ _) n3) (grown_set _ _ _ _) n3
  have rB : BxS ((((((w5.setCell ⟨w3.heap.size, 2, none⟩ (.bool false)).setCell ⟨w3.heap.size, 3, none⟩ (.slice none 0 0)).setCell ⟨w.heap.size + 2, 0, none⟩ (.int .i64 ap)).setCell ⟨w.heap.size + 2, 1, none⟩ (.int .i64 q)).setCell ⟨w.heap.size + 2, 2, none⟩ (.bool false)).setCell ⟨w.heap.size + 2, 3, none⟩ (.slice none 0 0)) (w.heap.size + 2) 44 #[.int .i64 ap, .int .i64 q, .bool false, .slice none 0 0] := (((BxS.set rA 0 (.int .i64 ap)).set 1 (.int .i64 q)).set 2 (.bool false)).set 3 (.slice none 0 0)
  have gX : w5.grownBy ((w5.setCell ⟨w3.heap.size, 2, none⟩ (.bool false)).setCell ⟨w3.heap.size, 3, none⟩ (.slice none 0 0)) (some w3.heap.size) := grown_trans (grown_set _ _ _ _) (grown_set _ _ _ _)
  have gY : ((w5.setCell ⟨w3.heap.size, 2, none⟩ (.bool false)).setCell ⟨w3.heap.size, 3, none⟩ (.slice none 0 0)).grownBy ((((((w5.setCell ⟨w3.heap.size, 2, none⟩ (.bool false)).setCell ⟨w3.heap.size, 3, none⟩ (.slice none 0 0)).setCell ⟨w.heap.size + 2, 0, none⟩ (.int .i64 ap)).setCell ⟨w.heap.size + 2, 1, none⟩ (.int .i64 q)).setCell ⟨w.heap.size + 2, 2, none⟩ (.bool false)).setCell ⟨w.heap.size + 2, 3, none⟩ (.slice none 0 0)) (some (w.heap.size + 2)) := grown_trans (grown_set _ _ _ _) (grown_trans (grown_set _ _ _ _) (grown_trans (grown_set _ _ _ _) (grown_set _ _ _ _)))
  refine bodyPost_ret (results_cell4 rfl _ _ _ ⟨w.heap.size + 2, 0, none⟩ _ (.slice none 0 0) (.bool true) (.int .i64 0) rfl (BxS.load rB Try.underlying44 i4) rfl rfl rfl) rfl ?_
  exact ⟨none, 0, 0, none, 0, 0, rfl, ans_nil _ _, ans_nil _ _, grown_far (grown_far G5 gX (fun g e => by cases e; omega)) gY (fun g e => by cases e; omega)⟩
set_option maxHeartbeats 1000000 in
theorem joins_CLt (ap nx ct q : Int) (a : Option Addr) (n c : Nat) (up se : Bool) (b : Option Addr) (m d : Nat) (U D : List Nat) (w : World) (hU : Rd w a n c U) (hD : Rd w b m d D) (Hq : Hid (q = (ct + 1) % 16384)) (ha1 : 0 ≤ ap) (ha2 : ap ≤ 2046) (h0 : 0 ≤ ct) (h1 : ct ≤ 16383) (hm : 0 < m) (hm2 : m ≤ 65536) (hn0 : 0 < n) (hn : n ≤ 1048576) (hx1 : nx ≠ -1) (hx2 : nx ≠ ct) (hx3 : -1 ≤ nx) (hx4 : nx ≤ 16383) :
    Calls Try.prog 23 #[.agg #[.int .i64 ap, .int .i64 nx, .bool true, .slice a n c], .agg #[.bool up, .bool se, .int .i64 ap, .int .i64 2, .int .i64 ct, .slice b m d]] w fun e w' => ∃ a1 n1 c1 a2 n2 c2, e = .returned (.tuple #[.agg #[.int .i64 ap, .int .i64 q, .bool false, .slice a1 n1 c1], .slice a2 n2 c2, .bool true, .int .i64 0]) ∧ Ans w' w.heap.size a1 n1 c1 ([]) ∧ Ans w' w.heap.size a2 n2 c2 ([]) ∧ w.grownBy w' none := by
  have i4 := Try.info_jn
  have hmy : mayE ap 2 ct m = 0 := by unfold mayE; rw [if_pos (by omega), if_neg (by omega)]
  have hWR := fun wz => may_any up se ap 2 ct b m d wz
  rw [hmy] at hWR
  unfold pkV at hWR
  have hqt : (ct + 1).tmod 16384 = q := by rw [Int.tmod_eq_emod_of_nonneg (by omega)]; exact Hq.out.symm
  have hqm : (ct + 1) % 16384 = q := Hq.out.symm
  have j0 := BxJ.new w ap nx true a n c
  have g0 := World.grownBy_alloc w (.cells #[.int .i64 ap, .int .i64 nx, .bool true, .slice a n c] 44) none
  generalize hw0 : w.alloc (.cells #[.int .i64 ap, .int .i64 nx, .bool true, .slice a n c] 44) = w0 at j0 g0
  have hz0 : w0.heap.size = w.heap.size + 1 := by rw [← hw0]; simp
  have p1 := BxP.new w0 up se ap 2 ct b m d
  have g1 := World.grownBy_alloc w0 (.cells #[.bool up, .bool se, .int .i64 ap, .int .i64 2, .int .i64 ct, .slice b m d] 25) none
  generalize hw1 : w0.alloc (.cells #[.bool up, .bool se, .int .i64 ap, .int .i64 2, .int .i64 ct, .slice b m d] 25) = w1 at p1 g1
  have hz1 : w1.heap.size = w.heap.size + 2 := by rw [← hw1]; simp [hz0]
  rw [hz0] at p1
  have r2 := BxJ.new w1 0 0 false none 0 0
  have g2 := World.grownBy_alloc w1 (.cells #[.int .i64 0, .int .i64 0, .bool false, .slice none 0 0] 44) none
  generalize hw2 : w1.alloc (.cells #[.int .i64 0, .int .i64 0, .bool false, .slice none 0 0] 44) = w2 at r2 g2
  rw [hz1] at r2
  have j2 := j0.keep (grown_trans g1 g2) (by simp)
  have p2 := p1.keep g2 (by simp)
  have G2 := grown_trans g0 (grown_trans g1 g2)
  obtain ⟨c0, c1, c2, c3⟩ := j2.cell
  obtain ⟨q0, q1, q2, q3, q4, q5⟩ := p2.cell
  have t1 : True := trivial
  have e1 : decide (ap < 0) = false := decide_eq_false (by omega)
  have e2 : decide (2047 ≤ ap) = false := decide_eq_false (by omega)
  have e3 : decide (nx < -1) = false := decide_eq_false (by omega)
  have e4 : decide (16383 < nx) = false := decide_eq_false (by omega)
  have e5 : ((nx == -1) : Bool) = false := by simpa using hx1
  have e6 : ((nx != -1) : Bool) = true := by simpa using hx1
  have e7 : ((nx != ct) : Bool) = true := by simpa using hx2
  have e8 : decide ((1048576 : Int) < (n : Int)) = false := decide_eq_false (by omega)
  have e9 : decide ((0 : Int) < (n : Int)) = true := decide_eq_true (by omega)
  have ea : (((n : Int) == 0) : Bool) = false := by simp; omega
  have eb : decide ((0 : Int) < (m : Int)) = true := decide_eq_true (by omega)
  go_enter Try.func23, Try.ntmps23
  go_wp2_with (first
    | (go_at_call 28; have _t := t1; clear t1; refine (hWR w2).mono ?_; rintro e w3 ⟨rfl, g3⟩; clear c0 c1 c2 c3 q0 q1 q2 q3 q4 q5; have r3 := r2.keep g3 (by simp); have p3 := p2.keep g3 (by simp); have j3 := j2.keep g3 (by simp); obtain ⟨c0, c1, c2, c3⟩ := j3.cell; obtain ⟨q0, q1, q2, q3, q4, q5⟩ := p3.cell; have G3 := grown_trans G2 g3; have gA := World.grownBy_alloc w3 (.cells #[.int .i64 ap, .int .i64 q, .bool false, .slice none 0 0] 44) none; have o4 := BxJ.new w3 ap q false none 0 0; have r4 := r3.keep gA (by simp); have p4 := p3.keep gA (by simp); have j4 := j3.keep gA (by simp); have G4 := grown_trans G3 gA; have hz3 : w.heap.size + 2 < w3.heap.size := r3.lt; have s3 := j4.cell.2.2.2; have t2 : True := trivial)
    | (at_builtin; have _t := t2; refine wpList_clB (w3.alloc (.cells #[.int .i64 ap, .int .i64 q, .bool false, .slice none 0 0] 44)) rfl _ _ rfl rfl a n c U rfl (hU.keep G4) (by omega) ?_; clear t2; intro ax cx w5 g5 hA5; clear c0 c1 c2 c3 q0 q1 q2 q3 q4 q5; clear s3; have r5 := r4.keep g5 (by simp); have p5 := p4.keep g5 (by simp); have j5 := j4.keep g5 (by simp); have o5 := o4.keep g5 (by simp); have G5 := grown_trans G4 g5; obtain ⟨c0, c1, c2, c3⟩ := j5.cell; obtain ⟨q0, q1, q2, q3, q4, q5⟩ := p5.cell; obtain ⟨o0, o1, o2, o3⟩ := o5.cell; obtain ⟨r0', r1', r2', r3'⟩ := r5.cell; have f2 := BxS.free o5 2; have f3 := BxS.free o5 3; have y0 := BxS.free r5 0; have y1 := BxS.free r5 1; have y2 := BxS.free r5 2; have y3 := BxS.free r5 3; have t3 : True := trivial))
  have n3 : some (w.heap.size + 2) ≠ some w3.heap.size := by simp; omega
  have rA : BxS ((w5.setCell ⟨w3.heap.size, 2, none⟩ (.bool false)).setCell ⟨w3.heap.size, 3, none⟩ (.slice none 0 0)) (w.heap.size + 2) 44 _ := BxS.keep (BxS.keep r5 (grown_set _ _ _ _) n3) (grown_set _ _ _ _) n3
  have rB : BxS ((((((w5.setCell ⟨w3.heap.size, 2, none⟩ (.bool false)).setCell ⟨w3.heap.size, 3, none⟩ (.slice none 0 0)).setCell ⟨w.heap.size + 2, 0, none⟩ (.int .i64 ap)).setCell ⟨w.heap.size + 2, 1, none⟩ (.int .i64 q)).setCell ⟨w.heap.size + 2, 2, none⟩ (.bool false)).setCell ⟨w.heap.size + 2, 3, none⟩ (.slice none 0 0)) (w.heap.size + 2) 44 #[.int .i64 ap, .int .i64 q, .bool false, .slice none 0 0] := (((BxS.set rA 0 (.int .i64 ap)).set 1 (.int .i64 q)).set 2 (.bool false)).set 3 (.slice none 0 0)
  have gX : w5.grownBy ((w5.setCell ⟨w3.heap.size, 2, none⟩ (.bool false)).setCell ⟨w3.heap.size, 3, none⟩ (.slice none 0 0)) (some w3.heap.size) := grown_trans (grown_set _ _ _ _) (grown_set _ _ _ _)
  have gY : ((w5.setCell ⟨w3.heap.size, 2, none⟩ (.bool false)).setCell ⟨w3.heap.size, 3, none⟩ (.slice none 0 0)).grownBy ((((((w5.setCell ⟨w3.heap.size, 2, none⟩ (.bool false)).setCell ⟨w3.heap.size, 3, none⟩ (.slice none 0 0)).setCell ⟨w.heap.size + 2, 0, none⟩ (.int .i64 ap)).setCell ⟨w.heap.size + 2, 1, none⟩ (.int .i64 q)).setCell ⟨w.heap.size + 2, 2, none⟩ (.bool false)).setCell ⟨w.heap.size + 2, 3, none⟩ (.slice none 0 0)) (some (w.heap.size + 2)) := grown_trans (grown_set _ _ _ _) (grown_trans (grown_set _ _ _ _) (grown_trans (grown_set _ _ _ _) (grown_set _ _ _ _)))
  refine bodyPost_ret (results_cell4 rfl _ _ _ ⟨w.heap.size + 2, 0, none⟩ _ (.slice none 0 0) (.bool true) (.int .i64 0) rfl (BxS.load rB Try.underlying44 i4) rfl rfl rfl) rfl ?_
  exact ⟨none, 0, 0, none, 0, 0, rfl, ans_nil _ _, ans_nil _ _, grown_far (grown_far G5 gX (fun g e => by cases e; omega)) gY (fun g e => by cases e; omega)⟩
set_option maxHeartbeats 1000000 in
theorem joins_CWf (ap nx ct q : Int) (a : Option Addr) (c : Nat) (up se : Bool) (b : Option Addr) (m d : Nat) (U D : List Nat) (w : World) (hU : Rd w a 0 c U) (hD : Rd w b m d D) (Hq : Hid (q = (ct + 1) % 16384)) (ha1 : 0 ≤ ap) (ha2 : ap ≤ 2046) (h0 : 0 ≤ ct) (h1 : ct ≤ 16383) (hm : 0 < m) (hm2 : m ≤ 65536) (hx1 : nx ≠ -1) (hx2 : nx ≠ ct) (hx3 : -1 ≤ nx) (hx4 : nx ≤ 16383) :
    Calls Try.prog 23 #[.agg #[.int .i64 ap, .int .i64 nx, .bool false, .slice a 0 c], .agg #[.bool up, .bool se, .int .i64 ap, .int .i64 3, .int .i64 ct, .slice b m d]] w fun e w' => ∃ a1 n1 c1 a2 n2 c2, e = .returned (.tuple #[.agg #[.int .i64 ap, .int .i64 q, .bool false, .slice a1 n1 c1], .slice a2 n2 c2, .bool true, .int .i64 0]) ∧ Ans w' w.heap.size a1 n1 c1 ([]) ∧ Ans w' w.heap.size a2 n2 c2 (D) ∧ w.grownBy w' none := by
  have i4 := Try.info_jn
  have hmy : mayE ap 3 ct m = 0 := by unfold mayE; rw [if_pos (by omega), if_neg (by omega)]
  have hWR := fun wz => may_any up se ap 3 ct b m d wz
  rw [hmy] at hWR
  unfold pkV at hWR
  have hqt : (ct + 1).tmod 16384 = q := by rw [Int.tmod_eq_emod_of_nonneg (by omega)]; exact Hq.out.symm
  have hqm : (ct + 1) % 16384 = q := Hq.out.symm
  have j0 := BxJ.new w ap nx false a 0 c
  have g0 := World.grownBy_alloc w (.cells #[.int .i64 ap, .int .i64 nx, .bool false, .slice a 0 c] 44) none
  generalize hw0 : w.alloc (.cells #[.int .i64 ap, .int .i64 nx, .bool false, .slice a 0 c] 44) = w0 at j0 g0
  have hz0 : w0.heap.size = w.heap.size + 1 := by rw [← hw0]; simp
  have p1 := BxP.new w0 up se ap 3 ct b m d
  have g1 := World.grownBy_alloc w0 (.cells #[.bool up, .bool se, .int .i64 ap, .int .i64 3, .int .i64 ct, .slice b m d] 25) none
  generalize hw1 : w0.alloc (.cells #[.bool up, .bool se, .int .i64 ap, .int .i64 3, .int .i64 ct, .slice b m d] 25) = w1 at p1 g1
  have hz1 : w1.heap.size = w.heap.size + 2 := by rw [← hw1]; simp [hz0]
  rw [hz0] at p1
  have r2 := BxJ.new w1 0 0 false none 0 0
  have g2 := World.grownBy_alloc w1 (.cells #[.int .i64 0, .int .i64 0, .bool false, .slice none 0 0] 44) none
  generalize hw2 : w1.alloc (.cells #[.int .i64 0, .int .i64 0, .bool false, .slice none 0 0] 44) = w2 at r2 g2
  rw [hz1] at r2
  have j2 := j0.keep (grown_trans g1 g2) (by simp)
  have p2 := p1.keep g2 (by simp)
  have G2 := grown_trans g0 (grown_trans g1 g2)
  obtain ⟨c0, c1, c2, c3⟩ := j2.cell
  obtain ⟨q0, q1, q2, q3, q4, q5⟩ := p2.cell
  have t1 : True := trivial
  have e1 : decide (ap < 0) = false := decide_eq_false (by omega)
  have e2 : decide (2047 ≤ ap) = false := decide_eq_false (by omega)
  have e3 : decide (nx < -1) = false := decide_eq_false (by omega)
  have e4 : decide (16383 < nx) = false := decide_eq_false (by omega)
  have e5 : ((nx == -1) : Bool) = false := by simpa using hx1
  have e6 : ((nx != -1) : Bool) = true := by simpa using hx1
  have e7 : ((nx != ct) : Bool) = true := by simpa using hx2
  have eb : decide ((0 : Int) < (m : Int)) = true := decide_eq_true (by omega)
  go_enter Try.func23, Try.ntmps23
  go_wp2_with (first
    | (go_at_call 28; have _t := t1; clear t1; refine (hWR w2).mono ?_; rintro e w3 ⟨rfl, g3⟩; clear c0 c1 c2 c3 q0 q1 q2 q3 q4 q5; have r3 := r2.keep g3 (by simp); have p3 := p2.keep g3 (by simp); have j3 := j2.keep g3 (by simp); obtain ⟨c0, c1, c2, c3⟩ := j3.cell; obtain ⟨q0, q1, q2, q3, q4, q5⟩ := p3.cell; have G3 := grown_trans G2 g3; have gA := World.grownBy_alloc w3 (.cells #[.int .i64 ap, .int .i64 q, .bool false, .slice none 0 0] 44) none; have o4 := BxJ.new w3 ap q false none 0 0; have r4 := r3.keep gA (by simp); have p4 := p3.keep gA (by simp); have j4 := j3.keep gA (by simp); have G4 := grown_trans G3 gA; have hz3 : w.heap.size + 2 < w3.heap.size := r3.lt; have s3 := j4.cell.2.2.2; have t2 : True := trivial)
    | (at_builtin; have _t := t2; refine wpList_clB (w3.alloc (.cells #[.int .i64 ap, .int .i64 q, .bool false, .slice none 0 0] 44)) rfl _ _ rfl rfl a 0 c U rfl (hU.keep G4) (by omega) ?_; clear t2; intro ax cx w5 g5 hA5; clear c0 c1 c2 c3 q0 q1 q2 q3 q4 q5; clear s3; have r5 := r4.keep g5 (by simp); have p5 := p4.keep g5 (by simp); have j5 := j4.keep g5 (by simp); have o5 := o4.keep g5 (by simp); have G5 := grown_trans G4 g5; obtain ⟨c0, c1, c2, c3⟩ := j5.cell; obtain ⟨q0, q1, q2, q3, q4, q5⟩ := p5.cell; have t3 : True := trivial)
    | (at_builtin; have _t := t3; refine wpList_clB w5 rfl _ _ rfl rfl b m d D rfl (hD.keep G5) (by omega) ?_; clear t3; intro ay cy w6 g6 hA6; clear c0 c1 c2 c3 q0 q1 q2 q3 q4 q5; have r6 := r5.keep g6 (by simp); have p6 := p5.keep g6 (by simp); have o6 := o5.keep g6 (by simp); have G6 := grown_trans G5 g6; obtain ⟨q0, q1, q2, q3, q4, q5⟩ := p6.cell; obtain ⟨o0, o1, o2, o3⟩ := o6.cell; obtain ⟨r0', r1', r2', r3'⟩ := r6.cell; have f2 := BxS.free o6 2; have f3 := BxS.free o6 3; have y0 := BxS.free r6 0; have y1 := BxS.free r6 1; have y2 := BxS.free r6 2; have y3 := BxS.free r6 3; ))
  have n3 : some (w.heap.size + 2) ≠ some w3.heap.size := by simp; omega
  have rA : BxS ((w6.setCell ⟨w3.heap.size, 2, none⟩ (.bool false)).setCell ⟨w3.heap.size, 3, none⟩ (.slice none 0 0)) (w.heap.size + 2) 44 _ := BxS.keep (BxS.keep r6 (grown_set _ _ _ _) n3) (grown_set _ _ _ _) n3
  have rB : BxS ((((((w6.setCell ⟨w3.heap.size, 2, none⟩ (.bool false)).setCell ⟨w3.heap.size, 3, none⟩ (.slice none 0 0)).setCell ⟨w.heap.size + 2, 0, none⟩ (.int .i64 ap)).setCell ⟨w.heap.size + 2, 1, none⟩ (.int .i64 q)).setCell ⟨w.heap.size + 2, 2, none⟩ (.bool false)).setCell ⟨w.heap.size + 2, 3, none⟩ (.slice none 0 0)) (w.heap.size + 2) 44 #[.int .i64 ap, .int .i64 q, .bool false, .slice none 0 0] := (((BxS.set rA 0 (.int .i64 ap)).set 1 (.int .i64 q)).set 2 (.bool false)).set 3 (.slice none 0 0)
  have gX : w6.grownBy ((w6.setCell ⟨w3.heap.size, 2, none⟩ (.bool false)).setCell ⟨w3.heap.size, 3, none⟩ (.slice none 0 0)) (some w3.heap.size) := grown_trans (grown_set _ _ _ _) (grown_set _ _ _ _)
  have gY : ((w6.setCell ⟨w3.heap.size, 2, none⟩ (.bool false)).setCell ⟨w3.heap.size, 3, none⟩ (.slice none 0 0)).grownBy ((((((w6.setCell ⟨w3.heap.size, 2, none⟩ (.bool false)).setCell ⟨w3.heap.size, 3, none⟩ (.slice none 0 0)).setCell ⟨w.heap.size + 2, 0, none⟩ (.int .i64 ap)).setCell ⟨w.heap.size + 2, 1, none⟩ (.int .i64 q)).setCell ⟨w.heap.size + 2, 2, none⟩ (.bool false)).setCell ⟨w.heap.size + 2, 3, none⟩ (.slice none 0 0)) (some (w.heap.size + 2)) := grown_trans (grown_set _ _ _ _) (grown_trans (grown_set _ _ _ _) (grown_trans (grown_set _ _ _ _) (grown_set _ _ _ _)))
  refine bodyPost_ret (results_cell4 rfl _ _ _ ⟨w.heap.size + 2, 0, none⟩ _ (.slice ay m cy) (.bool true) (.int .i64 0) rfl (BxS.load rB Try.underlying44 i4) rfl rfl rfl) rfl ?_
  have hlo1 : w3.heap.size < w5.heap.size := o5.lt
  have hlo2 : w.heap.size + 2 < w5.heap.size := Nat.lt_trans hz3 hlo1
  have hlo3 : w.heap.size ≤ w5.heap.size := by omega
  exact ⟨none, 0, 0, ay, m, cy, rfl, ans_nil _ _, ((hA6.kept gX (.inr (Ne.symm (sp_ne hA6 hlo1)))).kept gY (.inr (Ne.symm (sp_ne hA6 hlo2)))).wide hlo3, grown_far (grown_far G6 gX (fun g e => by cases e; omega)) gY (fun g e => by cases e; omega)⟩
set_option maxHeartbeats 1000000 in
theorem joins_CFf (ap nx ct q : Int) (a : Option Addr) (c : Nat) (up se : Bool) (b : Option Addr) (m d : Nat) (U D : List Nat) (w : World) (hU : Rd w a 0 c U) (hD : Rd w b m d D) (Hq : Hid (q = (ct + 1) % 16384)) (ha1 : 0 ≤ ap) (ha2 : ap ≤ 2046) (h0 : 0 ≤ ct) (h1 : ct ≤ 16383) (hm : 0 < m) (hm2 : m ≤ 65536) (hx1 : nx ≠ -1) (hx2 : nx ≠ ct) (hx3 : -1 ≤ nx) (hx4 : nx ≤ 16383) :
    Calls Try.prog 23 #[.agg #[.int .i64 ap, .int .i64 nx, .bool false, .slice a 0 c], .agg #[.bool up, .bool se, .int .i64 ap, .int .i64 1, .int .i64 ct, .slice b m d]] w fun e w' => ∃ a1 n1 c1 a2 n2 c2, e = .returned (.tuple #[.agg #[.int .i64 ap, .int .i64 q, .bool true, .slice a1 n1 c1], .slice a2 n2 c2, .bool true, .int .i64 0]) ∧ Ans w' w.heap.size a1 n1 c1 (D) ∧ Ans w' w.heap.size a2 n2 c2 ([]) ∧ w.grownBy w' none := by
  have i4 := Try.info_jn
  have hmy : mayE ap 1 ct m = 0 := by unfold mayE; rw [if_pos (by omega), if_neg (by omega)]
  have hWR := fun wz => may_any up se ap 1 ct b m d wz
  rw [hmy] at hWR
  unfold pkV at hWR
  have hqt : (ct + 1).tmod 16384 = q := by rw [Int.tmod_eq_emod_of_nonneg (by omega)]; exact Hq.out.symm
  have hqm : (ct + 1) % 16384 = q := Hq.out.symm
  have j0 := BxJ.new w ap nx false a 0 c
  have g0 := World.grownBy_alloc w (.cells #[.int .i64 ap, .int .i64 nx, .bool false, .slice a 0 c] 44) none
  generalize hw0 : w.alloc (.cells #[.int .i64 ap, .int .i64 nx, .bool false, .slice a 0 c] 44) = w0 at j0 g0
  have hz0 : w0.heap.size = w.heap.size + 1 := by rw [← hw0]; simp
  have p1 := BxP.new w0 up se ap 1 ct b m d
  have g1 := World.grownBy_alloc w0 (.cells #[.bool up, .bool se, .int .i64 ap, .int .i64 1, .int .i64 ct, .slice b m d] 25) none
  generalize hw1 : w0.alloc (.cells #[.bool up, .bool se, .int .i64 ap, .int .i64 1, .int .i64 ct, .slice b m d] 25) = w1 at p1 g1
  have hz1 : w1.heap.size = w.heap.size + 2 := by rw [← hw1]; simp [hz0]
  rw [hz0] at p1
  have r2 := BxJ.new w1 0 0 false none 0 0
  have g2 := World.grownBy_alloc w1 (.cells #[.int .i64 0, .int .i64 0, .bool false, .slice none 0 0] 44) none
  generalize hw2 : w1.alloc (.cells #[.int .i64 0, .int .i64 0, .bool false, .slice none 0 0] 44) = w2 at r2 g2
  rw [hz1] at r2
  have j2 := j0.keep (grown_trans g1 g2) (by simp)
  have p2 := p1.keep g2 (by simp)
  have G2 := grown_trans g0 (grown_trans g1 g2)
  obtain ⟨c0, c1, c2, c3⟩ := j2.cell
  obtain ⟨q0, q1, q2, q3, q4, q5⟩ := p2.cell
  have t1 : True := trivial
  have e1 : decide (ap < 0) = false := decide_eq_false (by omega)
  have e2 : decide (2047 ≤ ap) = false := decide_eq_false (by omega)
  have e3 : decide (nx < -1) = false := decide_eq_false (by omega)
  have e4 : decide (16383 < nx) = false := decide_eq_false (by omega)
  have e5 : ((nx == -1) : Bool) = false := by simpa using hx1
  have e6 : ((nx != -1) : Bool) = true := by simpa using hx1
  have e7 : ((nx != ct) : Bool) = true := by simpa using hx2
  have eb : decide ((0 : Int) < (m : Int)) = true := decide_eq_true (by omega)
  go_enter Try.func23, Try.ntmps23
  go_wp2_with (first
    | (go_at_call 28; have _t := t1; clear t1; refine (hWR w2).mono ?_; rintro e w3 ⟨rfl, g3⟩; clear c0 c1 c2 c3 q0 q1 q2 q3 q4 q5; have r3 := r2.keep g3 (by simp); have p3 := p2.keep g3 (by simp); have j3 := j2.keep g3 (by simp); obtain ⟨c0, c1, c2, c3⟩ := j3.cell; obtain ⟨q0, q1, q2, q3, q4, q5⟩ := p3.cell; have G3 := grown_trans G2 g3; have gA := World.grownBy_alloc w3 (.cells #[.int .i64 ap, .int .i64 q, .bool false, .slice none 0 0] 44) none; have o4 := BxJ.new w3 ap q false none 0 0; have r4 := r3.keep gA (by simp); have p4 := p3.keep gA (by simp); have j4 := j3.keep gA (by simp); have G4 := grown_trans G3 gA; have hz3 : w.heap.size + 2 < w3.heap.size := r3.lt; have s3 := j4.cell.2.2.2; have t2 : True := trivial)
    | (at_builtin; have _t := t2; refine wpList_clB (w3.alloc (.cells #[.int .i64 ap, .int .i64 q, .bool false, .slice none 0 0] 44)) rfl _ _ rfl rfl a 0 c U rfl (hU.keep G4) (by omega) ?_; clear t2; intro ax cx w5 g5 hA5; clear c0 c1 c2 c3 q0 q1 q2 q3 q4 q5; clear s3; have r5 := r4.keep g5 (by simp); have p5 := p4.keep g5 (by simp); have j5 := j4.keep g5 (by simp); have o5 := o4.keep g5 (by simp); have G5 := grown_trans G4 g5; obtain ⟨c0, c1, c2, c3⟩ := j5.cell; obtain ⟨q0, q1, q2, q3, q4, q5⟩ := p5.cell; have t3 : True := trivial)
    | (at_builtin; have _t := t3; refine wpList_clB w5 rfl _ _ rfl rfl b m d D rfl (hD.keep G5) (by omega) ?_; clear t3; intro ay cy w6 g6 hA6; clear c0 c1 c2 c3 q0 q1 q2 q3 q4 q5; have r6 := r5.keep g6 (by simp); have p6 := p5.keep g6 (by simp); have o6 := o5.keep g6 (by simp); have G6 := grown_trans G5 g6; obtain ⟨q0, q1, q2, q3, q4, q5⟩ := p6.cell; obtain ⟨o0, o1, o2, o3⟩ := o6.cell; obtain ⟨r0', r1', r2', r3'⟩ := r6.cell; have f2 := BxS.free o6 2; have f3 := BxS.free o6 3; have y0 := BxS.free r6 0; have y1 := BxS.free r6 1; have y2 := BxS.free r6 2; have y3 := BxS.free r6 3; ))
  have n3 : some (w.heap.size + 2) ≠ some w3.heap.size := by simp; omega
  have rA : BxS ((w6.setCell ⟨w3.heap.size, 2, none⟩ (.bool true)).setCell ⟨w3.heap.size, 3, none⟩ (.slice ay m cy)) (w.heap.size + 2) 44 _ := BxS.keep (BxS.keep r6 (grown_set _ _ _ _) n3) (grown_set _ _ _ _) n3
  have rB : BxS ((((((w6.setCell ⟨w3.heap.size, 2, none⟩ (.bool true)).setCell ⟨w3.heap.size, 3, none⟩ (.slice ay m cy)).setCell ⟨w.heap.size + 2, 0, none⟩ (.int .i64 ap)).setCell ⟨w.heap.size + 2, 1, none⟩ (.int .i64 q)).setCell ⟨w.heap.size + 2, 2, none⟩ (.bool true)).setCell ⟨w.heap.size + 2, 3, none⟩ (.slice ay m cy)) (w.heap.size + 2) 44 #[.int .i64 ap, .int .i64 q, .bool true, .slice ay m cy] := (((BxS.set rA 0 (.int .i64 ap)).set 1 (.int .i64 q)).set 2 (.bool true)).set 3 (.slice ay m cy)
  have gX : w6.grownBy ((w6.setCell ⟨w3.heap.size, 2, none⟩ (.bool true)).setCell ⟨w3.heap.size, 3, none⟩ (.slice ay m cy)) (some w3.heap.size) := grown_trans (grown_set _ _ _ _) (grown_set _ _ _ _)
  have gY : ((w6.setCell ⟨w3.heap.size, 2, none⟩ (.bool true)).setCell ⟨w3.heap.size, 3, none⟩ (.slice ay m cy)).grownBy ((((((w6.setCell ⟨w3.heap.size, 2, none⟩ (.bool true)).setCell ⟨w3.heap.size, 3, none⟩ (.slice ay m cy)).setCell ⟨w.heap.size + 2, 0, none⟩ (.int .i64 ap)).setCell ⟨w.heap.size + 2, 1, none⟩ (.int .i64 q)).setCell ⟨w.heap.size + 2, 2, none⟩ (.bool true)).setCell ⟨w.heap.size + 2, 3, none⟩ (.slice ay m cy)) (some (w.heap.size + 2)) := grown_trans (grown_set _ _ _ _) (grown_trans (grown_set _ _ _ _) (grown_trans (grown_set _ _ _ _) (grown_set _ _ _ _)))
  refine bodyPost_ret (results_cell4 rfl _ _ _ ⟨w.heap.size + 2, 0, none⟩ _ (.slice none 0 0) (.bool true) (.int .i64 0) rfl (BxS.load rB Try.underlying44 i4) rfl rfl rfl) rfl ?_
  have hlo1 : w3.heap.size < w5.heap.size := o5.lt
  have hlo2 : w.heap.size + 2 < w5.heap.size := Nat.lt_trans hz3 hlo1
  have hlo3 : w.heap.size ≤ w5.heap.size := by omega
  exact ⟨ay, m, cy, none, 0, 0, rfl, ((hA6.kept gX (.inr (Ne.symm (sp_ne hA6 hlo1)))).kept gY (.inr (Ne.symm (sp_ne hA6 hlo2)))).wide hlo3, ans_nil _ _, grown_far (grown_far G6 gX (fun g e => by cases e; omega)) gY (fun g e => by cases e; omega)⟩
set_option maxHeartbeats 1000000 in
theorem joins_CMf (ap nx ct q : Int) (a : Option Addr) (c : Nat) (up se : Bool) (b : Option Addr) (m d : Nat) (U D : List Nat) (w : World) (hU : Rd w a 0 c U) (hD : Rd w b m d D) (Hq : Hid (q = (ct + 1) % 16384)) (ha1 : 0 ≤ ap) (ha2 : ap ≤ 2046) (h0 : 0 ≤ ct) (h1 : ct ≤ 16383) (hm : 0 < m) (hm2 : m ≤ 65536) (hx1 : nx ≠ -1) (hx2 : nx ≠ ct) (hx3 : -1 ≤ nx) (hx4 : nx ≤ 16383) :
    Calls Try.prog 23 #[.agg #[.int .i64 ap, .int .i64 nx, .bool false, .slice a 0 c], .agg #[.bool up, .bool se, .int .i64 ap, .int .i64 0, .int .i64 ct, .slice b m d]] w fun e w' => ∃ a1 n1 c1 a2 n2 c2, e = .returned (.tuple #[.agg #[.int .i64 ap, .int .i64 q, .bool false, .slice a1 n1 c1], .slice a2 n2 c2, .bool true, .int .i64 0]) ∧ Ans w' w.heap.size a1 n1 c1 ([]) ∧ Ans w' w.heap.size a2 n2 c2 ([]) ∧ w.grownBy w' none := by
  have i4 := Try.info_jn
  have hmy : mayE ap 0 ct m = 0 := by unfold mayE; rw [if_pos (by omega), if_neg (by omega)]
  have hWR := fun wz => may_any up se ap 0 ct b m d wz
  rw [hmy] at hWR
  unfold pkV at hWR
  have hqt : (ct + 1).tmod 16384 = q := by rw [Int.tmod_eq_emod_of_nonneg (by omega)]; exact Hq.out.symm
  have hqm : (ct + 1) % 16384 = q := Hq.out.symm
  have j0 := BxJ.new w ap nx false a 0 c
  have g0 := World.grownBy_alloc w (.cells #[.int .i64 ap, .int .i64 nx, .bool false, .slice a 0 c] 44) none
  generalize hw0 : w.alloc (.cells #[.int .i64 ap, .int .i64 nx, .bool false, .slice a 0 c] 44) = w0 at j0 g0
  have hz0 : w0.heap.size = w.heap.size + 1 := by rw [← hw0]; simp
  have p1 := BxP.new w0 up se ap 0 ct b m d
  have g1 := World.grownBy_alloc w0 (.cells #[.bool up, .bool se, .int .i64 ap, .int .i64 0, .int .i64 ct, .slice b m d] 25) none
  generalize hw1 : w0.alloc (.cells #[.bool up, .bool se, .int .i64 ap, .int .i64 0, .int .i64 ct, .slice b m d] 25) = w1 at p1 g1
  have hz1 : w1.heap.size = w.heap.size + 2 := by rw [← hw1]; simp [hz0]
  rw [hz0] at p1
  have r2 := BxJ.new w1 0 0 false none 0 0
  have g2 := World.grownBy_alloc w1 (.cells #[.int .i64 0, .int .i64 0, .bool false, .slice none 0 0] 44) none
  generalize hw2 : w1.alloc (.cells #[.int .i64 0, .int .i64 0, .bool false, .slice none 0 0] 44) = w2 at r2 g2
  rw [hz1] at r2
  have j2 := j0.keep (grown_trans g1 g2) (by simp)
  have p2 := p1.keep g2 (by simp)
  have G2 := grown_trans g0 (grown_trans g1 g2)
  obtain ⟨c0, c1, c2, c3⟩ := j2.cell
  obtain ⟨q0, q1, q2, q3, q4, q5⟩ := p2.cell
  have t1 : True := trivial
  have e1 : decide (ap < 0) = false := decide_eq_false (by omega)
  have e2 : decide (2047 ≤ ap) = false := decide_eq_false (by omega)
  have e3 : decide (nx < -1) = false := decide_eq_false (by omega)
  have e4 : decide (16383 < nx) = false := decide_eq_false (by omega)
  have e5 : ((nx == -1) : Bool) = false := by simpa using hx1
  have e6 : ((nx != -1) : Bool) = true := by simpa using hx1
  have e7 : ((nx != ct) : Bool) = true := by simpa using hx2
  have eb : decide ((0 : Int) < (m : Int)) = true := decide_eq_true (by omega)
  go_enter Try.func23, Try.ntmps23
  go_wp2_with (first
    | (go_at_call 28; have _t := t1; clear t1; refine (hWR w2).mono ?_; rintro e w3 ⟨rfl, g3⟩; clear c0 c1 c2 c3 q0 q1 q2 q3 q4 q5; have r3 := r2.keep g3 (by simp); have p3 := p2.keep g3 (by simp); have j3 := j2.keep g3 (by simp); obtain ⟨c0, c1, c2, c3⟩ := j3.cell; obtain ⟨q0, q1, q2, q3, q4, q5⟩ := p3.cell; have G3 := grown_trans G2 g3; have gA := World.grownBy_alloc w3 (.cells #[.int .i64 ap, .int .i64 q, .bool false, .slice none 0 0] 44) none; have o4 := BxJ.new w3 ap q false none 0 0; have r4 := r3.keep gA (by simp); have p4 := p3.keep gA (by simp); have j4 := j3.keep gA (by simp); have G4 := grown_trans G3 gA; have hz3 : w.heap.size + 2 < w3.heap.size := r3.lt; have s3 := j4.cell.2.2.2; have t2 : True := trivial)
    | (at_builtin; have _t := t2; refine wpList_clB (w3.alloc (.cells #[.int .i64 ap, .int .i64 q, .bool false, .slice none 0 0] 44)) rfl _ _ rfl rfl a 0 c U rfl (hU.keep G4) (by omega) ?_; clear t2; intro ax cx w5 g5 hA5; clear c0 c1 c2 c3 q0 q1 q2 q3 q4 q5; clear s3; have r5 := r4.keep g5 (by simp); have p5 := p4.keep g5 (by simp); have j5 := j4.keep g5 (by simp); have o5 := o4.keep g5 (by simp); have G5 := grown_trans G4 g5; obtain ⟨c0, c1, c2, c3⟩ := j5.cell; obtain ⟨q0, q1, q2, q3, q4, q5⟩ := p5.cell; obtain ⟨o0, o1, o2, o3⟩ := o5.cell; obtain ⟨r0', r1', r2', r3'⟩ := r5.cell; have f2 := BxS.free o5 2; have f3 := BxS.free o5 3; have y0 := BxS.free r5 0; have y1 := BxS.free r5 1; have y2 := BxS.free r5 2; have y3 := BxS.free r5 3; have t3 : True := trivial))
  have n3 : some (w.heap.size + 2) ≠ some w3.heap.size := by simp; omega
  have rA : BxS ((w5.setCell ⟨w3.heap.size, 2, none⟩ (.bool false)).setCell ⟨w3.heap.size, 3, none⟩ (.slice none 0 0)) (w.heap.size + 2) 44 _ := BxS.keep (BxS.keep r5 (grown_set _ _ _ _) n3) (grown_set _ _ _ _) n3
  have rB : BxS ((((((w5.setCell ⟨w3.heap.size, 2, none⟩ (.bool false)).setCell ⟨w3.heap.size, 3, none⟩ (.slice none 0 0)).setCell ⟨w.heap.size + 2, 0, none⟩ (.int .i64 ap)).setCell ⟨w.heap.size + 2, 1, none⟩ (.int .i64 q)).setCell ⟨w.heap.size + 2, 2, none⟩ (.bool false)).setCell ⟨w.heap.size + 2, 3, none⟩ (.slice none 0 0)) (w.heap.size + 2) 44 #[.int .i64 ap, .int .i64 q, .bool false, .slice none 0 0] := (((BxS.set rA 0 (.int .i64 ap)).set 1 (.int .i64 q)).set 2 (.bool false)).set 3 (.slice none 0 0)
  have gX : w5.grownBy ((w5.setCell ⟨w3.heap.size, 2, none⟩ (.bool false)).setCell ⟨w3.heap.size, 3, none⟩ (.slice none 0 0)) (some w3.heap.size) := grown_trans (grown_set _ _ _ _) (grown_set _ _ _ _)
  have gY : ((w5.setCell ⟨w3.heap.size, 2, none⟩ (.bool false)).setCell ⟨w3.heap.size, 3, none⟩ (.slice none 0 0)).grownBy ((((((w5.setCell ⟨w3.heap.size, 2, none⟩ (.bool false)).setCell ⟨w3.heap.size, 3, none⟩ (.slice none 0 0)).setCell ⟨w.heap.size + 2, 0, none⟩ (.int .i64 ap)).setCell ⟨w.heap.size + 2, 1, none⟩ (.int .i64 q)).setCell ⟨w.heap.size + 2, 2, none⟩ (.bool false)).setCell ⟨w.heap.size + 2, 3, none⟩ (.slice none 0 0)) (some (w.heap.size + 2)) := grown_trans (grown_set _ _ _ _) (grown_trans (grown_set _ _ _ _) (grown_trans (grown_set _ _ _ _) (grown_set _ _ _ _)))
  refine bodyPost_ret (results_cell4 rfl _ _ _ ⟨w.heap.size + 2, 0, none⟩ _ (.slice none 0 0) (.bool true) (.int .i64 0) rfl (BxS.load rB Try.underlying44 i4) rfl rfl rfl) rfl ?_
  exact ⟨none, 0, 0, none, 0, 0, rfl, ans_nil _ _, ans_nil _ _, grown_far (grown_far G5 gX (fun g e => by cases e; omega)) gY (fun g e => by cases e; omega)⟩
set_option maxHeartbeats 1000000 in
theorem joins_CLf (ap nx ct q : Int) (a : Option Addr) (c : Nat) (up se : Bool) (b : Option Addr) (m d : Nat) (U D : List Nat) (w : World) (hU : Rd w a 0 c U) (hD : Rd w b m d D) (Hq : Hid (q = (ct + 1) % 16384)) (ha1 : 0 ≤ ap) (ha2 : ap ≤ 2046) (h0 : 0 ≤ ct) (h1 : ct ≤ 16383) (hm : 0 < m) (hm2 : m ≤ 65536) (hx1 : nx ≠ -1) (hx2 : nx ≠ ct) (hx3 : -1 ≤ nx) (hx4 : nx ≤ 16383) :
    Calls Try.prog 23 #[.agg #[.int .i64 ap, .int .i64 nx, .bool false, .slice a 0 c], .agg #[.bool up, .bool se, .int .i64 ap, .int .i64 2, .int .i64 ct, .slice b m d]] w fun e w' => ∃ a1 n1 c1 a2 n2 c2, e = .returned (.tuple #[.agg #[.int .i64 ap, .int .i64 q, .bool false, .slice a1 n1 c1], .slice a2 n2 c2, .bool true, .int .i64 0]) ∧ Ans w' w.heap.size a1 n1 c1 ([]) ∧ Ans w' w.heap.size a2 n2 c2 ([]) ∧ w.grownBy w' none := by
  have i4 := Try.info_jn
  have hmy : mayE ap 2 ct m = 0 := by unfold mayE; rw [if_pos (by omega), if_neg (by omega)]
  have hWR := fun wz => may_any up se ap 2 ct b m d wz
  rw [hmy] at hWR
  unfold pkV at hWR
  have hqt : (ct + 1).tmod 16384 = q := by rw [Int.tmod_eq_emod_of_nonneg (by omega)]; exact Hq.out.symm
  have hqm : (ct + 1) % 16384 = q := Hq.out.symm
  have j0 := BxJ.new w ap nx false a 0 c
  have g0 := World.grownBy_alloc w (.cells #[.int .i64 ap, .int .i64 nx, .bool false, .slice a 0 c] 44) none
  generalize hw0 : w.alloc (.cells #[.int .i64 ap, .int .i64 nx, .bool false, .slice a 0 c] 44) = w0 at j0 g0
  have hz0 : w0.heap.size = w.heap.size + 1 := by rw [← hw0]; simp
  have p1 := BxP.new w0 up se ap 2 ct b m d
  have g1 := World.grownBy_alloc w0 (.cells #[.bool up, .bool se, .int .i64 ap, .int .i64 2, .int .i64 ct, .slice b m d] 25) none
  generalize hw1 : w0.alloc (.cells #[.bool up, .bool se, .int .i64 ap, .int .i64 2, .int .i64 ct, .slice b m d] 25) = w1 at p1 g1
  have hz1 : w1.heap.size = w.heap.size + 2 := by rw [← hw1]; simp [hz0]
  rw [hz0] at p1
  have r2 := BxJ.new w1 0 0 false none 0 0
  have g2 := World.grownBy_alloc w1 (.cells #[.int .i64 0, .int .i64 0, .bool false, .slice none 0 0] 44) none
  generalize hw2 : w1.alloc (.cells #[.int .i64 0, .int .i64 0, .bool false, .slice none 0 0] 44) = w2 at r2 g2
  rw [hz1] at r2
  have j2 := j0.keep (grown_trans g1 g2) (by simp)
  have p2 := p1.keep g2 (by simp)
  have G2 := grown_trans g0 (grown_trans g1 g2)
  obtain ⟨c0, c1, c2, c3⟩ := j2.cell
  obtain ⟨q0, q1, q2, q3, q4, q5⟩ := p2.cell
  have t1 : True := trivial
  have e1 : decide (ap < 0) = false := decide_eq_false (by omega)
  have e2 : decide (2047 ≤ ap) = false := decide_eq_false (by omega)
  have e3 : decide (nx < -1) = false := decide_eq_false (by omega)
  have e4 : decide (16383 < nx) = false := decide_eq_false (by omega)
  have e5 : ((nx == -1) : Bool) = false := by simpa using hx1
  have e6 : ((nx != -1) : Bool) = true := by simpa using hx1
  have e7 : ((nx != ct) : Bool) = true := by simpa using hx2
  have eb : decide ((0 : Int) < (m : Int)) = true := decide_eq_true (by omega)
  go_enter Try.func23, Try.ntmps23
  go_wp2_with (first
    | (go_at_call 28; have _t := t1; clear t1; refine (hWR w2).mono ?_; rintro e w3 ⟨rfl, g3⟩; clear c0 c1 c2 c3 q0 q1 q2 q3 q4 q5; have r3 := r2.keep g3 (by simp); have p3 := p2.keep g3 (by simp); have j3 := j2.keep g3 (by simp); obtain ⟨c0, c1, c2, c3⟩ := j3.cell; obtain ⟨q0, q1, q2, q3, q4, q5⟩ := p3.cell; have G3 := grown_trans G2 g3; have gA := World.grownBy_alloc w3 (.cells #[.int .i64 ap, .int .i64 q, .bool false, .slice none 0 0] 44) none; have o4 := BxJ.new w3 ap q false none 0 0; have r4 := r3.keep gA (by simp); have p4 := p3.keep gA (by simp); have j4 := j3.keep gA (by simp); have G4 := grown_trans G3 gA; have hz3 : w.heap.size + 2 < w3.heap.size := r3.lt; have s3 := j4.cell.2.2.2; have t2 : True := trivial)
    | (at_builtin; have _t := t2; refine wpList_clB (w3.alloc (.cells #[.int .i64 ap, .int .i64 q, .bool false, .slice none 0 0] 44)) rfl _ _ rfl rfl a 0 c U rfl (hU.keep G4) (by omega) ?_; clear t2; intro ax cx w5 g5 hA5; clear c0 c1 c2 c3 q0 q1 q2 q3 q4 q5; clear s3; have r5 := r4.keep g5 (by simp); have p5 := p4.keep g5 (by simp); have j5 := j4.keep g5 (by simp); have o5 := o4.keep g5 (by simp); have G5 := grown_trans G4 g5; obtain ⟨c0, c1, c2, c3⟩ := j5.cell; obtain ⟨q0, q1, q2, q3, q4, q5⟩ := p5.cell; obtain ⟨o0, o1, o2, o3⟩ := o5.cell; obtain ⟨r0', r1', r2', r3'⟩ := r5.cell; have f2 := BxS.free o5 2; have f3 := BxS.free o5 3; have y0 := BxS.free r5 0; have y1 := BxS.free r5 1; have y2 := BxS.free r5 2; have y3 := BxS.free r5 3; have t3 : True := trivial))
  have n3 : some (w.heap.size + 2) ≠ some w3.heap.size := by simp; omega
  have rA : BxS ((w5.setCell ⟨w3.heap.size, 2, none⟩ (.bool false)).setCell ⟨w3.heap.size, 3, none⟩ (.slice none 0 0)) (w.heap.size + 2) 44 _ := BxS.keep (BxS.keep r5 (grown_set _ _ _ _) n3) (grown_set _ _ _ _) n3
  have rB : BxS ((((((w5.setCell ⟨w3.heap.size, 2, none⟩ (.bool false)).setCell ⟨w3.heap.size, 3, none⟩ (.slice none 0 0)).setCell ⟨w.heap.size + 2, 0, none⟩ (.int .i64 ap)).setCell ⟨w.heap.size + 2, 1, none⟩ (.int .i64 q)).setCell ⟨w.heap.size + 2, 2, none⟩ (.bool false)).setCell ⟨w.heap.size + 2, 3, none⟩ (.slice none 0 0)) (w.heap.size + 2) 44 #[.int .i64 ap, .int .i64 q, .bool false, .slice none 0 0] := (((BxS.set rA 0 (.int .i64 ap)).set 1 (.int .i64 q)).set 2 (.bool false)).set 3 (.slice none 0 0)
  have gX : w5.grownBy ((w5.setCell ⟨w3.heap.size, 2, none⟩ (.bool false)).setCell ⟨w3.heap.size, 3, none⟩ (.slice none 0 0)) (some w3.heap.size) := grown_trans (grown_set _ _ _ _) (grown_set _ _ _ _)
  have gY : ((w5.setCell ⟨w3.heap.size, 2, none⟩ (.bool false)).setCell ⟨w3.heap.size, 3, none⟩ (.slice none 0 0)).grownBy ((((((w5.setCell ⟨w3.heap.size, 2, none⟩ (.bool false)).setCell ⟨w3.heap.size, 3, none⟩ (.slice none 0 0)).setCell ⟨w.heap.size + 2, 0, none⟩ (.int .i64 ap)).setCell ⟨w.heap.size + 2, 1, none⟩ (.int .i64 q)).setCell ⟨w.heap.size + 2, 2, none⟩ (.bool false)).setCell ⟨w.heap.size + 2, 3, none⟩ (.slice none 0 0)) (some (w.heap.size + 2)) := grown_trans (grown_set _ _ _ _) (grown_trans (grown_set _ _ _ _) (grown_trans (grown_set _ _ _ _) (grown_set _ _ _ _)))
  refine bodyPost_ret (results_cell4 rfl _ _ _ ⟨w.heap.size + 2, 0, none⟩ _ (.slice none 0 0) (.bool true) (.int .i64 0) rfl (BxS.load rB Try.underlying44 i4) rfl rfl rfl) rfl ?_
  exact ⟨none, 0, 0, none, 0, 0, rfl, ans_nil _ _, ans_nil _ _, grown_far (grown_far G5 gX (fun g e => by cases e; omega)) gY (fun g e => by cases e; omega)⟩
end Go.Proofs.Ytmcadmndmafogaa
