import Derived.Test.YtnnohgllnfmoeaaPJoA
import Derived.Test.YtnnohgllnfmoeaaPDec
namespace Go.Proofs.Ytnnohgllnfmoeaa
open Go.RowKit
set_option maxRecDepth 100000
set_option linter.unusedVariables false
set_option linter.unusedSimpArgs false

theorem countBehind_any (ct q : Int) (hq : Hid (q = (ct + 1) % 16384)) (h0 : 0 ≤ ct) (h1 : ct ≤ 16383) (w : World) : Calls Try.prog 19 #[.int .i64 ct] w fun e w' => e = .returned (.int .i64 q) ∧ w' = w := by
  have ht : (ct + 1).tmod 16384 = q := by rw [Int.tmod_eq_emod_of_nonneg (by omega)]; exact hq.out.symm
  have hm : (ct + 1) % 16384 = q := hq.out.symm
  go_enter Try.func19, Try.ntmps19
  go_wp2
  go_ret
  exact ⟨rfl, rfl⟩
set_option maxHeartbeats 4000000 in
theorem take_AW (g : Nat) (ap ap' ct q : Int) (op : Bool) (a : Option Addr) (n c : Nat) (up se : Bool) (b ob m d : Nat) (U D : List Nat) (w : World) (h : Jr w g ap (-1) op a n c false) (hU : Rd w a n c U) (hD : Rd w (some ⟨b, ob, none⟩) m d D) (hq : Hid (q = (ct + 1) % 16384)) (h0 : 0 ≤ ct) (h1 : ct ≤ 16383) (hm : 0 < m) (hm2 : m ≤ 65536) (hn : n ≤ 1048576) (hbg : ¬ b = g) (hug : 0 < n → ∀ x y, a = some ⟨x, y, none⟩ → some x ≠ some g) :
    Calls Try.prog 23 #[.pointer (some ⟨g, 0, none⟩), pkV up se ap' 3 ct (some ⟨b, ob, none⟩) m d] w fun e w' => ∃ a2 n2 c2, e = .returned (.slice a2 n2 c2) ∧ Jr w' g ap q false none 0 0 (false || op) ∧ Ans w' w.heap.size a2 n2 c2 D ∧ w.grownBy w' (some g) := by
  unfold pkV
  have hgl : g < w.heap.size := BxS.lt h
  have P0 := BxP.new w up se ap' 3 ct (some ⟨b, ob, none⟩) m d
  have g0 := World.grownBy_alloc w (.cells #[.bool up, .bool se, .int .i64 ap', .int .i64 3, .int .i64 ct, .slice (some ⟨b, ob, none⟩) m d] 33) none
  generalize hw0 : w.alloc (.cells #[.bool up, .bool se, .int .i64 ap', .int .i64 3, .int .i64 ct, .slice (some ⟨b, ob, none⟩) m d] 33) = w0 at P0 g0
  have J0 : Jr w0 g ap (-1) op a n c false := BxS.keep h g0 (by simp)
  have hnp : some w.heap.size ≠ some g := by simp; omega
  have hD0 := hD.keep g0
  have hU0 := hU.keep g0
  obtain ⟨c0, c1, c2, c3, c4⟩ := J0.cells
  obtain ⟨p0, p1, p2, p3, p4, p5⟩ := P0.cell
  go_enter Try.func23, Try.ntmps23
  go_wp2
  go_quiet (fail)
  have gq := grown_drewN w0 nq none
  have J1 : Jr (w0.drewN nq) g ap (-1) op a n c false := BxS.keep J0 gq (by simp)
  have P1 := P0.keep gq (by simp)
  have hD1 := hD0.keep gq
  have hU1 := hU0.keep gq
  generalize hw1 : w0.drewN nq = w1 at gq J1 P1 hD1 hU1 ⊢
  have G1 : w.grownBy w1 (some g) := grown_weak (grown_trans g0 gq) _
  have hz1 : w.heap.size < w1.heap.size := P1.lt
  clear c0 c1 c2 c3 c4 p0 p1 p2 p3 p4 p5 hw0 hw1
  obtain ⟨c0, c1, c2, c3, c4⟩ := J1.cells
  obtain ⟨p0, p1, p2, p3, p4, p5⟩ := P1.cell
  have f1 := BxS.free J1 1
  have f4 := BxS.free J1 4
  have t1 : True := trivial
  go_wp2_with (first
    | (go_at_call 19; have _t := t1; clear t1; refine (countBehind_any ct q hq h0 h1 w1).mono ?_; rintro e wx ⟨rfl, hw⟩; have hw := hw.symm; subst hw; have J2 := J1.set1 q; have g2 := grown_set w1 g 1 (.int .i64 q); have P2 := P1.keep g2 hnp; have hD2 := hD1.grown' g2 (fun _ x y e => by cases e; simp; exact fun e => hbg e); have hU2 := hU1.grown' g2 hug; generalize hw2 : w1.setCell ⟨g, 1, none⟩ (.int .i64 q) = w2 at J2 g2 P2 hD2 hU2; have G2 := grown_trans G1 g2; have hz2 : w.heap.size < w2.heap.size := P2.lt; have q0 := J2.cells; have q1 := P2.cell; obtain ⟨c0', c1', c2', c3', c4'⟩ := q0; obtain ⟨p0', p1', p2', p3', p4', p5'⟩ := q1; have t2 : True := trivial)
    | (go_at_call 24; have _t := t2; clear t2; refine (drop_any g ap q op a n c false w2 J2).mono ?_; rintro e w3 ⟨rfl, J3, g3⟩; clear c0' c1' c2' c3' c4' p0' p1' p2' p3' p4' p5'; have P3 := P2.keep g3 hnp; have hD3 := hD2.grown' g3 (fun _ x y e => by cases e; simp; exact fun e => hbg e); have G3 := grown_trans G2 g3; have hz3 : w.heap.size < w3.heap.size := P3.lt; obtain ⟨c0', c1', c2', c3', c4'⟩ := J3.cells; obtain ⟨p0', p1', p2', p3', p4', p5'⟩ := P3.cell; have t3 : True := trivial)
    | (go_at_call 18; have _t := t3; clear t3; refine (pclone_any b ob m d D w3 hD3 hm (by omega)).mono ?_; rintro e w4 ⟨gc, cc, rfl, hA, g4⟩; have J4 := BxS.keep J3 g4 (by simp); have G4 := grown_trans G3 (grown_weak g4 _); have k2 := BxS.cell J4 2 (by simp [jrA]); have k3 := BxS.cell J4 3 (by simp [jrA]); simp only [jrA] at k2 k3; have f2 := BxS.free J4 2; have f3 := BxS.free J4 3))
  go_ret
  have J' : Jr w4 g ap q false none 0 0 _ := J4
  exact ⟨some ⟨gc, 0, none⟩, m, cc, rfl, J', hA.wide (Nat.le_of_lt hz3), G4⟩
set_option maxHeartbeats 4000000 in
theorem take_AF (g : Nat) (ap ap' ct q : Int) (op : Bool) (a : Option Addr) (n c : Nat) (up se : Bool) (b ob m d : Nat) (U D : List Nat) (w : World) (h : Jr w g ap (-1) op a n c false) (hU : Rd w a n c U) (hD : Rd w (some ⟨b, ob, none⟩) m d D) (hq : Hid (q = (ct + 1) % 16384)) (h0 : 0 ≤ ct) (h1 : ct ≤ 16383) (hm : 0 < m) (hm2 : m ≤ 65536) (hn : n ≤ 1048576) (hbg : ¬ b = g) (hug : 0 < n → ∀ x y, a = some ⟨x, y, none⟩ → some x ≠ some g) :
    Calls Try.prog 23 #[.pointer (some ⟨g, 0, none⟩), pkV up se ap' 1 ct (some ⟨b, ob, none⟩) m d] w fun e w' => ∃ a1 n1 c1, e = .returned (.slice none 0 0) ∧ Jr w' g ap q true a1 n1 c1 (false || op) ∧ Ans w' w.heap.size a1 n1 c1 D ∧ w.grownBy w' (some g) := by
  unfold pkV
  have hgl : g < w.heap.size := BxS.lt h
  have P0 := BxP.new w up se ap' 1 ct (some ⟨b, ob, none⟩) m d
  have g0 := World.grownBy_alloc w (.cells #[.bool up, .bool se, .int .i64 ap', .int .i64 1, .int .i64 ct, .slice (some ⟨b, ob, none⟩) m d] 33) none
  generalize hw0 : w.alloc (.cells #[.bool up, .bool se, .int .i64 ap', .int .i64 1, .int .i64 ct, .slice (some ⟨b, ob, none⟩) m d] 33) = w0 at P0 g0
  have J0 : Jr w0 g ap (-1) op a n c false := BxS.keep h g0 (by simp)
  have hnp : some w.heap.size ≠ some g := by simp; omega
  have hD0 := hD.keep g0
  have hU0 := hU.keep g0
  obtain ⟨c0, c1, c2, c3, c4⟩ := J0.cells
  obtain ⟨p0, p1, p2, p3, p4, p5⟩ := P0.cell
  go_enter Try.func23, Try.ntmps23
  go_wp2
  go_quiet (fail)
  have gq := grown_drewN w0 nq none
  have J1 : Jr (w0.drewN nq) g ap (-1) op a n c false := BxS.keep J0 gq (by simp)
  have P1 := P0.keep gq (by simp)
  have hD1 := hD0.keep gq
  have hU1 := hU0.keep gq
  generalize hw1 : w0.drewN nq = w1 at gq J1 P1 hD1 hU1 ⊢
  have G1 : w.grownBy w1 (some g) := grown_weak (grown_trans g0 gq) _
  have hz1 : w.heap.size < w1.heap.size := P1.lt
  clear c0 c1 c2 c3 c4 p0 p1 p2 p3 p4 p5 hw0 hw1
  obtain ⟨c0, c1, c2, c3, c4⟩ := J1.cells
  obtain ⟨p0, p1, p2, p3, p4, p5⟩ := P1.cell
  have f1 := BxS.free J1 1
  have f4 := BxS.free J1 4
  have t1 : True := trivial
  go_wp2_with (first
    | (go_at_call 19; have _t := t1; clear t1; refine (countBehind_any ct q hq h0 h1 w1).mono ?_; rintro e wx ⟨rfl, hw⟩; have hw := hw.symm; subst hw; have J2 := J1.set1 q; have g2 := grown_set w1 g 1 (.int .i64 q); have P2 := P1.keep g2 hnp; have hD2 := hD1.grown' g2 (fun _ x y e => by cases e; simp; exact fun e => hbg e); have hU2 := hU1.grown' g2 hug; generalize hw2 : w1.setCell ⟨g, 1, none⟩ (.int .i64 q) = w2 at J2 g2 P2 hD2 hU2; have G2 := grown_trans G1 g2; have hz2 : w.heap.size < w2.heap.size := P2.lt; have q0 := J2.cells; have q1 := P2.cell; obtain ⟨c0', c1', c2', c3', c4'⟩ := q0; obtain ⟨p0', p1', p2', p3', p4', p5'⟩ := q1; have t2 : True := trivial)
    | (go_at_call 24; have _t := t2; clear t2; refine (drop_any g ap q op a n c false w2 J2).mono ?_; rintro e w3 ⟨rfl, J3, g3⟩; clear c0' c1' c2' c3' c4' p0' p1' p2' p3' p4' p5'; have P3 := P2.keep g3 hnp; have hD3 := hD2.grown' g3 (fun _ x y e => by cases e; simp; exact fun e => hbg e); have G3 := grown_trans G2 g3; have hz3 : w.heap.size < w3.heap.size := P3.lt; obtain ⟨c0', c1', c2', c3', c4'⟩ := J3.cells; obtain ⟨p0', p1', p2', p3', p4', p5'⟩ := P3.cell; have t3 : True := trivial)
    | (go_at_call 18; have _t := t3; clear t3; refine (pclone_any b ob m d D w3 hD3 hm (by omega)).mono ?_; rintro e w4 ⟨gc, cc, rfl, hA, g4⟩; have J4 := BxS.keep J3 g4 (by simp); have G4 := grown_trans G3 (grown_weak g4 _); have k2 := BxS.cell J4 2 (by simp [jrA]); have k3 := BxS.cell J4 3 (by simp [jrA]); simp only [jrA] at k2 k3; have f2 := BxS.free J4 2; have f3 := BxS.free J4 3))
  go_ret
  have J' : Jr w4 g ap q false none 0 0 _ := J4
  have hgc : w.heap.size ≤ gc := Nat.le_trans (Nat.le_of_lt hz3) (hA.new gc rfl)
  refine ⟨some ⟨gc, 0, none⟩, m, cc, rfl, (J'.set2 _).set3 _ _ _, ?_, grown_trans G4 (grown_trans (grown_set _ _ _ _) (grown_set _ _ _ _))⟩
  exact ((hA.kept (grown_set _ g 2 _) (.inr (by simp [Value.ownBlock]; omega))).kept (grown_set _ g 3 _) (.inr (by simp [Value.ownBlock]; omega))).wide (Nat.le_of_lt hz3)
set_option maxHeartbeats 4000000 in
theorem take_AMs (g : Nat) (ap ap' ct q : Int) (a : Option Addr) (n c : Nat) (up se : Bool) (b ob m d : Nat) (U D : List Nat) (w : World) (h : Jr w g ap (-1) false a n c false) (hU : Rd w a n c U) (hD : Rd w (some ⟨b, ob, none⟩) m d D) (hq : Hid (q = (ct + 1) % 16384)) (h0 : 0 ≤ ct) (h1 : ct ≤ 16383) (hm : 0 < m) (hm2 : m ≤ 65536) (hn : n ≤ 1048576) (hbg : ¬ b = g) (hug : 0 < n → ∀ x y, a = some ⟨x, y, none⟩ → some x ≠ some g) :
    Calls Try.prog 23 #[.pointer (some ⟨g, 0, none⟩), pkV up se ap' 0 ct (some ⟨b, ob, none⟩) m d] w fun e w' => e = .returned (.slice none 0 0) ∧ Jr w' g ap q false none 0 0 true ∧ w.grownBy w' (some g) := by
  unfold pkV
  have hgl : g < w.heap.size := BxS.lt h
  have P0 := BxP.new w up se ap' 0 ct (some ⟨b, ob, none⟩) m d
  have g0 := World.grownBy_alloc w (.cells #[.bool up, .bool se, .int .i64 ap', .int .i64 0, .int .i64 ct, .slice (some ⟨b, ob, none⟩) m d] 33) none
  generalize hw0 : w.alloc (.cells #[.bool up, .bool se, .int .i64 ap', .int .i64 0, .int .i64 ct, .slice (some ⟨b, ob, none⟩) m d] 33) = w0 at P0 g0
  have J0 : Jr w0 g ap (-1) false a n c false := BxS.keep h g0 (by simp)
  have hnp : some w.heap.size ≠ some g := by simp; omega
  have hD0 := hD.keep g0
  have hU0 := hU.keep g0
  obtain ⟨c0, c1, c2, c3, c4⟩ := J0.cells
  obtain ⟨p0, p1, p2, p3, p4, p5⟩ := P0.cell
  go_enter Try.func23, Try.ntmps23
  go_wp2
  go_quiet (fail)
  have gq := grown_drewN w0 nq none
  have J1 : Jr (w0.drewN nq) g ap (-1) false a n c false := BxS.keep J0 gq (by simp)
  have P1 := P0.keep gq (by simp)
  have hD1 := hD0.keep gq
  have hU1 := hU0.keep gq
  generalize hw1 : w0.drewN nq = w1 at gq J1 P1 hD1 hU1 ⊢
  have G1 : w.grownBy w1 (some g) := grown_weak (grown_trans g0 gq) _
  have hz1 : w.heap.size < w1.heap.size := P1.lt
  clear c0 c1 c2 c3 c4 p0 p1 p2 p3 p4 p5 hw0 hw1
  obtain ⟨c0, c1, c2, c3, c4⟩ := J1.cells
  obtain ⟨p0, p1, p2, p3, p4, p5⟩ := P1.cell
  have f1 := BxS.free J1 1
  have f4 := BxS.free J1 4
  have t1 : True := trivial
  go_wp2_with (first
    | (go_at_call 19; have _t := t1; clear t1; refine (countBehind_any ct q hq h0 h1 w1).mono ?_; rintro e wx ⟨rfl, hw⟩; have hw := hw.symm; subst hw; have J2 := J1.set1 q; have g2 := grown_set w1 g 1 (.int .i64 q); have P2 := P1.keep g2 hnp; have hD2 := hD1.grown' g2 (fun _ x y e => by cases e; simp; exact fun e => hbg e); have hU2 := hU1.grown' g2 hug; generalize hw2 : w1.setCell ⟨g, 1, none⟩ (.int .i64 q) = w2 at J2 g2 P2 hD2 hU2; have G2 := grown_trans G1 g2; have hz2 : w.heap.size < w2.heap.size := P2.lt; have q0 := J2.cells; have q1 := P2.cell; obtain ⟨c0', c1', c2', c3', c4'⟩ := q0; obtain ⟨p0', p1', p2', p3', p4', p5'⟩ := q1; have t2 : True := trivial)
    | (go_at_call 25; have _t := t2; clear t2; refine (goOn_shut g ap q a n c false _ m d w2 J2).mono ?_; rintro e w3 ⟨rfl, J3, g3⟩; clear c0' c1' c2' c3' c4' p0' p1' p2' p3' p4' p5'; have P3 := P2.keep g3 hnp; have G3 := grown_trans G2 g3; obtain ⟨c0', c1', c2', c3', c4'⟩ := J3.cells; obtain ⟨p0', p1', p2', p3', p4', p5'⟩ := P3.cell; have t3 : True := trivial))
  go_ret
  exact ⟨rfl, J3, G3⟩
set_option maxHeartbeats 4000000 in
theorem take_AMl (g : Nat) (ap ap' ct q : Int) (a : Option Addr) (n c : Nat) (up se : Bool) (b ob m d : Nat) (U D : List Nat) (w : World) (h : Jr w g ap (-1) true a n c false) (hU : Rd w a n c U) (hD : Rd w (some ⟨b, ob, none⟩) m d D) (hq : Hid (q = (ct + 1) % 16384)) (h0 : 0 ≤ ct) (h1 : ct ≤ 16383) (hm : 0 < m) (hm2 : m ≤ 65536) (hn : n ≤ 1048576) (hbg : ¬ b = g) (hug : 0 < n → ∀ x y, a = some ⟨x, y, none⟩ → some x ≠ some g) (hl : 1048576 < n + m) :
    Calls Try.prog 23 #[.pointer (some ⟨g, 0, none⟩), pkV up se ap' 0 ct (some ⟨b, ob, none⟩) m d] w fun e w' => e = .returned (.slice none 0 0) ∧ Jr w' g ap q false none 0 0 true ∧ w.grownBy w' (some g) := by
  unfold pkV
  have hgl : g < w.heap.size := BxS.lt h
  have P0 := BxP.new w up se ap' 0 ct (some ⟨b, ob, none⟩) m d
  have g0 := World.grownBy_alloc w (.cells #[.bool up, .bool se, .int .i64 ap', .int .i64 0, .int .i64 ct, .slice (some ⟨b, ob, none⟩) m d] 33) none
  generalize hw0 : w.alloc (.cells #[.bool up, .bool se, .int .i64 ap', .int .i64 0, .int .i64 ct, .slice (some ⟨b, ob, none⟩) m d] 33) = w0 at P0 g0
  have J0 : Jr w0 g ap (-1) true a n c false := BxS.keep h g0 (by simp)
  have hnp : some w.heap.size ≠ some g := by simp; omega
  have hD0 := hD.keep g0
  have hU0 := hU.keep g0
  obtain ⟨c0, c1, c2, c3, c4⟩ := J0.cells
  obtain ⟨p0, p1, p2, p3, p4, p5⟩ := P0.cell
  go_enter Try.func23, Try.ntmps23
  go_wp2
  go_quiet (fail)
  have gq := grown_drewN w0 nq none
  have J1 : Jr (w0.drewN nq) g ap (-1) true a n c false := BxS.keep J0 gq (by simp)
  have P1 := P0.keep gq (by simp)
  have hD1 := hD0.keep gq
  have hU1 := hU0.keep gq
  generalize hw1 : w0.drewN nq = w1 at gq J1 P1 hD1 hU1 ⊢
  have G1 : w.grownBy w1 (some g) := grown_weak (grown_trans g0 gq) _
  have hz1 : w.heap.size < w1.heap.size := P1.lt
  clear c0 c1 c2 c3 c4 p0 p1 p2 p3 p4 p5 hw0 hw1
  obtain ⟨c0, c1, c2, c3, c4⟩ := J1.cells
  obtain ⟨p0, p1, p2, p3, p4, p5⟩ := P1.cell
  have f1 := BxS.free J1 1
  have f4 := BxS.free J1 4
  have t1 : True := trivial
  go_wp2_with (first
    | (go_at_call 19; have _t := t1; clear t1; refine (countBehind_any ct q hq h0 h1 w1).mono ?_; rintro e wx ⟨rfl, hw⟩; have hw := hw.symm; subst hw; have J2 := J1.set1 q; have g2 := grown_set w1 g 1 (.int .i64 q); have P2 := P1.keep g2 hnp; have hD2 := hD1.grown' g2 (fun _ x y e => by cases e; simp; exact fun e => hbg e); have hU2 := hU1.grown' g2 hug; generalize hw2 : w1.setCell ⟨g, 1, none⟩ (.int .i64 q) = w2 at J2 g2 P2 hD2 hU2; have G2 := grown_trans G1 g2; have hz2 : w.heap.size < w2.heap.size := P2.lt; have q0 := J2.cells; have q1 := P2.cell; obtain ⟨c0', c1', c2', c3', c4'⟩ := q0; obtain ⟨p0', p1', p2', p3', p4', p5'⟩ := q1; have t2 : True := trivial)
    | (go_at_call 25; have _t := t2; clear t2; refine (goOn_long g ap q a n c false _ m d w2 J2 hl (by omega) (by omega)).mono ?_; rintro e w3 ⟨rfl, J3, g3⟩; clear c0' c1' c2' c3' c4' p0' p1' p2' p3' p4' p5'; have P3 := P2.keep g3 hnp; have G3 := grown_trans G2 g3; obtain ⟨c0', c1', c2', c3', c4'⟩ := J3.cells; obtain ⟨p0', p1', p2', p3', p4', p5'⟩ := P3.cell; have t3 : True := trivial))
  go_ret
  exact ⟨rfl, J3, G3⟩
set_option maxHeartbeats 4000000 in
theorem take_AMo (g : Nat) (ap ap' ct q : Int) (a : Option Addr) (n c : Nat) (up se : Bool) (b ob m d : Nat) (U D : List Nat) (w : World) (h : Jr w g ap (-1) true a n c false) (hU : Rd w a n c U) (hD : Rd w (some ⟨b, ob, none⟩) m d D) (hq : Hid (q = (ct + 1) % 16384)) (h0 : 0 ≤ ct) (h1 : ct ≤ 16383) (hm : 0 < m) (hm2 : m ≤ 65536) (hn : n ≤ 1048576) (hbg : ¬ b = g) (hug : 0 < n → ∀ x y, a = some ⟨x, y, none⟩ → some x ≠ some g) (hl : n + m ≤ 1048576) (hn0 : 0 < n) :
    Calls Try.prog 23 #[.pointer (some ⟨g, 0, none⟩), pkV up se ap' 0 ct (some ⟨b, ob, none⟩) m d] w fun e w' => ∃ a1 n1 c1, e = .returned (.slice none 0 0) ∧ Jr w' g ap q true a1 n1 c1 false ∧ Ans w' w.heap.size a1 n1 c1 (U ++ D) ∧ w.grownBy w' (some g) := by
  unfold pkV
  have hgl : g < w.heap.size := BxS.lt h
  have P0 := BxP.new w up se ap' 0 ct (some ⟨b, ob, none⟩) m d
  have g0 := World.grownBy_alloc w (.cells #[.bool up, .bool se, .int .i64 ap', .int .i64 0, .int .i64 ct, .slice (some ⟨b, ob, none⟩) m d] 33) none
  generalize hw0 : w.alloc (.cells #[.bool up, .bool se, .int .i64 ap', .int .i64 0, .int .i64 ct, .slice (some ⟨b, ob, none⟩) m d] 33) = w0 at P0 g0
  have J0 : Jr w0 g ap (-1) true a n c false := BxS.keep h g0 (by simp)
  have hnp : some w.heap.size ≠ some g := by simp; omega
  have hD0 := hD.keep g0
  have hU0 := hU.keep g0
  obtain ⟨c0, c1, c2, c3, c4⟩ := J0.cells
  obtain ⟨p0, p1, p2, p3, p4, p5⟩ := P0.cell
  go_enter Try.func23, Try.ntmps23
  go_wp2
  go_quiet (fail)
  have gq := grown_drewN w0 nq none
  have J1 : Jr (w0.drewN nq) g ap (-1) true a n c false := BxS.keep J0 gq (by simp)
  have P1 := P0.keep gq (by simp)
  have hD1 := hD0.keep gq
  have hU1 := hU0.keep gq
  generalize hw1 : w0.drewN nq = w1 at gq J1 P1 hD1 hU1 ⊢
  have G1 : w.grownBy w1 (some g) := grown_weak (grown_trans g0 gq) _
  have hz1 : w.heap.size < w1.heap.size := P1.lt
  clear c0 c1 c2 c3 c4 p0 p1 p2 p3 p4 p5 hw0 hw1
  obtain ⟨c0, c1, c2, c3, c4⟩ := J1.cells
  obtain ⟨p0, p1, p2, p3, p4, p5⟩ := P1.cell
  have f1 := BxS.free J1 1
  have f4 := BxS.free J1 4
  have t1 : True := trivial
  go_wp2_with (first
    | (go_at_call 19; have _t := t1; clear t1; refine (countBehind_any ct q hq h0 h1 w1).mono ?_; rintro e wx ⟨rfl, hw⟩; have hw := hw.symm; subst hw; have J2 := J1.set1 q; have g2 := grown_set w1 g 1 (.int .i64 q); have P2 := P1.keep g2 hnp; have hD2 := hD1.grown' g2 (fun _ x y e => by cases e; simp; exact fun e => hbg e); have hU2 := hU1.grown' g2 hug; generalize hw2 : w1.setCell ⟨g, 1, none⟩ (.int .i64 q) = w2 at J2 g2 P2 hD2 hU2; have G2 := grown_trans G1 g2; have hz2 : w.heap.size < w2.heap.size := P2.lt; have q0 := J2.cells; have q1 := P2.cell; obtain ⟨c0', c1', c2', c3', c4'⟩ := q0; obtain ⟨p0', p1', p2', p3', p4', p5'⟩ := q1; have t2 : True := trivial)
    | (go_at_call 25; have _t := t2; clear t2; refine (goOn_joins g ap q a n c false _ m d U D w2 J2 hU2 hD2 hn0 hm hl).mono ?_; rintro e w3 ⟨rfl, gj, cj, J3, hA, g3⟩; clear c0' c1' c2' c3' c4' p0' p1' p2' p3' p4' p5'; have P3 := P2.keep g3 hnp; have G3 := grown_trans G2 g3; obtain ⟨c0', c1', c2', c3', c4'⟩ := J3.cells; obtain ⟨p0', p1', p2', p3', p4', p5'⟩ := P3.cell; have t3 : True := trivial))
  go_ret
  exact ⟨_, _, _, rfl, J3, hA.wide (Nat.le_of_lt hz2), G3⟩
set_option maxHeartbeats 4000000 in
theorem take_ALs (g : Nat) (ap ap' ct q : Int) (a : Option Addr) (n c : Nat) (up se : Bool) (b ob m d : Nat) (U D : List Nat) (w : World) (h : Jr w g ap (-1) false a n c false) (hU : Rd w a n c U) (hD : Rd w (some ⟨b, ob, none⟩) m d D) (hq : Hid (q = (ct + 1) % 16384)) (h0 : 0 ≤ ct) (h1 : ct ≤ 16383) (hm : 0 < m) (hm2 : m ≤ 65536) (hn : n ≤ 1048576) (hbg : ¬ b = g) (hug : 0 < n → ∀ x y, a = some ⟨x, y, none⟩ → some x ≠ some g) :
    Calls Try.prog 23 #[.pointer (some ⟨g, 0, none⟩), pkV up se ap' 2 ct (some ⟨b, ob, none⟩) m d] w fun e w' => e = .returned (.slice none 0 0) ∧ Jr w' g ap q false none 0 0 true ∧ w.grownBy w' (some g) := by
  unfold pkV
  have hgl : g < w.heap.size := BxS.lt h
  have P0 := BxP.new w up se ap' 2 ct (some ⟨b, ob, none⟩) m d
  have g0 := World.grownBy_alloc w (.cells #[.bool up, .bool se, .int .i64 ap', .int .i64 2, .int .i64 ct, .slice (some ⟨b, ob, none⟩) m d] 33) none
  generalize hw0 : w.alloc (.cells #[.bool up, .bool se, .int .i64 ap', .int .i64 2, .int .i64 ct, .slice (some ⟨b, ob, none⟩) m d] 33) = w0 at P0 g0
  have J0 : Jr w0 g ap (-1) false a n c false := BxS.keep h g0 (by simp)
  have hnp : some w.heap.size ≠ some g := by simp; omega
  have hD0 := hD.keep g0
  have hU0 := hU.keep g0
  obtain ⟨c0, c1, c2, c3, c4⟩ := J0.cells
  obtain ⟨p0, p1, p2, p3, p4, p5⟩ := P0.cell
  go_enter Try.func23, Try.ntmps23
  go_wp2
  go_quiet (fail)
  have gq := grown_drewN w0 nq none
  have J1 : Jr (w0.drewN nq) g ap (-1) false a n c false := BxS.keep J0 gq (by simp)
  have P1 := P0.keep gq (by simp)
  have hD1 := hD0.keep gq
  have hU1 := hU0.keep gq
  generalize hw1 : w0.drewN nq = w1 at gq J1 P1 hD1 hU1 ⊢
  have G1 : w.grownBy w1 (some g) := grown_weak (grown_trans g0 gq) _
  have hz1 : w.heap.size < w1.heap.size := P1.lt
  clear c0 c1 c2 c3 c4 p0 p1 p2 p3 p4 p5 hw0 hw1
  obtain ⟨c0, c1, c2, c3, c4⟩ := J1.cells
  obtain ⟨p0, p1, p2, p3, p4, p5⟩ := P1.cell
  have f1 := BxS.free J1 1
  have f4 := BxS.free J1 4
  have t1 : True := trivial
  go_wp2_with (first
    | (go_at_call 19; have _t := t1; clear t1; refine (countBehind_any ct q hq h0 h1 w1).mono ?_; rintro e wx ⟨rfl, hw⟩; have hw := hw.symm; subst hw; have J2 := J1.set1 q; have g2 := grown_set w1 g 1 (.int .i64 q); have P2 := P1.keep g2 hnp; have hD2 := hD1.grown' g2 (fun _ x y e => by cases e; simp; exact fun e => hbg e); have hU2 := hU1.grown' g2 hug; generalize hw2 : w1.setCell ⟨g, 1, none⟩ (.int .i64 q) = w2 at J2 g2 P2 hD2 hU2; have G2 := grown_trans G1 g2; have hz2 : w.heap.size < w2.heap.size := P2.lt; have q0 := J2.cells; have q1 := P2.cell; obtain ⟨c0', c1', c2', c3', c4'⟩ := q0; obtain ⟨p0', p1', p2', p3', p4', p5'⟩ := q1; have t2 : True := trivial)
    | (go_at_call 25; have _t := t2; clear t2; refine (goOn_shut g ap q a n c false _ m d w2 J2).mono ?_; rintro e w3 ⟨rfl, J3, g3⟩; clear c0' c1' c2' c3' c4' p0' p1' p2' p3' p4' p5'; have P3 := P2.keep g3 hnp; have G3 := grown_trans G2 g3; obtain ⟨c0', c1', c2', c3', c4'⟩ := J3.cells; obtain ⟨p0', p1', p2', p3', p4', p5'⟩ := P3.cell; have t3 : True := trivial)
    | (go_at_call 26; have _t := t3; clear t3; refine (finish_any g ap q false none 0 0 true w3 J3).mono ?_; rintro e w4 ⟨rfl, J4, g4⟩; have G4 := grown_trans G3 g4))
  go_ret
  exact ⟨rfl, J4, G4⟩
set_option maxHeartbeats 4000000 in
theorem take_ALl (g : Nat) (ap ap' ct q : Int) (a : Option Addr) (n c : Nat) (up se : Bool) (b ob m d : Nat) (U D : List Nat) (w : World) (h : Jr w g ap (-1) true a n c false) (hU : Rd w a n c U) (hD : Rd w (some ⟨b, ob, none⟩) m d D) (hq : Hid (q = (ct + 1) % 16384)) (h0 : 0 ≤ ct) (h1 : ct ≤ 16383) (hm : 0 < m) (hm2 : m ≤ 65536) (hn : n ≤ 1048576) (hbg : ¬ b = g) (hug : 0 < n → ∀ x y, a = some ⟨x, y, none⟩ → some x ≠ some g) (hl : 1048576 < n + m) :
    Calls Try.prog 23 #[.pointer (some ⟨g, 0, none⟩), pkV up se ap' 2 ct (some ⟨b, ob, none⟩) m d] w fun e w' => e = .returned (.slice none 0 0) ∧ Jr w' g ap q false none 0 0 true ∧ w.grownBy w' (some g) := by
  unfold pkV
  have hgl : g < w.heap.size := BxS.lt h
  have P0 := BxP.new w up se ap' 2 ct (some ⟨b, ob, none⟩) m d
  have g0 := World.grownBy_alloc w (.cells #[.bool up, .bool se, .int .i64 ap', .int .i64 2, .int .i64 ct, .slice (some ⟨b, ob, none⟩) m d] 33) none
  generalize hw0 : w.alloc (.cells #[.bool up, .bool se, .int .i64 ap', .int .i64 2, .int .i64 ct, .slice (some ⟨b, ob, none⟩) m d] 33) = w0 at P0 g0
  have J0 : Jr w0 g ap (-1) true a n c false := BxS.keep h g0 (by simp)
  have hnp : some w.heap.size ≠ some g := by simp; omega
  have hD0 := hD.keep g0
  have hU0 := hU.keep g0
  obtain ⟨c0, c1, c2, c3, c4⟩ := J0.cells
  obtain ⟨p0, p1, p2, p3, p4, p5⟩ := P0.cell
  go_enter Try.func23, Try.ntmps23
  go_wp2
  go_quiet (fail)
  have gq := grown_drewN w0 nq none
  have J1 : Jr (w0.drewN nq) g ap (-1) true a n c false := BxS.keep J0 gq (by simp)
  have P1 := P0.keep gq (by simp)
  have hD1 := hD0.keep gq
  have hU1 := hU0.keep gq
  generalize hw1 : w0.drewN nq = w1 at gq J1 P1 hD1 hU1 ⊢
  have G1 : w.grownBy w1 (some g) := grown_weak (grown_trans g0 gq) _
  have hz1 : w.heap.size < w1.heap.size := P1.lt
  clear c0 c1 c2 c3 c4 p0 p1 p2 p3 p4 p5 hw0 hw1
  obtain ⟨c0, c1, c2, c3, c4⟩ := J1.cells
  obtain ⟨p0, p1, p2, p3, p4, p5⟩ := P1.cell
  have f1 := BxS.free J1 1
  have f4 := BxS.free J1 4
  have t1 : True := trivial
  go_wp2_with (first
    | (go_at_call 19; have _t := t1; clear t1; refine (countBehind_any ct q hq h0 h1 w1).mono ?_; rintro e wx ⟨rfl, hw⟩; have hw := hw.symm; subst hw; have J2 := J1.set1 q; have g2 := grown_set w1 g 1 (.int .i64 q); have P2 := P1.keep g2 hnp; have hD2 := hD1.grown' g2 (fun _ x y e => by cases e; simp; exact fun e => hbg e); have hU2 := hU1.grown' g2 hug; generalize hw2 : w1.setCell ⟨g, 1, none⟩ (.int .i64 q) = w2 at J2 g2 P2 hD2 hU2; have G2 := grown_trans G1 g2; have hz2 : w.heap.size < w2.heap.size := P2.lt; have q0 := J2.cells; have q1 := P2.cell; obtain ⟨c0', c1', c2', c3', c4'⟩ := q0; obtain ⟨p0', p1', p2', p3', p4', p5'⟩ := q1; have t2 : True := trivial)
    | (go_at_call 25; have _t := t2; clear t2; refine (goOn_long g ap q a n c false _ m d w2 J2 hl (by omega) (by omega)).mono ?_; rintro e w3 ⟨rfl, J3, g3⟩; clear c0' c1' c2' c3' c4' p0' p1' p2' p3' p4' p5'; have P3 := P2.keep g3 hnp; have G3 := grown_trans G2 g3; obtain ⟨c0', c1', c2', c3', c4'⟩ := J3.cells; obtain ⟨p0', p1', p2', p3', p4', p5'⟩ := P3.cell; have t3 : True := trivial)
    | (go_at_call 26; have _t := t3; clear t3; refine (finish_any g ap q false none 0 0 true w3 J3).mono ?_; rintro e w4 ⟨rfl, J4, g4⟩; have G4 := grown_trans G3 g4))
  go_ret
  exact ⟨rfl, J4, G4⟩
set_option maxHeartbeats 4000000 in
theorem take_ALo (g : Nat) (ap ap' ct q : Int) (a : Option Addr) (n c : Nat) (up se : Bool) (b ob m d : Nat) (U D : List Nat) (w : World) (h : Jr w g ap (-1) true a n c false) (hU : Rd w a n c U) (hD : Rd w (some ⟨b, ob, none⟩) m d D) (hq : Hid (q = (ct + 1) % 16384)) (h0 : 0 ≤ ct) (h1 : ct ≤ 16383) (hm : 0 < m) (hm2 : m ≤ 65536) (hn : n ≤ 1048576) (hbg : ¬ b = g) (hug : 0 < n → ∀ x y, a = some ⟨x, y, none⟩ → some x ≠ some g) (hl : n + m ≤ 1048576) (hn0 : 0 < n) :
    Calls Try.prog 23 #[.pointer (some ⟨g, 0, none⟩), pkV up se ap' 2 ct (some ⟨b, ob, none⟩) m d] w fun e w' => ∃ a2 n2 c2, e = .returned (.slice a2 n2 c2) ∧ Jr w' g ap q false none 0 0 false ∧ Ans w' w.heap.size a2 n2 c2 (U ++ D) ∧ w.grownBy w' (some g) := by
  unfold pkV
  have hgl : g < w.heap.size := BxS.lt h
  have P0 := BxP.new w up se ap' 2 ct (some ⟨b, ob, none⟩) m d
  have g0 := World.grownBy_alloc w (.cells #[.bool up, .bool se, .int .i64 ap', .int .i64 2, .int .i64 ct, .slice (some ⟨b, ob, none⟩) m d] 33) none
  generalize hw0 : w.alloc (.cells #[.bool up, .bool se, .int .i64 ap', .int .i64 2, .int .i64 ct, .slice (some ⟨b, ob, none⟩) m d] 33) = w0 at P0 g0
  have J0 : Jr w0 g ap (-1) true a n c false := BxS.keep h g0 (by simp)
  have hnp : some w.heap.size ≠ some g := by simp; omega
  have hD0 := hD.keep g0
  have hU0 := hU.keep g0
  obtain ⟨c0, c1, c2, c3, c4⟩ := J0.cells
  obtain ⟨p0, p1, p2, p3, p4, p5⟩ := P0.cell
  go_enter Try.func23, Try.ntmps23
  go_wp2
  go_quiet (fail)
  have gq := grown_drewN w0 nq none
  have J1 : Jr (w0.drewN nq) g ap (-1) true a n c false := BxS.keep J0 gq (by simp)
  have P1 := P0.keep gq (by simp)
  have hD1 := hD0.keep gq
  have hU1 := hU0.keep gq
  generalize hw1 : w0.drewN nq = w1 at gq J1 P1 hD1 hU1 ⊢
  have G1 : w.grownBy w1 (some g) := grown_weak (grown_trans g0 gq) _
  have hz1 : w.heap.size < w1.heap.size := P1.lt
  clear c0 c1 c2 c3 c4 p0 p1 p2 p3 p4 p5 hw0 hw1
  obtain ⟨c0, c1, c2, c3, c4⟩ := J1.cells
  obtain ⟨p0, p1, p2, p3, p4, p5⟩ := P1.cell
  have f1 := BxS.free J1 1
  have f4 := BxS.free J1 4
  have t1 : True := trivial
  go_wp2_with (first
    | (go_at_call 19; have _t := t1; clear t1; refine (countBehind_any ct q hq h0 h1 w1).mono ?_; rintro e wx ⟨rfl, hw⟩; have hw := hw.symm; subst hw; have J2 := J1.set1 q; have g2 := grown_set w1 g 1 (.int .i64 q); have P2 := P1.keep g2 hnp; have hD2 := hD1.grown' g2 (fun _ x y e => by cases e; simp; exact fun e => hbg e); have hU2 := hU1.grown' g2 hug; generalize hw2 : w1.setCell ⟨g, 1, none⟩ (.int .i64 q) = w2 at J2 g2 P2 hD2 hU2; have G2 := grown_trans G1 g2; have hz2 : w.heap.size < w2.heap.size := P2.lt; have q0 := J2.cells; have q1 := P2.cell; obtain ⟨c0', c1', c2', c3', c4'⟩ := q0; obtain ⟨p0', p1', p2', p3', p4', p5'⟩ := q1; have t2 : True := trivial)
    | (go_at_call 25; have _t := t2; clear t2; refine (goOn_joins g ap q a n c false _ m d U D w2 J2 hU2 hD2 hn0 hm hl).mono ?_; rintro e w3 ⟨rfl, gj, cj, J3, hA, g3⟩; clear c0' c1' c2' c3' c4' p0' p1' p2' p3' p4' p5'; have P3 := P2.keep g3 hnp; have G3 := grown_trans G2 g3; obtain ⟨c0', c1', c2', c3', c4'⟩ := J3.cells; obtain ⟨p0', p1', p2', p3', p4', p5'⟩ := P3.cell; have t3 : True := trivial)
    | (go_at_call 26; have _t := t3; clear t3; refine (finish_any g ap q true (some ⟨gj, 0, none⟩) (n + m) cj false w3 J3).mono ?_; rintro e w4 ⟨rfl, J4, g4⟩; have G4 := grown_trans G3 g4))
  go_ret
  have hgc : w.heap.size ≤ gj := Nat.le_trans (Nat.le_of_lt hz2) (hA.new gj rfl)
  exact ⟨_, _, _, rfl, J4, (hA.kept g4 (.inr (by simp [Value.ownBlock]; omega))).wide (Nat.le_of_lt hz2), G4⟩
set_option maxHeartbeats 4000000 in
theorem take_BW (g : Nat) (ap ap' ct q : Int) (op : Bool) (a : Option Addr) (n c : Nat) (up se : Bool) (b ob m d : Nat) (U D : List Nat) (w : World) (h : Jr w g ap ct op a n c false) (hU : Rd w a n c U) (hD : Rd w (some ⟨b, ob, none⟩) m d D) (hq : Hid (q = (ct + 1) % 16384)) (h0 : 0 ≤ ct) (h1 : ct ≤ 16383) (hm : 0 < m) (hm2 : m ≤ 65536) (hn : n ≤ 1048576) (hbg : ¬ b = g) (hug : 0 < n → ∀ x y, a = some ⟨x, y, none⟩ → some x ≠ some g) :
    Calls Try.prog 23 #[.pointer (some ⟨g, 0, none⟩), pkV up se ap' 3 ct (some ⟨b, ob, none⟩) m d] w fun e w' => ∃ a2 n2 c2, e = .returned (.slice a2 n2 c2) ∧ Jr w' g ap q false none 0 0 (false || op) ∧ Ans w' w.heap.size a2 n2 c2 D ∧ w.grownBy w' (some g) := by
  unfold pkV
  have hgl : g < w.heap.size := BxS.lt h
  have P0 := BxP.new w up se ap' 3 ct (some ⟨b, ob, none⟩) m d
  have g0 := World.grownBy_alloc w (.cells #[.bool up, .bool se, .int .i64 ap', .int .i64 3, .int .i64 ct, .slice (some ⟨b, ob, none⟩) m d] 33) none
  generalize hw0 : w.alloc (.cells #[.bool up, .bool se, .int .i64 ap', .int .i64 3, .int .i64 ct, .slice (some ⟨b, ob, none⟩) m d] 33) = w0 at P0 g0
  have J0 : Jr w0 g ap ct op a n c false := BxS.keep h g0 (by simp)
  have hnp : some w.heap.size ≠ some g := by simp; omega
  have hD0 := hD.keep g0
  have hU0 := hU.keep g0
  obtain ⟨c0, c1, c2, c3, c4⟩ := J0.cells
  obtain ⟨p0, p1, p2, p3, p4, p5⟩ := P0.cell
  have e1 : ((ct != -1) : Bool) = true := by simp; omega
  go_enter Try.func23, Try.ntmps23
  go_wp2
  go_quiet (fail)
  have gq := grown_drewN w0 nq none
  have J1 : Jr (w0.drewN nq) g ap ct op a n c false := BxS.keep J0 gq (by simp)
  have P1 := P0.keep gq (by simp)
  have hD1 := hD0.keep gq
  have hU1 := hU0.keep gq
  generalize hw1 : w0.drewN nq = w1 at gq J1 P1 hD1 hU1 ⊢
  have G1 : w.grownBy w1 (some g) := grown_weak (grown_trans g0 gq) _
  have hz1 : w.heap.size < w1.heap.size := P1.lt
  clear c0 c1 c2 c3 c4 p0 p1 p2 p3 p4 p5 hw0 hw1
  obtain ⟨c0, c1, c2, c3, c4⟩ := J1.cells
  obtain ⟨p0, p1, p2, p3, p4, p5⟩ := P1.cell
  have f1 := BxS.free J1 1
  have f4 := BxS.free J1 4
  have t1 : True := trivial
  go_wp2_with (first
    | (go_at_call 19; have _t := t1; clear t1; refine (countBehind_any ct q hq h0 h1 w1).mono ?_; rintro e wx ⟨rfl, hw⟩; have hw := hw.symm; subst hw; have J2 := J1.set1 q; have g2 := grown_set w1 g 1 (.int .i64 q); have P2 := P1.keep g2 hnp; have hD2 := hD1.grown' g2 (fun _ x y e => by cases e; simp; exact fun e => hbg e); have hU2 := hU1.grown' g2 hug; generalize hw2 : w1.setCell ⟨g, 1, none⟩ (.int .i64 q) = w2 at J2 g2 P2 hD2 hU2; have G2 := grown_trans G1 g2; have hz2 : w.heap.size < w2.heap.size := P2.lt; have q0 := J2.cells; have q1 := P2.cell; obtain ⟨c0', c1', c2', c3', c4'⟩ := q0; obtain ⟨p0', p1', p2', p3', p4', p5'⟩ := q1; have t2 : True := trivial)
    | (go_at_call 24; have _t := t2; clear t2; refine (drop_any g ap q op a n c false w2 J2).mono ?_; rintro e w3 ⟨rfl, J3, g3⟩; clear c0' c1' c2' c3' c4' p0' p1' p2' p3' p4' p5'; have P3 := P2.keep g3 hnp; have hD3 := hD2.grown' g3 (fun _ x y e => by cases e; simp; exact fun e => hbg e); have G3 := grown_trans G2 g3; have hz3 : w.heap.size < w3.heap.size := P3.lt; obtain ⟨c0', c1', c2', c3', c4'⟩ := J3.cells; obtain ⟨p0', p1', p2', p3', p4', p5'⟩ := P3.cell; have t3 : True := trivial)
    | (go_at_call 18; have _t := t3; clear t3; refine (pclone_any b ob m d D w3 hD3 hm (by omega)).mono ?_; rintro e w4 ⟨gc, cc, rfl, hA, g4⟩; have J4 := BxS.keep J3 g4 (by simp); have G4 := grown_trans G3 (grown_weak g4 _); have k2 := BxS.cell J4 2 (by simp [jrA]); have k3 := BxS.cell J4 3 (by simp [jrA]); simp only [jrA] at k2 k3; have f2 := BxS.free J4 2; have f3 := BxS.free J4 3))
  go_ret
  have J' : Jr w4 g ap q false none 0 0 _ := J4
  exact ⟨some ⟨gc, 0, none⟩, m, cc, rfl, J', hA.wide (Nat.le_of_lt hz3), G4⟩
set_option maxHeartbeats 4000000 in
theorem take_BF (g : Nat) (ap ap' ct q : Int) (op : Bool) (a : Option Addr) (n c : Nat) (up se : Bool) (b ob m d : Nat) (U D : List Nat) (w : World) (h : Jr w g ap ct op a n c false) (hU : Rd w a n c U) (hD : Rd w (some ⟨b, ob, none⟩) m d D) (hq : Hid (q = (ct + 1) % 16384)) (h0 : 0 ≤ ct) (h1 : ct ≤ 16383) (hm : 0 < m) (hm2 : m ≤ 65536) (hn : n ≤ 1048576) (hbg : ¬ b = g) (hug : 0 < n → ∀ x y, a = some ⟨x, y, none⟩ → some x ≠ some g) :
    Calls Try.prog 23 #[.pointer (some ⟨g, 0, none⟩), pkV up se ap' 1 ct (some ⟨b, ob, none⟩) m d] w fun e w' => ∃ a1 n1 c1, e = .returned (.slice none 0 0) ∧ Jr w' g ap q true a1 n1 c1 (false || op) ∧ Ans w' w.heap.size a1 n1 c1 D ∧ w.grownBy w' (some g) := by
  unfold pkV
  have hgl : g < w.heap.size := BxS.lt h
  have P0 := BxP.new w up se ap' 1 ct (some ⟨b, ob, none⟩) m d
  have g0 := World.grownBy_alloc w (.cells #[.bool up, .bool se, .int .i64 ap', .int .i64 1, .int .i64 ct, .slice (some ⟨b, ob, none⟩) m d] 33) none
  generalize hw0 : w.alloc (.cells #[.bool up, .bool se, .int .i64 ap', .int .i64 1, .int .i64 ct, .slice (some ⟨b, ob, none⟩) m d] 33) = w0 at P0 g0
  have J0 : Jr w0 g ap ct op a n c false := BxS.keep h g0 (by simp)
  have hnp : some w.heap.size ≠ some g := by simp; omega
  have hD0 := hD.keep g0
  have hU0 := hU.keep g0
  obtain ⟨c0, c1, c2, c3, c4⟩ := J0.cells
  obtain ⟨p0, p1, p2, p3, p4, p5⟩ := P0.cell
  have e1 : ((ct != -1) : Bool) = true := by simp; omega
  go_enter Try.func23, Try.ntmps23
  go_wp2
  go_quiet (fail)
  have gq := grown_drewN w0 nq none
  have J1 : Jr (w0.drewN nq) g ap ct op a n c false := BxS.keep J0 gq (by simp)
  have P1 := P0.keep gq (by simp)
  have hD1 := hD0.keep gq
  have hU1 := hU0.keep gq
  generalize hw1 : w0.drewN nq = w1 at gq J1 P1 hD1 hU1 ⊢
  have G1 : w.grownBy w1 (some g) := grown_weak (grown_trans g0 gq) _
  have hz1 : w.heap.size < w1.heap.size := P1.lt
  clear c0 c1 c2 c3 c4 p0 p1 p2 p3 p4 p5 hw0 hw1
  obtain ⟨c0, c1, c2, c3, c4⟩ := J1.cells
  obtain ⟨p0, p1, p2, p3, p4, p5⟩ := P1.cell
  have f1 := BxS.free J1 1
  have f4 := BxS.free J1 4
  have t1 : True := trivial
  go_wp2_with (first
    | (go_at_call 19; have _t := t1; clear t1; refine (countBehind_any ct q hq h0 h1 w1).mono ?_; rintro e wx ⟨rfl, hw⟩; have hw := hw.symm; subst hw; have J2 := J1.set1 q; have g2 := grown_set w1 g 1 (.int .i64 q); have P2 := P1.keep g2 hnp; have hD2 := hD1.grown' g2 (fun _ x y e => by cases e; simp; exact fun e => hbg e); have hU2 := hU1.grown' g2 hug; generalize hw2 : w1.setCell ⟨g, 1, none⟩ (.int .i64 q) = w2 at J2 g2 P2 hD2 hU2; have G2 := grown_trans G1 g2; have hz2 : w.heap.size < w2.heap.size := P2.lt; have q0 := J2.cells; have q1 := P2.cell; obtain ⟨c0', c1', c2', c3', c4'⟩ := q0; obtain ⟨p0', p1', p2', p3', p4', p5'⟩ := q1; have t2 : True := trivial)
    | (go_at_call 24; have _t := t2; clear t2; refine (drop_any g ap q op a n c false w2 J2).mono ?_; rintro e w3 ⟨rfl, J3, g3⟩; clear c0' c1' c2' c3' c4' p0' p1' p2' p3' p4' p5'; have P3 := P2.keep g3 hnp; have hD3 := hD2.grown' g3 (fun _ x y e => by cases e; simp; exact fun e => hbg e); have G3 := grown_trans G2 g3; have hz3 : w.heap.size < w3.heap.size := P3.lt; obtain ⟨c0', c1', c2', c3', c4'⟩ := J3.cells; obtain ⟨p0', p1', p2', p3', p4', p5'⟩ := P3.cell; have t3 : True := trivial)
    | (go_at_call 18; have _t := t3; clear t3; refine (pclone_any b ob m d D w3 hD3 hm (by omega)).mono ?_; rintro e w4 ⟨gc, cc, rfl, hA, g4⟩; have J4 := BxS.keep J3 g4 (by simp); have G4 := grown_trans G3 (grown_weak g4 _); have k2 := BxS.cell J4 2 (by simp [jrA]); have k3 := BxS.cell J4 3 (by simp [jrA]); simp only [jrA] at k2 k3; have f2 := BxS.free J4 2; have f3 := BxS.free J4 3))
  go_ret
  have J' : Jr w4 g ap q false none 0 0 _ := J4
  have hgc : w.heap.size ≤ gc := Nat.le_trans (Nat.le_of_lt hz3) (hA.new gc rfl)
  refine ⟨some ⟨gc, 0, none⟩, m, cc, rfl, (J'.set2 _).set3 _ _ _, ?_, grown_trans G4 (grown_trans (grown_set _ _ _ _) (grown_set _ _ _ _))⟩
  exact ((hA.kept (grown_set _ g 2 _) (.inr (by simp [Value.ownBlock]; omega))).kept (grown_set _ g 3 _) (.inr (by simp [Value.ownBlock]; omega))).wide (Nat.le_of_lt hz3)
set_option maxHeartbeats 4000000 in
theorem take_BMs (g : Nat) (ap ap' ct q : Int) (a : Option Addr) (n c : Nat) (up se : Bool) (b ob m d : Nat) (U D : List Nat) (w : World) (h : Jr w g ap ct false a n c false) (hU : Rd w a n c U) (hD : Rd w (some ⟨b, ob, none⟩) m d D) (hq : Hid (q = (ct + 1) % 16384)) (h0 : 0 ≤ ct) (h1 : ct ≤ 16383) (hm : 0 < m) (hm2 : m ≤ 65536) (hn : n ≤ 1048576) (hbg : ¬ b = g) (hug : 0 < n → ∀ x y, a = some ⟨x, y, none⟩ → some x ≠ some g) :
    Calls Try.prog 23 #[.pointer (some ⟨g, 0, none⟩), pkV up se ap' 0 ct (some ⟨b, ob, none⟩) m d] w fun e w' => e = .returned (.slice none 0 0) ∧ Jr w' g ap q false none 0 0 true ∧ w.grownBy w' (some g) := by
  unfold pkV
  have hgl : g < w.heap.size := BxS.lt h
  have P0 := BxP.new w up se ap' 0 ct (some ⟨b, ob, none⟩) m d
  have g0 := World.grownBy_alloc w (.cells #[.bool up, .bool se, .int .i64 ap', .int .i64 0, .int .i64 ct, .slice (some ⟨b, ob, none⟩) m d] 33) none
  generalize hw0 : w.alloc (.cells #[.bool up, .bool se, .int .i64 ap', .int .i64 0, .int .i64 ct, .slice (some ⟨b, ob, none⟩) m d] 33) = w0 at P0 g0
  have J0 : Jr w0 g ap ct false a n c false := BxS.keep h g0 (by simp)
  have hnp : some w.heap.size ≠ some g := by simp; omega
  have hD0 := hD.keep g0
  have hU0 := hU.keep g0
  obtain ⟨c0, c1, c2, c3, c4⟩ := J0.cells
  obtain ⟨p0, p1, p2, p3, p4, p5⟩ := P0.cell
  have e1 : ((ct != -1) : Bool) = true := by simp; omega
  go_enter Try.func23, Try.ntmps23
  go_wp2
  go_quiet (fail)
  have gq := grown_drewN w0 nq none
  have J1 : Jr (w0.drewN nq) g ap ct false a n c false := BxS.keep J0 gq (by simp)
  have P1 := P0.keep gq (by simp)
  have hD1 := hD0.keep gq
  have hU1 := hU0.keep gq
  generalize hw1 : w0.drewN nq = w1 at gq J1 P1 hD1 hU1 ⊢
  have G1 : w.grownBy w1 (some g) := grown_weak (grown_trans g0 gq) _
  have hz1 : w.heap.size < w1.heap.size := P1.lt
  clear c0 c1 c2 c3 c4 p0 p1 p2 p3 p4 p5 hw0 hw1
  obtain ⟨c0, c1, c2, c3, c4⟩ := J1.cells
  obtain ⟨p0, p1, p2, p3, p4, p5⟩ := P1.cell
  have f1 := BxS.free J1 1
  have f4 := BxS.free J1 4
  have t1 : True := trivial
  go_wp2_with (first
    | (go_at_call 19; have _t := t1; clear t1; refine (countBehind_any ct q hq h0 h1 w1).mono ?_; rintro e wx ⟨rfl, hw⟩; have hw := hw.symm; subst hw; have J2 := J1.set1 q; have g2 := grown_set w1 g 1 (.int .i64 q); have P2 := P1.keep g2 hnp; have hD2 := hD1.grown' g2 (fun _ x y e => by cases e; simp; exact fun e => hbg e); have hU2 := hU1.grown' g2 hug; generalize hw2 : w1.setCell ⟨g, 1, none⟩ (.int .i64 q) = w2 at J2 g2 P2 hD2 hU2; have G2 := grown_trans G1 g2; have hz2 : w.heap.size < w2.heap.size := P2.lt; have q0 := J2.cells; have q1 := P2.cell; obtain ⟨c0', c1', c2', c3', c4'⟩ := q0; obtain ⟨p0', p1', p2', p3', p4', p5'⟩ := q1; have t2 : True := trivial)
    | (go_at_call 25; have _t := t2; clear t2; refine (goOn_shut g ap q a n c false _ m d w2 J2).mono ?_; rintro e w3 ⟨rfl, J3, g3⟩; clear c0' c1' c2' c3' c4' p0' p1' p2' p3' p4' p5'; have P3 := P2.keep g3 hnp; have G3 := grown_trans G2 g3; obtain ⟨c0', c1', c2', c3', c4'⟩ := J3.cells; obtain ⟨p0', p1', p2', p3', p4', p5'⟩ := P3.cell; have t3 : True := trivial))
  go_ret
  exact ⟨rfl, J3, G3⟩
set_option maxHeartbeats 4000000 in
theorem take_BMl (g : Nat) (ap ap' ct q : Int) (a : Option Addr) (n c : Nat) (up se : Bool) (b ob m d : Nat) (U D : List Nat) (w : World) (h : Jr w g ap ct true a n c false) (hU : Rd w a n c U) (hD : Rd w (some ⟨b, ob, none⟩) m d D) (hq : Hid (q = (ct + 1) % 16384)) (h0 : 0 ≤ ct) (h1 : ct ≤ 16383) (hm : 0 < m) (hm2 : m ≤ 65536) (hn : n ≤ 1048576) (hbg : ¬ b = g) (hug : 0 < n → ∀ x y, a = some ⟨x, y, none⟩ → some x ≠ some g) (hl : 1048576 < n + m) :
    Calls Try.prog 23 #[.pointer (some ⟨g, 0, none⟩), pkV up se ap' 0 ct (some ⟨b, ob, none⟩) m d] w fun e w' => e = .returned (.slice none 0 0) ∧ Jr w' g ap q false none 0 0 true ∧ w.grownBy w' (some g) := by
  unfold pkV
  have hgl : g < w.heap.size := BxS.lt h
  have P0 := BxP.new w up se ap' 0 ct (some ⟨b, ob, none⟩) m d
  have g0 := World.grownBy_alloc w (.cells #[.bool up, .bool se, .int .i64 ap', .int .i64 0, .int .i64 ct, .slice (some ⟨b, ob, none⟩) m d] 33) none
  generalize hw0 : w.alloc (.cells #[.bool up, .bool se, .int .i64 ap', .int .i64 0, .int .i64 ct, .slice (some ⟨b, ob, none⟩) m d] 33) = w0 at P0 g0
  have J0 : Jr w0 g ap ct true a n c false := BxS.keep h g0 (by simp)
  have hnp : some w.heap.size ≠ some g := by simp; omega
  have hD0 := hD.keep g0
  have hU0 := hU.keep g0
  obtain ⟨c0, c1, c2, c3, c4⟩ := J0.cells
  obtain ⟨p0, p1, p2, p3, p4, p5⟩ := P0.cell
  have e1 : ((ct != -1) : Bool) = true := by simp; omega
  go_enter Try.func23, Try.ntmps23
  go_wp2
  go_quiet (fail)
  have gq := grown_drewN w0 nq none
  have J1 : Jr (w0.drewN nq) g ap ct true a n c false := BxS.keep J0 gq (by simp)
  have P1 := P0.keep gq (by simp)
  have hD1 := hD0.keep gq
  have hU1 := hU0.keep gq
  generalize hw1 : w0.drewN nq = w1 at gq J1 P1 hD1 hU1 ⊢
  have G1 : w.grownBy w1 (some g) := grown_weak (grown_trans g0 gq) _
  have hz1 : w.heap.size < w1.heap.size := P1.lt
  clear c0 c1 c2 c3 c4 p0 p1 p2 p3 p4 p5 hw0 hw1
  obtain ⟨c0, c1, c2, c3, c4⟩ := J1.cells
  obtain ⟨p0, p1, p2, p3, p4, p5⟩ := P1.cell
  have f1 := BxS.free J1 1
  have f4 := BxS.free J1 4
  have t1 : True := trivial
  go_wp2_with (first
    | (go_at_call 19; have _t := t1; clear t1; refine (countBehind_any ct q hq h0 h1 w1).mono ?_; rintro e wx ⟨rfl, hw⟩; have hw := hw.symm; subst hw; have J2 := J1.set1 q; have g2 := grown_set w1 g 1 (.int .i64 q); have P2 := P1.keep g2 hnp; have hD2 := hD1.grown' g2 (fun _ x y e => by cases e; simp; exact fun e => hbg e); have hU2 := hU1.grown' g2 hug; generalize hw2 : w1.setCell ⟨g, 1, none⟩ (.int .i64 q) = w2 at J2 g2 P2 hD2 hU2; have G2 := grown_trans G1 g2; have hz2 : w.heap.size < w2.heap.size := P2.lt; have q0 := J2.cells; have q1 := P2.cell; obtain ⟨c0', c1', c2', c3', c4'⟩ := q0; obtain ⟨p0', p1', p2', p3', p4', p5'⟩ := q1; have t2 : True := trivial)
    | (go_at_call 25; have _t := t2; clear t2; refine (goOn_long g ap q a n c false _ m d w2 J2 hl (by omega) (by omega)).mono ?_; rintro e w3 ⟨rfl, J3, g3⟩; clear c0' c1' c2' c3' c4' p0' p1' p2' p3' p4' p5'; have P3 := P2.keep g3 hnp; have G3 := grown_trans G2 g3; obtain ⟨c0', c1', c2', c3', c4'⟩ := J3.cells; obtain ⟨p0', p1', p2', p3', p4', p5'⟩ := P3.cell; have t3 : True := trivial))
  go_ret
  exact ⟨rfl, J3, G3⟩
set_option maxHeartbeats 4000000 in
theorem take_BMo (g : Nat) (ap ap' ct q : Int) (a : Option Addr) (n c : Nat) (up se : Bool) (b ob m d : Nat) (U D : List Nat) (w : World) (h : Jr w g ap ct true a n c false) (hU : Rd w a n c U) (hD : Rd w (some ⟨b, ob, none⟩) m d D) (hq : Hid (q = (ct + 1) % 16384)) (h0 : 0 ≤ ct) (h1 : ct ≤ 16383) (hm : 0 < m) (hm2 : m ≤ 65536) (hn : n ≤ 1048576) (hbg : ¬ b = g) (hug : 0 < n → ∀ x y, a = some ⟨x, y, none⟩ → some x ≠ some g) (hl : n + m ≤ 1048576) (hn0 : 0 < n) :
    Calls Try.prog 23 #[.pointer (some ⟨g, 0, none⟩), pkV up se ap' 0 ct (some ⟨b, ob, none⟩) m d] w fun e w' => ∃ a1 n1 c1, e = .returned (.slice none 0 0) ∧ Jr w' g ap q true a1 n1 c1 false ∧ Ans w' w.heap.size a1 n1 c1 (U ++ D) ∧ w.grownBy w' (some g) := by
  unfold pkV
  have hgl : g < w.heap.size := BxS.lt h
  have P0 := BxP.new w up se ap' 0 ct (some ⟨b, ob, none⟩) m d
  have g0 := World.grownBy_alloc w (.cells #[.bool up, .bool se, .int .i64 ap', .int .i64 0, .int .i64 ct, .slice (some ⟨b, ob, none⟩) m d] 33) none
  generalize hw0 : w.alloc (.cells #[.bool up, .bool se, .int .i64 ap', .int .i64 0, .int .i64 ct, .slice (some ⟨b, ob, none⟩) m d] 33) = w0 at P0 g0
  have J0 : Jr w0 g ap ct true a n c false := BxS.keep h g0 (by simp)
  have hnp : some w.heap.size ≠ some g := by simp; omega
  have hD0 := hD.keep g0
  have hU0 := hU.keep g0
  obtain ⟨c0, c1, c2, c3, c4⟩ := J0.cells
  obtain ⟨p0, p1, p2, p3, p4, p5⟩ := P0.cell
  have e1 : ((ct != -1) : Bool) = true := by simp; omega
  go_enter Try.func23, Try.ntmps23
  go_wp2
  go_quiet (fail)
  have gq := grown_drewN w0 nq none
  have J1 : Jr (w0.drewN nq) g ap ct true a n c false := BxS.keep J0 gq (by simp)
  have P1 := P0.keep gq (by simp)
  have hD1 := hD0.keep gq
  have hU1 := hU0.keep gq
  generalize hw1 : w0.drewN nq = w1 at gq J1 P1 hD1 hU1 ⊢
  have G1 : w.grownBy w1 (some g) := grown_weak (grown_trans g0 gq) _
  have hz1 : w.heap.size < w1.heap.size := P1.lt
  clear c0 c1 c2 c3 c4 p0 p1 p2 p3 p4 p5 hw0 hw1
  obtain ⟨c0, c1, c2, c3, c4⟩ := J1.cells
  obtain ⟨p0, p1, p2, p3, p4, p5⟩ := P1.cell
  have f1 := BxS.free J1 1
  have f4 := BxS.free J1 4
  have t1 : True := trivial
  go_wp2_with (first
    | (go_at_call 19; have _t := t1; clear t1; refine (countBehind_any ct q hq h0 h1 w1).mono ?_; rintro e wx ⟨rfl, hw⟩; have hw := hw.symm; subst hw; have J2 := J1.set1 q; have g2 := grown_set w1 g 1 (.int .i64 q); have P2 := P1.keep g2 hnp; have hD2 := hD1.grown' g2 (fun _ x y e => by cases e; simp; exact fun e => hbg e); have hU2 := hU1.grown' g2 hug; generalize hw2 : w1.setCell ⟨g, 1, none⟩ (.int .i64 q) = w2 at J2 g2 P2 hD2 hU2; have G2 := grown_trans G1 g2; have hz2 : w.heap.size < w2.heap.size := P2.lt; have q0 := J2.cells; have q1 := P2.cell; obtain ⟨c0', c1', c2', c3', c4'⟩ := q0; obtain ⟨p0', p1', p2', p3', p4', p5'⟩ := q1; have t2 : True := trivial)
    | (go_at_call 25; have _t := t2; clear t2; refine (goOn_joins g ap q a n c false _ m d U D w2 J2 hU2 hD2 hn0 hm hl).mono ?_; rintro e w3 ⟨rfl, gj, cj, J3, hA, g3⟩; clear c0' c1' c2' c3' c4' p0' p1' p2' p3' p4' p5'; have P3 := P2.keep g3 hnp; have G3 := grown_trans G2 g3; obtain ⟨c0', c1', c2', c3', c4'⟩ := J3.cells; obtain ⟨p0', p1', p2', p3', p4', p5'⟩ := P3.cell; have t3 : True := trivial))
  go_ret
  exact ⟨_, _, _, rfl, J3, hA.wide (Nat.le_of_lt hz2), G3⟩
set_option maxHeartbeats 4000000 in
theorem take_BLs (g : Nat) (ap ap' ct q : Int) (a : Option Addr) (n c : Nat) (up se : Bool) (b ob m d : Nat) (U D : List Nat) (w : World) (h : Jr w g ap ct false a n c false) (hU : Rd w a n c U) (hD : Rd w (some ⟨b, ob, none⟩) m d D) (hq : Hid (q = (ct + 1) % 16384)) (h0 : 0 ≤ ct) (h1 : ct ≤ 16383) (hm : 0 < m) (hm2 : m ≤ 65536) (hn : n ≤ 1048576) (hbg : ¬ b = g) (hug : 0 < n → ∀ x y, a = some ⟨x, y, none⟩ → some x ≠ some g) :
    Calls Try.prog 23 #[.pointer (some ⟨g, 0, none⟩), pkV up se ap' 2 ct (some ⟨b, ob, none⟩) m d] w fun e w' => e = .returned (.slice none 0 0) ∧ Jr w' g ap q false none 0 0 true ∧ w.grownBy w' (some g) := by
  unfold pkV
  have hgl : g < w.heap.size := BxS.lt h
  have P0 := BxP.new w up se ap' 2 ct (some ⟨b, ob, none⟩) m d
  have g0 := World.grownBy_alloc w (.cells #[.bool up, .bool se, .int .i64 ap', .int .i64 2, .int .i64 ct, .slice (some ⟨b, ob, none⟩) m d] 33) none
  generalize hw0 : w.alloc (.cells #[.bool up, .bool se, .int .i64 ap', .int .i64 2, .int .i64 ct, .slice (some ⟨b, ob, none⟩) m d] 33) = w0 at P0 g0
  have J0 : Jr w0 g ap ct false a n c false := BxS.keep h g0 (by simp)
  have hnp : some w.heap.size ≠ some g := by simp; omega
  have hD0 := hD.keep g0
  have hU0 := hU.keep g0
  obtain ⟨c0, c1, c2, c3, c4⟩ := J0.cells
  obtain ⟨p0, p1, p2, p3, p4, p5⟩ := P0.cell
  have e1 : ((ct != -1) : Bool) = true := by simp; omega
  go_enter Try.func23, Try.ntmps23
  go_wp2
  go_quiet (fail)
  have gq := grown_drewN w0 nq none
  have J1 : Jr (w0.drewN nq) g ap ct false a n c false := BxS.keep J0 gq (by simp)
  have P1 := P0.keep gq (by simp)
  have hD1 := hD0.keep gq
  have hU1 := hU0.keep gq
  generalize hw1 : w0.drewN nq = w1 at gq J1 P1 hD1 hU1 ⊢
  have G1 : w.grownBy w1 (some g) := grown_weak (grown_trans g0 gq) _
  have hz1 : w.heap.size < w1.heap.size := P1.lt
  clear c0 c1 c2 c3 c4 p0 p1 p2 p3 p4 p5 hw0 hw1
  obtain ⟨c0, c1, c2, c3, c4⟩ := J1.cells
  obtain ⟨p0, p1, p2, p3, p4, p5⟩ := P1.cell
  have f1 := BxS.free J1 1
  have f4 := BxS.free J1 4
  have t1 : True := trivial
  go_wp2_with (first
    | (go_at_call 19; have _t := t1; clear t1; refine (countBehind_any ct q hq h0 h1 w1).mono ?_; rintro e wx ⟨rfl, hw⟩; have hw := hw.symm; subst hw; have J2 := J1.set1 q; have g2 := grown_set w1 g 1 (.int .i64 q); have P2 := P1.keep g2 hnp; have hD2 := hD1.grown' g2 (fun _ x y e => by cases e; simp; exact fun e => hbg e); have hU2 := hU1.grown' g2 hug; generalize hw2 : w1.setCell ⟨g, 1, none⟩ (.int .i64 q) = w2 at J2 g2 P2 hD2 hU2; have G2 := grown_trans G1 g2; have hz2 : w.heap.size < w2.heap.size := P2.lt; have q0 := J2.cells; have q1 := P2.cell; obtain ⟨c0', c1', c2', c3', c4'⟩ := q0; obtain ⟨p0', p1', p2', p3', p4', p5'⟩ := q1; have t2 : True := trivial)
    | (go_at_call 25; have _t := t2; clear t2; refine (goOn_shut g ap q a n c false _ m d w2 J2).mono ?_; rintro e w3 ⟨rfl, J3, g3⟩; clear c0' c1' c2' c3' c4' p0' p1' p2' p3' p4' p5'; have P3 := P2.keep g3 hnp; have G3 := grown_trans G2 g3; obtain ⟨c0', c1', c2', c3', c4'⟩ := J3.cells; obtain ⟨p0', p1', p2', p3', p4', p5'⟩ := P3.cell; have t3 : True := trivial)
    | (go_at_call 26; have _t := t3; clear t3; refine (finish_any g ap q false none 0 0 true w3 J3).mono ?_; rintro e w4 ⟨rfl, J4, g4⟩; have G4 := grown_trans G3 g4))
  go_ret
  exact ⟨rfl, J4, G4⟩
set_option maxHeartbeats 4000000 in
theorem take_BLl (g : Nat) (ap ap' ct q : Int) (a : Option Addr) (n c : Nat) (up se : Bool) (b ob m d : Nat) (U D : List Nat) (w : World) (h : Jr w g ap ct true a n c false) (hU : Rd w a n c U) (hD : Rd w (some ⟨b, ob, none⟩) m d D) (hq : Hid (q = (ct + 1) % 16384)) (h0 : 0 ≤ ct) (h1 : ct ≤ 16383) (hm : 0 < m) (hm2 : m ≤ 65536) (hn : n ≤ 1048576) (hbg : ¬ b = g) (hug : 0 < n → ∀ x y, a = some ⟨x, y, none⟩ → some x ≠ some g) (hl : 1048576 < n + m) :
    Calls Try.prog 23 #[.pointer (some ⟨g, 0, none⟩), pkV up se ap' 2 ct (some ⟨b, ob, none⟩) m d] w fun e w' => e = .returned (.slice none 0 0) ∧ Jr w' g ap q false none 0 0 true ∧ w.grownBy w' (some g) := by
  unfold pkV
  have hgl : g < w.heap.size := BxS.lt h
  have P0 := BxP.new w up se ap' 2 ct (some ⟨b, ob, none⟩) m d
  have g0 := World.grownBy_alloc w (.cells #[.bool up, .bool se, .int .i64 ap', .int .i64 2, .int .i64 ct, .slice (some ⟨b, ob, none⟩) m d] 33) none
  generalize hw0 : w.alloc (.cells #[.bool up, .bool se, .int .i64 ap', .int .i64 2, .int .i64 ct, .slice (some ⟨b, ob, none⟩) m d] 33) = w0 at P0 g0
  have J0 : Jr w0 g ap ct true a n c false := BxS.keep h g0 (by simp)
  have hnp : some w.heap.size ≠ some g := by simp; omega
  have hD0 := hD.keep g0
  have hU0 := hU.keep g0
  obtain ⟨c0, c1, c2, c3, c4⟩ := J0.cells
  obtain ⟨p0, p1, p2, p3, p4, p5⟩ := P0.cell
  have e1 : ((ct != -1) : Bool) = true := by simp; omega
  go_enter Try.func23, Try.ntmps23
  go_wp2
  go_quiet (fail)
  have gq := grown_drewN w0 nq none
  have J1 : Jr (w0.drewN nq) g ap ct true a n c false := BxS.keep J0 gq (by simp)
  have P1 := P0.keep gq (by simp)
  have hD1 := hD0.keep gq
  have hU1 := hU0.keep gq
  generalize hw1 : w0.drewN nq = w1 at gq J1 P1 hD1 hU1 ⊢
  have G1 : w.grownBy w1 (some g) := grown_weak (grown_trans g0 gq) _
  have hz1 : w.heap.size < w1.heap.size := P1.lt
  clear c0 c1 c2 c3 c4 p0 p1 p2 p3 p4 p5 hw0 hw1
  obtain ⟨c0, c1, c2, c3, c4⟩ := J1.cells
  obtain ⟨p0, p1, p2, p3, p4, p5⟩ := P1.cell
  have f1 := BxS.free J1 1
  have f4 := BxS.free J1 4
  have t1 : True := trivial
  go_wp2_with (first
    | (go_at_call 19; have _t := t1; clear t1; refine (countBehind_any ct q hq h0 h1 w1).mono ?_; rintro e wx ⟨rfl, hw⟩; have hw := hw.symm; subst hw; have J2 := J1.set1 q; have g2 := grown_set w1 g 1 (.int .i64 q); have P2 := P1.keep g2 hnp; have hD2 := hD1.grown' g2 (fun _ x y e => by cases e; simp; exact fun e => hbg e); have hU2 := hU1.grown' g2 hug; generalize hw2 : w1.setCell ⟨g, 1, none⟩ (.int .i64 q) = w2 at J2 g2 P2 hD2 hU2; have G2 := grown_trans G1 g2; have hz2 : w.heap.size < w2.heap.size := P2.lt; have q0 := J2.cells; have q1 := P2.cell; obtain ⟨c0', c1', c2', c3', c4'⟩ := q0; obtain ⟨p0', p1', p2', p3', p4', p5'⟩ := q1; have t2 : True := trivial)
    | (go_at_call 25; have _t := t2; clear t2; refine (goOn_long g ap q a n c false _ m d w2 J2 hl (by omega) (by omega)).mono ?_; rintro e w3 ⟨rfl, J3, g3⟩; clear c0' c1' c2' c3' c4' p0' p1' p2' p3' p4' p5'; have P3 := P2.keep g3 hnp; have G3 := grown_trans G2 g3; obtain ⟨c0', c1', c2', c3', c4'⟩ := J3.cells; obtain ⟨p0', p1', p2', p3', p4', p5'⟩ := P3.cell; have t3 : True := trivial)
    | (go_at_call 26; have _t := t3; clear t3; refine (finish_any g ap q false none 0 0 true w3 J3).mono ?_; rintro e w4 ⟨rfl, J4, g4⟩; have G4 := grown_trans G3 g4))
  go_ret
  exact ⟨rfl, J4, G4⟩
set_option maxHeartbeats 4000000 in
theorem take_BLo (g : Nat) (ap ap' ct q : Int) (a : Option Addr) (n c : Nat) (up se : Bool) (b ob m d : Nat) (U D : List Nat) (w : World) (h : Jr w g ap ct true a n c false) (hU : Rd w a n c U) (hD : Rd w (some ⟨b, ob, none⟩) m d D) (hq : Hid (q = (ct + 1) % 16384)) (h0 : 0 ≤ ct) (h1 : ct ≤ 16383) (hm : 0 < m) (hm2 : m ≤ 65536) (hn : n ≤ 1048576) (hbg : ¬ b = g) (hug : 0 < n → ∀ x y, a = some ⟨x, y, none⟩ → some x ≠ some g) (hl : n + m ≤ 1048576) (hn0 : 0 < n) :
    Calls Try.prog 23 #[.pointer (some ⟨g, 0, none⟩), pkV up se ap' 2 ct (some ⟨b, ob, none⟩) m d] w fun e w' => ∃ a2 n2 c2, e = .returned (.slice a2 n2 c2) ∧ Jr w' g ap q false none 0 0 false ∧ Ans w' w.heap.size a2 n2 c2 (U ++ D) ∧ w.grownBy w' (some g) := by
  unfold pkV
  have hgl : g < w.heap.size := BxS.lt h
  have P0 := BxP.new w up se ap' 2 ct (some ⟨b, ob, none⟩) m d
  have g0 := World.grownBy_alloc w (.cells #[.bool up, .bool se, .int .i64 ap', .int .i64 2, .int .i64 ct, .slice (some ⟨b, ob, none⟩) m d] 33) none
  generalize hw0 : w.alloc (.cells #[.bool up, .bool se, .int .i64 ap', .int .i64 2, .int .i64 ct, .slice (some ⟨b, ob, none⟩) m d] 33) = w0 at P0 g0
  have J0 : Jr w0 g ap ct true a n c false := BxS.keep h g0 (by simp)
  have hnp : some w.heap.size ≠ some g := by simp; omega
  have hD0 := hD.keep g0
  have hU0 := hU.keep g0
  obtain ⟨c0, c1, c2, c3, c4⟩ := J0.cells
  obtain ⟨p0, p1, p2, p3, p4, p5⟩ := P0.cell
  have e1 : ((ct != -1) : Bool) = true := by simp; omega
  go_enter Try.func23, Try.ntmps23
  go_wp2
  go_quiet (fail)
  have gq := grown_drewN w0 nq none
  have J1 : Jr (w0.drewN nq) g ap ct true a n c false := BxS.keep J0 gq (by simp)
  have P1 := P0.keep gq (by simp)
  have hD1 := hD0.keep gq
  have hU1 := hU0.keep gq
  generalize hw1 : w0.drewN nq = w1 at gq J1 P1 hD1 hU1 ⊢
  have G1 : w.grownBy w1 (some g) := grown_weak (grown_trans g0 gq) _
  have hz1 : w.heap.size < w1.heap.size := P1.lt
  clear c0 c1 c2 c3 c4 p0 p1 p2 p3 p4 p5 hw0 hw1
  obtain ⟨c0, c1, c2, c3, c4⟩ := J1.cells
  obtain ⟨p0, p1, p2, p3, p4, p5⟩ := P1.cell
  have f1 := BxS.free J1 1
  have f4 := BxS.free J1 4
  have t1 : True := trivial
  go_wp2_with (first
    | (go_at_call 19; have _t := t1; clear t1; refine (countBehind_any ct q hq h0 h1 w1).mono ?_; rintro e wx ⟨rfl, hw⟩; have hw := hw.symm; subst hw; have J2 := J1.set1 q; have g2 := grown_set w1 g 1 (.int .i64 q); have P2 := P1.keep g2 hnp; have hD2 := hD1.grown' g2 (fun _ x y e => by cases e; simp; exact fun e => hbg e); have hU2 := hU1.grown' g2 hug; generalize hw2 : w1.setCell ⟨g, 1, none⟩ (.int .i64 q) = w2 at J2 g2 P2 hD2 hU2; have G2 := grown_trans G1 g2; have hz2 : w.heap.size < w2.heap.size := P2.lt; have q0 := J2.cells; have q1 := P2.cell; obtain ⟨c0', c1', c2', c3', c4'⟩ := q0; obtain ⟨p0', p1', p2', p3', p4', p5'⟩ := q1; have t2 : True := trivial)
    | (go_at_call 25; have _t := t2; clear t2; refine (goOn_joins g ap q a n c false _ m d U D w2 J2 hU2 hD2 hn0 hm hl).mono ?_; rintro e w3 ⟨rfl, gj, cj, J3, hA, g3⟩; clear c0' c1' c2' c3' c4' p0' p1' p2' p3' p4' p5'; have P3 := P2.keep g3 hnp; have G3 := grown_trans G2 g3; obtain ⟨c0', c1', c2', c3', c4'⟩ := J3.cells; obtain ⟨p0', p1', p2', p3', p4', p5'⟩ := P3.cell; have t3 : True := trivial)
    | (go_at_call 26; have _t := t3; clear t3; refine (finish_any g ap q true (some ⟨gj, 0, none⟩) (n + m) cj false w3 J3).mono ?_; rintro e w4 ⟨rfl, J4, g4⟩; have G4 := grown_trans G3 g4))
  go_ret
  have hgc : w.heap.size ≤ gj := Nat.le_trans (Nat.le_of_lt hz2) (hA.new gj rfl)
  exact ⟨_, _, _, rfl, J4, (hA.kept g4 (.inr (by simp [Value.ownBlock]; omega))).wide (Nat.le_of_lt hz2), G4⟩
set_option maxHeartbeats 4000000 in
theorem take_CW (g : Nat) (ap ap' nx ct q : Int) (op : Bool) (a : Option Addr) (n c : Nat) (up se : Bool) (b ob m d : Nat) (U D : List Nat) (w : World) (h : Jr w g ap nx op a n c false) (hU : Rd w a n c U) (hD : Rd w (some ⟨b, ob, none⟩) m d D) (hq : Hid (q = (ct + 1) % 16384)) (h0 : 0 ≤ ct) (h1 : ct ≤ 16383) (hm : 0 < m) (hm2 : m ≤ 65536) (hn : n ≤ 1048576) (hx1 : nx ≠ -1) (hx2 : nx ≠ ct) (hbg : ¬ b = g) :
    Calls Try.prog 23 #[.pointer (some ⟨g, 0, none⟩), pkV up se ap' 3 ct (some ⟨b, ob, none⟩) m d] w fun e w' => ∃ a2 n2 c2, e = .returned (.slice a2 n2 c2) ∧ Jr w' g ap q false none 0 0 (true || false) ∧ Ans w' w.heap.size a2 n2 c2 D ∧ w.grownBy w' (some g) := by
  unfold pkV
  have hgl : g < w.heap.size := BxS.lt h
  have P0 := BxP.new w up se ap' 3 ct (some ⟨b, ob, none⟩) m d
  have g0 := World.grownBy_alloc w (.cells #[.bool up, .bool se, .int .i64 ap', .int .i64 3, .int .i64 ct, .slice (some ⟨b, ob, none⟩) m d] 33) none
  generalize hw0 : w.alloc (.cells #[.bool up, .bool se, .int .i64 ap', .int .i64 3, .int .i64 ct, .slice (some ⟨b, ob, none⟩) m d] 33) = w0 at P0 g0
  have J0 : Jr w0 g ap nx op a n c false := BxS.keep h g0 (by simp)
  have hnp : some w.heap.size ≠ some g := by simp; omega
  have hD0 := hD.keep g0
  have hU0 := hU.keep g0
  obtain ⟨c0, c1, c2, c3, c4⟩ := J0.cells
  obtain ⟨p0, p1, p2, p3, p4, p5⟩ := P0.cell
  have e1 : ((nx != -1) : Bool) = true := by simpa using hx1
  have e2 : ((nx != ct) : Bool) = true := by simpa using hx2
  go_enter Try.func23, Try.ntmps23
  go_wp2
  go_quiet (fail)
  have gq := grown_drewN w0 nq none
  have J1 : Jr (w0.drewN nq) g ap nx op a n c false := BxS.keep J0 gq (by simp)
  have P1 := P0.keep gq (by simp)
  have hD1 := hD0.keep gq
  have hU1 := hU0.keep gq
  generalize hw1 : w0.drewN nq = w1 at gq J1 P1 hD1 hU1 ⊢
  have G1 : w.grownBy w1 (some g) := grown_weak (grown_trans g0 gq) _
  have hz1 : w.heap.size < w1.heap.size := P1.lt
  clear c0 c1 c2 c3 c4 p0 p1 p2 p3 p4 p5 hw0 hw1
  obtain ⟨c0, c1, c2, c3, c4⟩ := J1.cells
  obtain ⟨p0, p1, p2, p3, p4, p5⟩ := P1.cell
  have f1 := BxS.free J1 1
  have f4 := BxS.free J1 4
  have t1 : True := trivial
  have J2 := J1.set4 true
  have g2 := grown_set w1 g 4 (.bool true)
  have P2 := P1.keep g2 hnp
  generalize hw2 : w1.setCell ⟨g, 4, none⟩ (.bool true) = w2 at J2 g2 P2
  have G2 := grown_trans G1 g2
  have hz2 : w.heap.size < w2.heap.size := P2.lt
  have hD2 := hD1.grown' g2 (fun _ x y e => by cases e; simp; exact fun e => hbg e)
  go_wp2_with (first
    | (go_at_call 24; have _t := t1; clear t1; refine (drop_any g ap nx op a n c true w2 J2).mono ?_; rintro e w3 ⟨rfl, J3, g3⟩; rw [Bool.true_or] at J3; clear c0 c1 c2 c3 c4 p0 p1 p2 p3 p4 p5; clear f1 f4; have P3 := P2.keep g3 hnp; have hD3 := hD2.grown' g3 (fun _ x y e => by cases e; simp; exact fun e => hbg e); have G3 := grown_trans G2 g3; have hz3 : w.heap.size < w3.heap.size := P3.lt; obtain ⟨c0, c1, c2, c3, c4⟩ := J3.cells; obtain ⟨p0, p1, p2, p3, p4, p5⟩ := P3.cell; have f1 := BxS.free J3 1; have t2 : True := trivial)
    | (go_at_call 19; have _t := t2; clear t2; refine (countBehind_any ct q hq h0 h1 w3).mono ?_; rintro e wx ⟨rfl, hw⟩; have hw := hw.symm; subst hw; have J4 := J3.set1 q; have g4 := grown_set w3 g 1 (.int .i64 q); have P4 := P3.keep g4 hnp; have hD4 := hD3.grown' g4 (fun _ x y e => by cases e; simp; exact fun e => hbg e); generalize hw4 : w3.setCell ⟨g, 1, none⟩ (.int .i64 q) = w4 at J4 g4 P4 hD4; have G4 := grown_trans G3 g4; have hz4 : w.heap.size < w4.heap.size := P4.lt; have q0 := J4.cells; have q1 := P4.cell; obtain ⟨c0', c1', c2', c3', c4'⟩ := q0; obtain ⟨p0', p1', p2', p3', p4', p5'⟩ := q1; have t3 : True := trivial)
    | (go_at_call 24; have _t := t3; clear t3; refine (drop_any g ap q false none 0 0 true w4 J4).mono ?_; rintro e w5 ⟨rfl, J5, g5⟩; clear c0' c1' c2' c3' c4' p0' p1' p2' p3' p4' p5'; have P5 := P4.keep g5 hnp; have hD5 := hD4.grown' g5 (fun _ x y e => by cases e; simp; exact fun e => hbg e); have G5 := grown_trans G4 g5; have hz5 : w.heap.size < w5.heap.size := P5.lt; obtain ⟨c0', c1', c2', c3', c4'⟩ := J5.cells; obtain ⟨p0', p1', p2', p3', p4', p5'⟩ := P5.cell; have t4 : True := trivial)
    | (go_at_call 18; have _t := t4; clear t4; refine (pclone_any b ob m d D w5 hD5 hm (by omega)).mono ?_; rintro e w6 ⟨gc, cc, rfl, hA, g6⟩; have J6 := BxS.keep J5 g6 (by simp); have G6 := grown_trans G5 (grown_weak g6 _); have k2 := BxS.cell J6 2 (by simp [jrA]); have k3 := BxS.cell J6 3 (by simp [jrA]); simp only [jrA] at k2 k3; have f2 := BxS.free J6 2; have f3 := BxS.free J6 3))
  go_ret
  have J' : Jr w6 g ap q false none 0 0 _ := J6
  exact ⟨some ⟨gc, 0, none⟩, m, cc, rfl, J', hA.wide (Nat.le_of_lt hz5), G6⟩
set_option maxHeartbeats 4000000 in
theorem take_CF (g : Nat) (ap ap' nx ct q : Int) (op : Bool) (a : Option Addr) (n c : Nat) (up se : Bool) (b ob m d : Nat) (U D : List Nat) (w : World) (h : Jr w g ap nx op a n c false) (hU : Rd w a n c U) (hD : Rd w (some ⟨b, ob, none⟩) m d D) (hq : Hid (q = (ct + 1) % 16384)) (h0 : 0 ≤ ct) (h1 : ct ≤ 16383) (hm : 0 < m) (hm2 : m ≤ 65536) (hn : n ≤ 1048576) (hx1 : nx ≠ -1) (hx2 : nx ≠ ct) (hbg : ¬ b = g) :
    Calls Try.prog 23 #[.pointer (some ⟨g, 0, none⟩), pkV up se ap' 1 ct (some ⟨b, ob, none⟩) m d] w fun e w' => ∃ a1 n1 c1, e = .returned (.slice none 0 0) ∧ Jr w' g ap q true a1 n1 c1 (true || false) ∧ Ans w' w.heap.size a1 n1 c1 D ∧ w.grownBy w' (some g) := by
  unfold pkV
  have hgl : g < w.heap.size := BxS.lt h
  have P0 := BxP.new w up se ap' 1 ct (some ⟨b, ob, none⟩) m d
  have g0 := World.grownBy_alloc w (.cells #[.bool up, .bool se, .int .i64 ap', .int .i64 1, .int .i64 ct, .slice (some ⟨b, ob, none⟩) m d] 33) none
  generalize hw0 : w.alloc (.cells #[.bool up, .bool se, .int .i64 ap', .int .i64 1, .int .i64 ct, .slice (some ⟨b, ob, none⟩) m d] 33) = w0 at P0 g0
  have J0 : Jr w0 g ap nx op a n c false := BxS.keep h g0 (by simp)
  have hnp : some w.heap.size ≠ some g := by simp; omega
  have hD0 := hD.keep g0
  have hU0 := hU.keep g0
  obtain ⟨c0, c1, c2, c3, c4⟩ := J0.cells
  obtain ⟨p0, p1, p2, p3, p4, p5⟩ := P0.cell
  have e1 : ((nx != -1) : Bool) = true := by simpa using hx1
  have e2 : ((nx != ct) : Bool) = true := by simpa using hx2
  go_enter Try.func23, Try.ntmps23
  go_wp2
  go_quiet (fail)
  have gq := grown_drewN w0 nq none
  have J1 : Jr (w0.drewN nq) g ap nx op a n c false := BxS.keep J0 gq (by simp)
  have P1 := P0.keep gq (by simp)
  have hD1 := hD0.keep gq
  have hU1 := hU0.keep gq
  generalize hw1 : w0.drewN nq = w1 at gq J1 P1 hD1 hU1 ⊢
  have G1 : w.grownBy w1 (some g) := grown_weak (grown_trans g0 gq) _
  have hz1 : w.heap.size < w1.heap.size := P1.lt
  clear c0 c1 c2 c3 c4 p0 p1 p2 p3 p4 p5 hw0 hw1
  obtain ⟨c0, c1, c2, c3, c4⟩ := J1.cells
  obtain ⟨p0, p1, p2, p3, p4, p5⟩ := P1.cell
  have f1 := BxS.free J1 1
  have f4 := BxS.free J1 4
  have t1 : True := trivial
  have J2 := J1.set4 true
  have g2 := grown_set w1 g 4 (.bool true)
  have P2 := P1.keep g2 hnp
  generalize hw2 : w1.setCell ⟨g, 4, none⟩ (.bool true) = w2 at J2 g2 P2
  have G2 := grown_trans G1 g2
  have hz2 : w.heap.size < w2.heap.size := P2.lt
  have hD2 := hD1.grown' g2 (fun _ x y e => by cases e; simp; exact fun e => hbg e)
  go_wp2_with (first
    | (go_at_call 24; have _t := t1; clear t1; refine (drop_any g ap nx op a n c true w2 J2).mono ?_; rintro e w3 ⟨rfl, J3, g3⟩; rw [Bool.true_or] at J3; clear c0 c1 c2 c3 c4 p0 p1 p2 p3 p4 p5; clear f1 f4; have P3 := P2.keep g3 hnp; have hD3 := hD2.grown' g3 (fun _ x y e => by cases e; simp; exact fun e => hbg e); have G3 := grown_trans G2 g3; have hz3 : w.heap.size < w3.heap.size := P3.lt; obtain ⟨c0, c1, c2, c3, c4⟩ := J3.cells; obtain ⟨p0, p1, p2, p3, p4, p5⟩ := P3.cell; have f1 := BxS.free J3 1; have t2 : True := trivial)
    | (go_at_call 19; have _t := t2; clear t2; refine (countBehind_any ct q hq h0 h1 w3).mono ?_; rintro e wx ⟨rfl, hw⟩; have hw := hw.symm; subst hw; have J4 := J3.set1 q; have g4 := grown_set w3 g 1 (.int .i64 q); have P4 := P3.keep g4 hnp; have hD4 := hD3.grown' g4 (fun _ x y e => by cases e; simp; exact fun e => hbg e); generalize hw4 : w3.setCell ⟨g, 1, none⟩ (.int .i64 q) = w4 at J4 g4 P4 hD4; have G4 := grown_trans G3 g4; have hz4 : w.heap.size < w4.heap.size := P4.lt; have q0 := J4.cells; have q1 := P4.cell; obtain ⟨c0', c1', c2', c3', c4'⟩ := q0; obtain ⟨p0', p1', p2', p3', p4', p5'⟩ := q1; have t3 : True := trivial)
    | (go_at_call 24; have _t := t3; clear t3; refine (drop_any g ap q false none 0 0 true w4 J4).mono ?_; rintro e w5 ⟨rfl, J5, g5⟩; clear c0' c1' c2' c3' c4' p0' p1' p2' p3' p4' p5'; have P5 := P4.keep g5 hnp; have hD5 := hD4.grown' g5 (fun _ x y e => by cases e; simp; exact fun e => hbg e); have G5 := grown_trans G4 g5; have hz5 : w.heap.size < w5.heap.size := P5.lt; obtain ⟨c0', c1', c2', c3', c4'⟩ := J5.cells; obtain ⟨p0', p1', p2', p3', p4', p5'⟩ := P5.cell; have t4 : True := trivial)
    | (go_at_call 18; have _t := t4; clear t4; refine (pclone_any b ob m d D w5 hD5 hm (by omega)).mono ?_; rintro e w6 ⟨gc, cc, rfl, hA, g6⟩; have J6 := BxS.keep J5 g6 (by simp); have G6 := grown_trans G5 (grown_weak g6 _); have k2 := BxS.cell J6 2 (by simp [jrA]); have k3 := BxS.cell J6 3 (by simp [jrA]); simp only [jrA] at k2 k3; have f2 := BxS.free J6 2; have f3 := BxS.free J6 3))
  go_ret
  have J' : Jr w6 g ap q false none 0 0 _ := J6
  have hgc : w.heap.size ≤ gc := Nat.le_trans (Nat.le_of_lt hz5) (hA.new gc rfl)
  refine ⟨some ⟨gc, 0, none⟩, m, cc, rfl, (J'.set2 _).set3 _ _ _, ?_, grown_trans G6 (grown_trans (grown_set _ _ _ _) (grown_set _ _ _ _))⟩
  exact ((hA.kept (grown_set _ g 2 _) (.inr (by simp [Value.ownBlock]; omega))).kept (grown_set _ g 3 _) (.inr (by simp [Value.ownBlock]; omega))).wide (Nat.le_of_lt hz5)
set_option maxHeartbeats 4000000 in
theorem take_CM (g : Nat) (ap ap' nx ct q : Int) (op : Bool) (a : Option Addr) (n c : Nat) (up se : Bool) (b ob m d : Nat) (U D : List Nat) (w : World) (h : Jr w g ap nx op a n c false) (hU : Rd w a n c U) (hD : Rd w (some ⟨b, ob, none⟩) m d D) (hq : Hid (q = (ct + 1) % 16384)) (h0 : 0 ≤ ct) (h1 : ct ≤ 16383) (hm : 0 < m) (hm2 : m ≤ 65536) (hn : n ≤ 1048576) (hx1 : nx ≠ -1) (hx2 : nx ≠ ct) (hbg : ¬ b = g) :
    Calls Try.prog 23 #[.pointer (some ⟨g, 0, none⟩), pkV up se ap' 0 ct (some ⟨b, ob, none⟩) m d] w fun e w' => e = .returned (.slice none 0 0) ∧ Jr w' g ap q false none 0 0 true ∧ w.grownBy w' (some g) := by
  unfold pkV
  have hgl : g < w.heap.size := BxS.lt h
  have P0 := BxP.new w up se ap' 0 ct (some ⟨b, ob, none⟩) m d
  have g0 := World.grownBy_alloc w (.cells #[.bool up, .bool se, .int .i64 ap', .int .i64 0, .int .i64 ct, .slice (some ⟨b, ob, none⟩) m d] 33) none
  generalize hw0 : w.alloc (.cells #[.bool up, .bool se, .int .i64 ap', .int .i64 0, .int .i64 ct, .slice (some ⟨b, ob, none⟩) m d] 33) = w0 at P0 g0
  have J0 : Jr w0 g ap nx op a n c false := BxS.keep h g0 (by simp)
  have hnp : some w.heap.size ≠ some g := by simp; omega
  have hD0 := hD.keep g0
  have hU0 := hU.keep g0
  obtain ⟨c0, c1, c2, c3, c4⟩ := J0.cells
  obtain ⟨p0, p1, p2, p3, p4, p5⟩ := P0.cell
  have e1 : ((nx != -1) : Bool) = true := by simpa using hx1
  have e2 : ((nx != ct) : Bool) = true := by simpa using hx2
  go_enter Try.func23, Try.ntmps23
  go_wp2
  go_quiet (fail)
  have gq := grown_drewN w0 nq none
  have J1 : Jr (w0.drewN nq) g ap nx op a n c false := BxS.keep J0 gq (by simp)
  have P1 := P0.keep gq (by simp)
  have hD1 := hD0.keep gq
  have hU1 := hU0.keep gq
  generalize hw1 : w0.drewN nq = w1 at gq J1 P1 hD1 hU1 ⊢
  have G1 : w.grownBy w1 (some g) := grown_weak (grown_trans g0 gq) _
  have hz1 : w.heap.size < w1.heap.size := P1.lt
  clear c0 c1 c2 c3 c4 p0 p1 p2 p3 p4 p5 hw0 hw1
  obtain ⟨c0, c1, c2, c3, c4⟩ := J1.cells
  obtain ⟨p0, p1, p2, p3, p4, p5⟩ := P1.cell
  have f1 := BxS.free J1 1
  have f4 := BxS.free J1 4
  have t1 : True := trivial
  have J2 := J1.set4 true
  have g2 := grown_set w1 g 4 (.bool true)
  have P2 := P1.keep g2 hnp
  generalize hw2 : w1.setCell ⟨g, 4, none⟩ (.bool true) = w2 at J2 g2 P2
  have G2 := grown_trans G1 g2
  have hz2 : w.heap.size < w2.heap.size := P2.lt
  have hD2 := hD1.grown' g2 (fun _ x y e => by cases e; simp; exact fun e => hbg e)
  go_wp2_with (first
    | (go_at_call 24; have _t := t1; clear t1; refine (drop_any g ap nx op a n c true w2 J2).mono ?_; rintro e w3 ⟨rfl, J3, g3⟩; rw [Bool.true_or] at J3; clear c0 c1 c2 c3 c4 p0 p1 p2 p3 p4 p5; clear f1 f4; have P3 := P2.keep g3 hnp; have hD3 := hD2.grown' g3 (fun _ x y e => by cases e; simp; exact fun e => hbg e); have G3 := grown_trans G2 g3; have hz3 : w.heap.size < w3.heap.size := P3.lt; obtain ⟨c0, c1, c2, c3, c4⟩ := J3.cells; obtain ⟨p0, p1, p2, p3, p4, p5⟩ := P3.cell; have f1 := BxS.free J3 1; have t2 : True := trivial)
    | (go_at_call 19; have _t := t2; clear t2; refine (countBehind_any ct q hq h0 h1 w3).mono ?_; rintro e wx ⟨rfl, hw⟩; have hw := hw.symm; subst hw; have J4 := J3.set1 q; have g4 := grown_set w3 g 1 (.int .i64 q); have P4 := P3.keep g4 hnp; have hD4 := hD3.grown' g4 (fun _ x y e => by cases e; simp; exact fun e => hbg e); generalize hw4 : w3.setCell ⟨g, 1, none⟩ (.int .i64 q) = w4 at J4 g4 P4 hD4; have G4 := grown_trans G3 g4; have hz4 : w.heap.size < w4.heap.size := P4.lt; have q0 := J4.cells; have q1 := P4.cell; obtain ⟨c0', c1', c2', c3', c4'⟩ := q0; obtain ⟨p0', p1', p2', p3', p4', p5'⟩ := q1; have t3 : True := trivial)
    | (go_at_call 25; have _t := t3; clear t3; refine (goOn_shut g ap q none 0 0 true _ m d w4 J4).mono ?_; rintro e w5 ⟨rfl, J5, g5⟩; clear c0' c1' c2' c3' c4' p0' p1' p2' p3' p4' p5'; have P5 := P4.keep g5 hnp; have G5 := grown_trans G4 g5; obtain ⟨c0', c1', c2', c3', c4'⟩ := J5.cells; obtain ⟨p0', p1', p2', p3', p4', p5'⟩ := P5.cell; have t4 : True := trivial))
  go_ret
  exact ⟨rfl, J5, G5⟩
set_option maxHeartbeats 4000000 in
theorem take_CL (g : Nat) (ap ap' nx ct q : Int) (op : Bool) (a : Option Addr) (n c : Nat) (up se : Bool) (b ob m d : Nat) (U D : List Nat) (w : World) (h : Jr w g ap nx op a n c false) (hU : Rd w a n c U) (hD : Rd w (some ⟨b, ob, none⟩) m d D) (hq : Hid (q = (ct + 1) % 16384)) (h0 : 0 ≤ ct) (h1 : ct ≤ 16383) (hm : 0 < m) (hm2 : m ≤ 65536) (hn : n ≤ 1048576) (hx1 : nx ≠ -1) (hx2 : nx ≠ ct) (hbg : ¬ b = g) :
    Calls Try.prog 23 #[.pointer (some ⟨g, 0, none⟩), pkV up se ap' 2 ct (some ⟨b, ob, none⟩) m d] w fun e w' => e = .returned (.slice none 0 0) ∧ Jr w' g ap q false none 0 0 true ∧ w.grownBy w' (some g) := by
  unfold pkV
  have hgl : g < w.heap.size := BxS.lt h
  have P0 := BxP.new w up se ap' 2 ct (some ⟨b, ob, none⟩) m d
  have g0 := World.grownBy_alloc w (.cells #[.bool up, .bool se, .int .i64 ap', .int .i64 2, .int .i64 ct, .slice (some ⟨b, ob, none⟩) m d] 33) none
  generalize hw0 : w.alloc (.cells #[.bool up, .bool se, .int .i64 ap', .int .i64 2, .int .i64 ct, .slice (some ⟨b, ob, none⟩) m d] 33) = w0 at P0 g0
  have J0 : Jr w0 g ap nx op a n c false := BxS.keep h g0 (by simp)
  have hnp : some w.heap.size ≠ some g := by simp; omega
  have hD0 := hD.keep g0
  have hU0 := hU.keep g0
  obtain ⟨c0, c1, c2, c3, c4⟩ := J0.cells
  obtain ⟨p0, p1, p2, p3, p4, p5⟩ := P0.cell
  have e1 : ((nx != -1) : Bool) = true := by simpa using hx1
  have e2 : ((nx != ct) : Bool) = true := by simpa using hx2
  go_enter Try.func23, Try.ntmps23
  go_wp2
  go_quiet (fail)
  have gq := grown_drewN w0 nq none
  have J1 : Jr (w0.drewN nq) g ap nx op a n c false := BxS.keep J0 gq (by simp)
  have P1 := P0.keep gq (by simp)
  have hD1 := hD0.keep gq
  have hU1 := hU0.keep gq
  generalize hw1 : w0.drewN nq = w1 at gq J1 P1 hD1 hU1 ⊢
  have G1 : w.grownBy w1 (some g) := grown_weak (grown_trans g0 gq) _
  have hz1 : w.heap.size < w1.heap.size := P1.lt
  clear c0 c1 c2 c3 c4 p0 p1 p2 p3 p4 p5 hw0 hw1
  obtain ⟨c0, c1, c2, c3, c4⟩ := J1.cells
  obtain ⟨p0, p1, p2, p3, p4, p5⟩ := P1.cell
  have f1 := BxS.free J1 1
  have f4 := BxS.free J1 4
  have t1 : True := trivial
  have J2 := J1.set4 true
  have g2 := grown_set w1 g 4 (.bool true)
  have P2 := P1.keep g2 hnp
  generalize hw2 : w1.setCell ⟨g, 4, none⟩ (.bool true) = w2 at J2 g2 P2
  have G2 := grown_trans G1 g2
  have hz2 : w.heap.size < w2.heap.size := P2.lt
  have hD2 := hD1.grown' g2 (fun _ x y e => by cases e; simp; exact fun e => hbg e)
  go_wp2_with (first
    | (go_at_call 24; have _t := t1; clear t1; refine (drop_any g ap nx op a n c true w2 J2).mono ?_; rintro e w3 ⟨rfl, J3, g3⟩; rw [Bool.true_or] at J3; clear c0 c1 c2 c3 c4 p0 p1 p2 p3 p4 p5; clear f1 f4; have P3 := P2.keep g3 hnp; have hD3 := hD2.grown' g3 (fun _ x y e => by cases e; simp; exact fun e => hbg e); have G3 := grown_trans G2 g3; have hz3 : w.heap.size < w3.heap.size := P3.lt; obtain ⟨c0, c1, c2, c3, c4⟩ := J3.cells; obtain ⟨p0, p1, p2, p3, p4, p5⟩ := P3.cell; have f1 := BxS.free J3 1; have t2 : True := trivial)
    | (go_at_call 19; have _t := t2; clear t2; refine (countBehind_any ct q hq h0 h1 w3).mono ?_; rintro e wx ⟨rfl, hw⟩; have hw := hw.symm; subst hw; have J4 := J3.set1 q; have g4 := grown_set w3 g 1 (.int .i64 q); have P4 := P3.keep g4 hnp; have hD4 := hD3.grown' g4 (fun _ x y e => by cases e; simp; exact fun e => hbg e); generalize hw4 : w3.setCell ⟨g, 1, none⟩ (.int .i64 q) = w4 at J4 g4 P4 hD4; have G4 := grown_trans G3 g4; have hz4 : w.heap.size < w4.heap.size := P4.lt; have q0 := J4.cells; have q1 := P4.cell; obtain ⟨c0', c1', c2', c3', c4'⟩ := q0; obtain ⟨p0', p1', p2', p3', p4', p5'⟩ := q1; have t3 : True := trivial)
    | (go_at_call 25; have _t := t3; clear t3; refine (goOn_shut g ap q none 0 0 true _ m d w4 J4).mono ?_; rintro e w5 ⟨rfl, J5, g5⟩; clear c0' c1' c2' c3' c4' p0' p1' p2' p3' p4' p5'; have P5 := P4.keep g5 hnp; have G5 := grown_trans G4 g5; obtain ⟨c0', c1', c2', c3', c4'⟩ := J5.cells; obtain ⟨p0', p1', p2', p3', p4', p5'⟩ := P5.cell; have t4 : True := trivial)
    | (go_at_call 26; have _t := t4; clear t4; refine (finish_any g ap q false none 0 0 true w5 J5).mono ?_; rintro e w6 ⟨rfl, J6, g6⟩; have G6 := grown_trans G5 g6))
  go_ret
  exact ⟨rfl, J6, G6⟩
end Go.Proofs.Ytnnohgllnfmoeaa
