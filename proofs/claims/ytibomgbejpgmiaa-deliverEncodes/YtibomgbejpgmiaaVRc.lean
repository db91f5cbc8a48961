import Derived.Test.YtibomgbejpgmiaaVRd
namespace Go.Proofs.Ytibomgbejpgmiaa
open Go.RowKit
set_option maxRecDepth 100000
set_option linter.unusedVariables false
set_option linter.unusedSimpArgs false

set_option maxHeartbeats 16000000 in
theorem rbytes_any (kd id : Nat) (nm : ByteArray) (si su at' : Nat) (a : Option Addr) (n cap : Nat) (q : Option Addr) (m cq : Nat) (o co : Nat) (D : List Nat) (F : Nat → Int × Int) (w : World) (hD : Rd w a n cap D) (hG : RdG w q m cq F) (hm : ntB kd id nm.size si su at' n m o co (alG F 65536 m) = true)
    (MAY : ∀ wz, w.grownBy wz none → Calls Try.prog 47 #[.agg (ntA kd id nm si su at' (.slice a n cap) (.slice q m cq) o co)] wz fun e w' => e = .returned (.bool true) ∧ wz.grownBy w' none) :
    Calls Try.prog 12 #[.agg (ntA kd id nm si su at' (.slice a n cap) (.slice q m cq) o co)] w fun e w' => ∃ a' l' c', e = .returned (.tuple #[.slice a' l' c', .int .i64 0]) ∧ Ans w' w.heap.size a' l' c' (ntL kd id nm si su at' D F m o co) ∧ w.grownBy w' none := by
  have hp : (id ≤ 65535 ∧ nm.size ≤ 32 ∧ n ≤ 1024 ∧ m ≤ 20 ∧ si ≤ 65536 ∧ su ≤ 4294967295 ∧ at' ≤ 65536 ∧ o ≤ 5 ∧ co ≤ 9) ∧ (1 ≤ kd ∧ kd ≤ 6) := by
    unfold ntB ptB brB at hm
    simp only [Bool.and_eq_true, decide_eq_true_eq] at hm
    obtain ⟨⟨h1, h2⟩, h3⟩ := hm
    have h1 := kwB_ok h1
    omega
  obtain ⟨⟨p1, p2, p3, p4, p5, p6, p7, p8, p9⟩, k1, k2⟩ := hp
  obtain ⟨q0, q1, q2⟩ := beB2 id p1
  by_cases e1 : kd = 1
  case pos =>
    subst e1
    have hA0 := fun wz => ans_new wz (beL 1 1 ++ beL 2 id) (isB_append (beL_isB _ _) (beL_isB _ _)) (by simp [beL_len])
    have HL : Hid (beL 1 1 ++ beL 2 id = [1, beB 2 id 0, beB 2 id 1]) := rfl
    simp only [HL.out, List.length_cons, List.length_nil, Nat.reduceAdd] at hA0
    have hA1 : ∀ wz : World, Ans (wz.alloc (.cells #[.int .u8 1, .int .u8 (beB 2 id 0 : Nat), .int .u8 (beB 2 id 1 : Nat)] 5)) wz.heap.size (some ⟨wz.heap.size, 0, none⟩) 3 3 [1, beB 2 id 0, beB 2 id 1] := hA0
    clear hA0
    generalize beB 2 id 0 = y0 at *
    generalize beB 2 id 1 = y1 at *
    have bx := BxS.new w 27 #[.int .i64 1, .int .i64 id, .string nm, .int .i64 si, .int .i64 su, .int .i64 at', .slice a n cap, .slice q m cq, .int .i64 o, .int .i64 co]
    have g0 := World.grownBy_alloc w (.cells #[.int .i64 1, .int .i64 id, .string nm, .int .i64 si, .int .i64 su, .int .i64 at', .slice a n cap, .slice q m cq, .int .i64 o, .int .i64 co] 27) none
    unfold ntA at MAY ⊢
    generalize hw0 : w.alloc (.cells #[.int .i64 1, .int .i64 id, .string nm, .int .i64 si, .int .i64 su, .int .i64 at', .slice a n cap, .slice q m cq, .int .i64 o, .int .i64 co] 27) = w0 at bx g0
    obtain ⟨d0, d1, d2, d3, d4, d5, d6, d7, d8, d9⟩ := bx.cell10
    go_enter Try.func12, Try.ntmps12
    go_wp2_with (first
      | (go_at_call 47; refine (MAY _ g0).mono ?_; rintro e w1 ⟨rfl, g1⟩; clear d0 d1 d2 d3 d4 d5 d6 d7 d8 d9; have gB := World.grownBy_alloc w1 (.cells #[.int .u8 1, .int .u8 (y0 : Nat), .int .u8 (y1 : Nat)] 5) none; have bx1 := bx.keep g1 (by simp); obtain ⟨d0, d1, d2, d3, d4, d5, d6, d7, d8, d9⟩ := bx1.cell10; obtain ⟨z0, z1, z2, z3, z4, z5, z6, z7, z8, z9⟩ := (bx1.keep gB (by simp)).cell10))
    have A1 := hA1 w1
    have gV := grown_trans (grown_trans g0 g1) gB
    have bV := bx1.keep gB (by simp)
    have hz1 : w.heap.size < w1.heap.size := bx1.lt
    have hs1 : w1.heap.size ≤ (w1.alloc (.cells #[.int .u8 1, .int .u8 (y0 : Nat), .int .u8 (y1 : Nat)] 5)).heap.size := by simp
    clear d0 d1 d2 d3 d4 d5 d6 d7 d8 d9 hA1 gB bx bx1 MAY
    generalize hv1 : w1.alloc (.cells #[.int .u8 1, .int .u8 (y0 : Nat), .int .u8 (y1 : Nat)] 5) = v1 at *
    clear hv1 hw0
    have t3 : True := trivial
    go_region_law (first
      | (go_simp; go_at_call 48; have _t := t3; clear t3; refine (four_any si v1.drew).mono ?_; rintro e w3 ⟨rfl, A3, g3⟩; have k3 : (v1).grownBy w3 none := grown_trans (grown_drew v1 none) g3; have b3 := bV.keep k3 (by simp); obtain ⟨x0, x1, x2, x3, x4, x5, x6, x7, x8, x9⟩ := b3.cell10; have t4 : True := trivial)
      | (have _t := t4; clear t4; refine step_joinP rfl (.tmp 24) (.tmp 27) rfl (some ⟨w1.heap.size, 0, none⟩) 3 3 w1.heap.size _ rfl (A1.keep k3) (Nat.le_trans hs1 k3.size) ⟨v1.heap.size, 0, none⟩ 4 4 _ rfl A3.rd (by decide) (by decide) ?_; intro a4 c4 w4 A4 g4; have hl4 := Nat.le_trans (Nat.le_trans hs1 k3.size) g4.size; have b4 := b3.keep g4 (ne_up hz1); obtain ⟨u0, u1, u2, u3, u4, u5, u6, u7, u8, u9⟩ := b4.cell10; have t5 : True := trivial)
      | (have _t := t5; clear t5; refine step_joinS rfl (.tmp 28) (.tmp 30) rfl a4 7 c4 w1.heap.size _ rfl A4 hl4 nm rfl (by omega) ?_; intro a5 c5 w5 A5 g5))
    all_goals (try go_simp)
    all_goals go_wp2
    all_goals
      have G4 : w.grownBy w4 none := grown_far (grown_trans gV k3) g4 (fun y hy => by have e : w1.heap.size = y := Option.some.inj hy; omega)
      have G5 : w.grownBy w5 none := grown_far G4 g5 (fun y hy => by have := A4.new y hy; omega)
      go_ret2
      refine ⟨a5, _, c5, rfl, (A5.lower (Nat.le_of_lt hz1)).as ?_, G5⟩
      unfold ntL ntT
      rw [HL.out]
      simp
  by_cases e2 : kd = 2
  case pos =>
    subst e2
    have hn0 : 0 < n := by
      unfold ntB ptB at hm
      simp only [Bool.and_eq_true, decide_eq_true_eq] at hm
      omega
    obtain ⟨bD, oD, rfl, hbD, _⟩ := hD.at' hn0
    have hA0 := fun wz => ans_new wz (beL 1 2 ++ beL 2 id) (isB_append (beL_isB _ _) (beL_isB _ _)) (by simp [beL_len])
    have HL : Hid (beL 1 2 ++ beL 2 id = [2, beB 2 id 0, beB 2 id 1]) := rfl
    simp only [HL.out, List.length_cons, List.length_nil, Nat.reduceAdd] at hA0
    have hA1 : ∀ wz : World, Ans (wz.alloc (.cells #[.int .u8 2, .int .u8 (beB 2 id 0 : Nat), .int .u8 (beB 2 id 1 : Nat)] 5)) wz.heap.size (some ⟨wz.heap.size, 0, none⟩) 3 3 [2, beB 2 id 0, beB 2 id 1] := hA0
    clear hA0
    generalize beB 2 id 0 = y0 at *
    generalize beB 2 id 1 = y1 at *
    have bx := BxS.new w 27 #[.int .i64 2, .int .i64 id, .string nm, .int .i64 si, .int .i64 su, .int .i64 at', .slice (some ⟨bD, oD, none⟩) n cap, .slice q m cq, .int .i64 o, .int .i64 co]
    have g0 := World.grownBy_alloc w (.cells #[.int .i64 2, .int .i64 id, .string nm, .int .i64 si, .int .i64 su, .int .i64 at', .slice (some ⟨bD, oD, none⟩) n cap, .slice q m cq, .int .i64 o, .int .i64 co] 27) none
    unfold ntA at MAY ⊢
    generalize hw0 : w.alloc (.cells #[.int .i64 2, .int .i64 id, .string nm, .int .i64 si, .int .i64 su, .int .i64 at', .slice (some ⟨bD, oD, none⟩) n cap, .slice q m cq, .int .i64 o, .int .i64 co] 27) = w0 at bx g0
    obtain ⟨d0, d1, d2, d3, d4, d5, d6, d7, d8, d9⟩ := bx.cell10
    go_enter Try.func12, Try.ntmps12
    go_wp2_with (first
      | (go_at_call 47; refine (MAY _ g0).mono ?_; rintro e w1 ⟨rfl, g1⟩; clear d0 d1 d2 d3 d4 d5 d6 d7 d8 d9; have gB := World.grownBy_alloc w1 (.cells #[.int .u8 2, .int .u8 (y0 : Nat), .int .u8 (y1 : Nat)] 5) none; have bx1 := bx.keep g1 (by simp); obtain ⟨d0, d1, d2, d3, d4, d5, d6, d7, d8, d9⟩ := bx1.cell10; obtain ⟨z0, z1, z2, z3, z4, z5, z6, z7, z8, z9⟩ := (bx1.keep gB (by simp)).cell10))
    have A1 := hA1 w1
    have gV := grown_trans (grown_trans g0 g1) gB
    have bV := bx1.keep gB (by simp)
    have hz1 : w.heap.size < w1.heap.size := bx1.lt
    have hs1 : w1.heap.size ≤ (w1.alloc (.cells #[.int .u8 2, .int .u8 (y0 : Nat), .int .u8 (y1 : Nat)] 5)).heap.size := by simp
    clear d0 d1 d2 d3 d4 d5 d6 d7 d8 d9 hA1 gB bx bx1 MAY
    generalize hv1 : w1.alloc (.cells #[.int .u8 2, .int .u8 (y0 : Nat), .int .u8 (y1 : Nat)] 5) = v1 at *
    clear hv1 hw0
    have t3 : True := trivial
    go_region_law (first
      | (go_simp; go_at_call 48; have _t := t3; clear t3; refine (four_any at' v1.drew).mono ?_; rintro e w3 ⟨rfl, A3, g3⟩; have k3 : (v1).grownBy w3 none := grown_trans (grown_drew v1 none) g3; have b3 := bV.keep k3 (by simp); obtain ⟨x0, x1, x2, x3, x4, x5, x6, x7, x8, x9⟩ := b3.cell10; have t4 : True := trivial)
      | (have _t := t4; clear t4; refine step_joinP rfl (.tmp 34) (.tmp 37) rfl (some ⟨w1.heap.size, 0, none⟩) 3 3 w1.heap.size _ rfl (A1.keep k3) (Nat.le_trans hs1 k3.size) ⟨v1.heap.size, 0, none⟩ 4 4 _ rfl A3.rd (by decide) (by decide) ?_; intro a4 c4 w4 A4 g4; have hl4 := Nat.le_trans (Nat.le_trans hs1 k3.size) g4.size; have b4 := b3.keep g4 (ne_up hz1); obtain ⟨u0, u1, u2, u3, u4, u5, u6, u7, u8, u9⟩ := b4.cell10; have t5 : True := trivial)
      | (have _t := t5; clear t5; refine step_joinP rfl (.tmp 38) (.tmp 40) rfl a4 7 c4 w1.heap.size _ rfl A4 hl4 ⟨bD, oD, none⟩ n cap D rfl ((hD.keep (grown_trans gV k3)).grown g4 (fun b off e => by cases e; exact ne_up (Nat.lt_trans hbD hz1))) (by omega) (by omega) ?_; intro a5 c5 w5 A5 g5))
    all_goals (try go_simp)
    all_goals go_wp2
    all_goals
      have G4 : w.grownBy w4 none := grown_far (grown_trans gV k3) g4 (fun y hy => by have e : w1.heap.size = y := Option.some.inj hy; omega)
      have G5 : w.grownBy w5 none := grown_far G4 g5 (fun y hy => by have := A4.new y hy; omega)
      go_ret2
      refine ⟨a5, _, c5, rfl, (A5.lower (Nat.le_of_lt hz1)).as ?_, G5⟩
      unfold ntL ntT
      rw [HL.out]
      simp
  by_cases e3 : kd = 3
  case pos =>
    subst e3
    have hA0 := fun wz => ans_new wz (beL 1 3 ++ beL 2 id) (isB_append (beL_isB _ _) (beL_isB _ _)) (by simp [beL_len])
    have HL : Hid (beL 1 3 ++ beL 2 id = [3, beB 2 id 0, beB 2 id 1]) := rfl
    simp only [HL.out, List.length_cons, List.length_nil, Nat.reduceAdd] at hA0
    have hA1 : ∀ wz : World, Ans (wz.alloc (.cells #[.int .u8 3, .int .u8 (beB 2 id 0 : Nat), .int .u8 (beB 2 id 1 : Nat)] 5)) wz.heap.size (some ⟨wz.heap.size, 0, none⟩) 3 3 [3, beB 2 id 0, beB 2 id 1] := hA0
    clear hA0
    generalize beB 2 id 0 = y0 at *
    generalize beB 2 id 1 = y1 at *
    have bx := BxS.new w 27 #[.int .i64 3, .int .i64 id, .string nm, .int .i64 si, .int .i64 su, .int .i64 at', .slice a n cap, .slice q m cq, .int .i64 o, .int .i64 co]
    have g0 := World.grownBy_alloc w (.cells #[.int .i64 3, .int .i64 id, .string nm, .int .i64 si, .int .i64 su, .int .i64 at', .slice a n cap, .slice q m cq, .int .i64 o, .int .i64 co] 27) none
    unfold ntA at MAY ⊢
    generalize hw0 : w.alloc (.cells #[.int .i64 3, .int .i64 id, .string nm, .int .i64 si, .int .i64 su, .int .i64 at', .slice a n cap, .slice q m cq, .int .i64 o, .int .i64 co] 27) = w0 at bx g0
    obtain ⟨d0, d1, d2, d3, d4, d5, d6, d7, d8, d9⟩ := bx.cell10
    go_enter Try.func12, Try.ntmps12
    go_wp2_with (first
      | (go_at_call 47; refine (MAY _ g0).mono ?_; rintro e w1 ⟨rfl, g1⟩; clear d0 d1 d2 d3 d4 d5 d6 d7 d8 d9; have gB := World.grownBy_alloc w1 (.cells #[.int .u8 3, .int .u8 (y0 : Nat), .int .u8 (y1 : Nat)] 5) none; have bx1 := bx.keep g1 (by simp); obtain ⟨d0, d1, d2, d3, d4, d5, d6, d7, d8, d9⟩ := bx1.cell10; obtain ⟨z0, z1, z2, z3, z4, z5, z6, z7, z8, z9⟩ := (bx1.keep gB (by simp)).cell10))
    have A1 := hA1 w1
    have gV := grown_trans (grown_trans g0 g1) gB
    have bV := bx1.keep gB (by simp)
    have hz1 : w.heap.size < w1.heap.size := bx1.lt
    have hs1 : w1.heap.size ≤ (w1.alloc (.cells #[.int .u8 3, .int .u8 (y0 : Nat), .int .u8 (y1 : Nat)] 5)).heap.size := by simp
    clear d0 d1 d2 d3 d4 d5 d6 d7 d8 d9 hA1 gB bx bx1 MAY
    generalize hv1 : w1.alloc (.cells #[.int .u8 3, .int .u8 (y0 : Nat), .int .u8 (y1 : Nat)] 5) = v1 at *
    clear hv1 hw0
    have t3 : True := trivial
    go_region_law (first
      | (go_simp; go_at_call 48; have _t := t3; clear t3; refine (four_any si v1.drew).mono ?_; rintro e w3 ⟨rfl, A3, g3⟩; have k3 : (v1).grownBy w3 none := grown_trans (grown_drew v1 none) g3; have b3 := bV.keep k3 (by simp); obtain ⟨x0, x1, x2, x3, x4, x5, x6, x7, x8, x9⟩ := b3.cell10; have t4 : True := trivial)
      | (have _t := t4; clear t4; refine step_joinP rfl (.tmp 44) (.tmp 47) rfl (some ⟨w1.heap.size, 0, none⟩) 3 3 w1.heap.size _ rfl (A1.keep k3) (Nat.le_trans hs1 k3.size) ⟨v1.heap.size, 0, none⟩ 4 4 _ rfl A3.rd (by decide) (by decide) ?_; intro a4 c4 w4 A4 g4; have hl4 := Nat.le_trans (Nat.le_trans hs1 k3.size) g4.size; have b4 := b3.keep g4 (ne_up hz1); obtain ⟨u0, u1, u2, u3, u4, u5, u6, u7, u8, u9⟩ := b4.cell10; have t5 : True := trivial)
      | (go_simp; go_at_call 48; have _t := t5; clear t5; refine (four_any su w4).mono ?_; rintro e w5 ⟨rfl, A5, g5⟩; have t6 : True := trivial)
      | (have _t := t6; clear t6; refine step_joinP rfl (.tmp 48) (.tmp 51) rfl a4 7 c4 w1.heap.size _ rfl (A4.keep g5) (Nat.le_trans hl4 g5.size) ⟨w4.heap.size, 0, none⟩ 4 4 _ rfl A5.rd (by decide) (by decide) ?_; intro a6 c6 w6 A6 g6))
    all_goals (try go_simp)
    all_goals go_wp2
    all_goals
      have G4 : w.grownBy w4 none := grown_far (grown_trans gV k3) g4 (fun y hy => by have e : w1.heap.size = y := Option.some.inj hy; omega)
      have G6 : w.grownBy w6 none := grown_far (grown_trans G4 g5) g6 (fun y hy => by have := A4.new y hy; omega)
      go_ret2
      refine ⟨a6, _, c6, rfl, (A6.lower (Nat.le_of_lt hz1)).as ?_, G6⟩
      unfold ntL ntT
      rw [HL.out]
      simp
  by_cases e4 : kd = 4
  case pos =>
    subst e4
    exact rbytes_4 id nm si su at' a n cap q m cq o co D F w hD hG hm MAY
  by_cases e5 : kd = 5
  case pos =>
    subst e5
    have hA0 := fun wz => ans_new wz (beL 1 5 ++ beL 2 id) (isB_append (beL_isB _ _) (beL_isB _ _)) (by simp [beL_len])
    have HL : Hid (beL 1 5 ++ beL 2 id = [5, beB 2 id 0, beB 2 id 1]) := rfl
    simp only [HL.out, List.length_cons, List.length_nil, Nat.reduceAdd] at hA0
    have hA1 : ∀ wz : World, Ans (wz.alloc (.cells #[.int .u8 5, .int .u8 (beB 2 id 0 : Nat), .int .u8 (beB 2 id 1 : Nat)] 5)) wz.heap.size (some ⟨wz.heap.size, 0, none⟩) 3 3 [5, beB 2 id 0, beB 2 id 1] := hA0
    clear hA0
    generalize beB 2 id 0 = y0 at *
    generalize beB 2 id 1 = y1 at *
    have HX5 : Hid (beB 1 co 0 = co) := (show beB 1 co 0 = co by unfold beB; simp; omega)
    have hR5 : ∀ wz : World, Rd ((wz.alloc (.cells #[.int .u8 5, .int .u8 (y0 : Nat), .int .u8 (y1 : Nat)] 5)).alloc (.cells #[.int .u8 (co : Nat)] 5)) (some ⟨wz.heap.size + 1, 0, none⟩) 1 1 [co] := fun wz => by
      have h := (ans_new (wz.alloc (.cells #[.int .u8 5, .int .u8 (y0 : Nat), .int .u8 (y1 : Nat)] 5)) [co] (fun z hz => by simp at hz; subst hz; omega) (by simp)).rd
      rw [World.size_alloc] at h
      exact h
    have bx := BxS.new w 27 #[.int .i64 5, .int .i64 id, .string nm, .int .i64 si, .int .i64 su, .int .i64 at', .slice a n cap, .slice q m cq, .int .i64 o, .int .i64 co]
    have g0 := World.grownBy_alloc w (.cells #[.int .i64 5, .int .i64 id, .string nm, .int .i64 si, .int .i64 su, .int .i64 at', .slice a n cap, .slice q m cq, .int .i64 o, .int .i64 co] 27) none
    unfold ntA at MAY ⊢
    generalize hw0 : w.alloc (.cells #[.int .i64 5, .int .i64 id, .string nm, .int .i64 si, .int .i64 su, .int .i64 at', .slice a n cap, .slice q m cq, .int .i64 o, .int .i64 co] 27) = w0 at bx g0
    obtain ⟨d0, d1, d2, d3, d4, d5, d6, d7, d8, d9⟩ := bx.cell10
    go_enter Try.func12, Try.ntmps12
    go_wp2_with (first
      | (go_at_call 47; refine (MAY _ g0).mono ?_; rintro e w1 ⟨rfl, g1⟩; clear d0 d1 d2 d3 d4 d5 d6 d7 d8 d9; have gB := World.grownBy_alloc w1 (.cells #[.int .u8 5, .int .u8 (y0 : Nat), .int .u8 (y1 : Nat)] 5) none; have bx1 := bx.keep g1 (by simp); obtain ⟨d0, d1, d2, d3, d4, d5, d6, d7, d8, d9⟩ := bx1.cell10; obtain ⟨z0, z1, z2, z3, z4, z5, z6, z7, z8, z9⟩ := (bx1.keep gB (by simp)).cell10)
      | (at_builtin; refine wpList_joinZ rfl _ _ rfl (some ⟨w1.heap.size, 0, none⟩) 3 3 w1.heap.size [5, y0, y1] rfl ((hA1 w1).keep (World.grownBy_alloc _ _ none)) (by simp; omega) (some ⟨w1.heap.size + 1, 0, none⟩) 1 1 [co] rfl (hR5 w1) (by decide) ?_; intro a5 c5 w5 A5 g5))
    have gV := grown_trans (grown_trans (grown_trans g0 g1) gB) (World.grownBy_alloc _ (.cells #[.int .u8 (co : Nat)] 5) none)
    have hz1 : w.heap.size < w1.heap.size := bx1.lt
    have G5 : w.grownBy w5 none := grown_far gV g5 (fun y hy => by have e : w1.heap.size = y := Option.some.inj hy; omega)
    go_ret2
    refine ⟨a5, _, c5, rfl, (A5.lower (Nat.le_of_lt hz1)).as ?_, G5⟩
    unfold ntL ntT
    rw [HL.out]
    simp [beL1, HX5.out]
  by_cases e6 : kd = 6
  case pos =>
    subst e6
    have hA0 := fun wz => ans_new wz (beL 1 6 ++ beL 2 id) (isB_append (beL_isB _ _) (beL_isB _ _)) (by simp [beL_len])
    have HL : Hid (beL 1 6 ++ beL 2 id = [6, beB 2 id 0, beB 2 id 1]) := rfl
    simp only [HL.out, List.length_cons, List.length_nil, Nat.reduceAdd] at hA0
    have hA1 : ∀ wz : World, Ans (wz.alloc (.cells #[.int .u8 6, .int .u8 (beB 2 id 0 : Nat), .int .u8 (beB 2 id 1 : Nat)] 5)) wz.heap.size (some ⟨wz.heap.size, 0, none⟩) 3 3 [6, beB 2 id 0, beB 2 id 1] := hA0
    clear hA0
    generalize beB 2 id 0 = y0 at *
    generalize beB 2 id 1 = y1 at *
    have HX5 : Hid (beB 1 o 0 = o) := (show beB 1 o 0 = o by unfold beB; simp; omega)
    have hR5 : ∀ wz : World, Rd ((wz.alloc (.cells #[.int .u8 6, .int .u8 (y0 : Nat), .int .u8 (y1 : Nat)] 5)).alloc (.cells #[.int .u8 (o : Nat)] 5)) (some ⟨wz.heap.size + 1, 0, none⟩) 1 1 [o] := fun wz => by
      have h := (ans_new (wz.alloc (.cells #[.int .u8 6, .int .u8 (y0 : Nat), .int .u8 (y1 : Nat)] 5)) [o] (fun z hz => by simp at hz; subst hz; omega) (by simp)).rd
      rw [World.size_alloc] at h
      exact h
    have bx := BxS.new w 27 #[.int .i64 6, .int .i64 id, .string nm, .int .i64 si, .int .i64 su, .int .i64 at', .slice a n cap, .slice q m cq, .int .i64 o, .int .i64 co]
    have g0 := World.grownBy_alloc w (.cells #[.int .i64 6, .int .i64 id, .string nm, .int .i64 si, .int .i64 su, .int .i64 at', .slice a n cap, .slice q m cq, .int .i64 o, .int .i64 co] 27) none
    unfold ntA at MAY ⊢
    generalize hw0 : w.alloc (.cells #[.int .i64 6, .int .i64 id, .string nm, .int .i64 si, .int .i64 su, .int .i64 at', .slice a n cap, .slice q m cq, .int .i64 o, .int .i64 co] 27) = w0 at bx g0
    obtain ⟨d0, d1, d2, d3, d4, d5, d6, d7, d8, d9⟩ := bx.cell10
    go_enter Try.func12, Try.ntmps12
    go_wp2_with (first
      | (go_at_call 47; refine (MAY _ g0).mono ?_; rintro e w1 ⟨rfl, g1⟩; clear d0 d1 d2 d3 d4 d5 d6 d7 d8 d9; have gB := World.grownBy_alloc w1 (.cells #[.int .u8 6, .int .u8 (y0 : Nat), .int .u8 (y1 : Nat)] 5) none; have bx1 := bx.keep g1 (by simp); obtain ⟨d0, d1, d2, d3, d4, d5, d6, d7, d8, d9⟩ := bx1.cell10; obtain ⟨z0, z1, z2, z3, z4, z5, z6, z7, z8, z9⟩ := (bx1.keep gB (by simp)).cell10)
      | (at_builtin; refine wpList_joinZ rfl _ _ rfl (some ⟨w1.heap.size, 0, none⟩) 3 3 w1.heap.size [6, y0, y1] rfl ((hA1 w1).keep (World.grownBy_alloc _ _ none)) (by simp; omega) (some ⟨w1.heap.size + 1, 0, none⟩) 1 1 [o] rfl (hR5 w1) (by decide) ?_; intro a5 c5 w5 A5 g5))
    have gV := grown_trans (grown_trans (grown_trans g0 g1) gB) (World.grownBy_alloc _ (.cells #[.int .u8 (o : Nat)] 5) none)
    have hz1 : w.heap.size < w1.heap.size := bx1.lt
    have G5 : w.grownBy w5 none := grown_far gV g5 (fun y hy => by have e : w1.heap.size = y := Option.some.inj hy; omega)
    go_ret2
    refine ⟨a5, _, c5, rfl, (A5.lower (Nat.le_of_lt hz1)).as ?_, G5⟩
    unfold ntL ntT
    rw [HL.out]
    simp [beL1, HX5.out]
  omega
end Go.Proofs.Ytibomgbejpgmiaa
