import Derived.Test.YtmcadmndmafogaaPSjn
import Derived.Test.YtmcadmndmafogaaPDcL
import Derived.Test.YtmcadmndmafogaaPJoR
import Derived.Deep.DeepCutAuto
namespace Go.Proofs.Ytmcadmndmafogaa
open Go.RowKit
set_option maxRecDepth 100000
set_option linter.unusedVariables false
set_option linter.unusedSimpArgs false

/-- what both answer, whatever comes -/
theorem jn_uni (aj nx : Int) (op : Bool) (U : List Nat) (ap pt ct : Int) (D : List Nat) : ∃ (rA rN : Int) (rO rL : Bool) (rR rU : List Nat) (rE : Int), rR.length ≤ 1048576 ∧ rU.length ≤ 1048576 ∧
    (∀ wz w' e, JnA wz w' aj nx op U ap pt ct D e → ∃ a1 n1 c1 a2 n2 c2, e = .returned (.tuple #[.agg #[.int .i64 rA, .int .i64 rN, .bool rO, .slice a1 n1 c1], .slice a2 n2 c2, .bool rL, .int .i64 rE]) ∧ Ans w' wz.heap.size a1 n1 c1 rR ∧ Ans w' wz.heap.size a2 n2 c2 rU ∧ wz.grownBy w' none) ∧
    (∀ wz w' e, JnB wz w' aj nx op U ap pt ct D e → ∃ a1 n1 c1 a2 n2 c2, (a1 = none ∨ a2 = none) ∧ e = .returned (.tuple #[.agg #[.int .i64 rA, .int .i64 rN, .bool rO, .slice a1 n1 c1], .slice a2 n2 c2, .bool rL, .int .i64 rE]) ∧ Ans w' wz.heap.size a1 n1 c1 rR ∧ Ans w' wz.heap.size a2 n2 c2 rU ∧ wz.grownBy w' none) := by
  by_cases h : jnE aj nx op U.length ap pt ct D.length = 0
  · have hm : mayE ap pt ct D.length = 0 := by
      unfold jnE at h
      split at h
      · omega
      · split at h
        · omega
        · omega
    have hD := (mayE_ok hm).2.2
    refine ⟨aj, (ct + 1) % 16384, jOp nx op U pt ct D, jLo nx op U pt ct D, jRe nx op U pt ct D, jUn nx op U pt ct D, 0, ?_, ?_, ?_, ?_⟩
    · unfold jRe
      split
      · omega
      · split
        · rename_i k; rw [List.length_append]; exact k.2.2.2
        · simp
    · unfold jUn
      split
      · omega
      · split
        · rename_i k; rw [List.length_append]; exact k.2.2.2
        · simp
    · rintro wz w' e ⟨a1, n1, c1, a2, n2, c2, (⟨_, rfl, h1, h2⟩ | ⟨hn, _⟩), hg⟩
      · exact ⟨a1, n1, c1, a2, n2, c2, rfl, h1, h2, hg⟩
      · exact absurd h hn
    · rintro wz w' e ⟨a1, n1, c1, a2, n2, c2, h0, (⟨_, rfl, h1, h2⟩ | ⟨hn, _⟩), hg⟩
      · exact ⟨a1, n1, c1, a2, n2, c2, h0, rfl, h1, h2, hg⟩
      · exact absurd h hn
  · refine ⟨0, 0, false, false, [], [], (jnE aj nx op U.length ap pt ct D.length : Nat), by simp, by simp, ?_, ?_⟩
    · rintro wz w' e ⟨a1, n1, c1, a2, n2, c2, (⟨hn, _⟩ | ⟨_, rfl, _⟩), hg⟩
      · exact absurd hn h
      · exact ⟨none, 0, 0, none, 0, 0, rfl, ans_nil _ _, ans_nil _ _, hg⟩
    · rintro wz w' e ⟨a1, n1, c1, a2, n2, c2, h0, (⟨hn, _⟩ | ⟨_, rfl, _⟩), hg⟩
      · exact absurd hn h
      · exact ⟨none, 0, 0, none, 0, 0, .inl rfl, rfl, ans_nil _ _, ans_nil _ _, hg⟩
theorem two_jp (w : World) (aj nx : Int) (op : Bool) (a : Option Addr) (n c : Nat) (up se : Bool) (ap pt ct : Int) (b : Option Addr) (m d : Nat) :
    BxJ ((w.alloc (.cells #[.int .i64 aj, .int .i64 nx, .bool op, .slice a n c] 44)).alloc (.cells #[.bool up, .bool se, .int .i64 ap, .int .i64 pt, .int .i64 ct, .slice b m d] 25)).drew w.heap.size aj nx op a n c ∧ BxP ((w.alloc (.cells #[.int .i64 aj, .int .i64 nx, .bool op, .slice a n c] 44)).alloc (.cells #[.bool up, .bool se, .int .i64 ap, .int .i64 pt, .int .i64 ct, .slice b m d] 25)).drew (w.heap.size + 1) up se ap pt ct b m d ∧ w.grownBy ((w.alloc (.cells #[.int .i64 aj, .int .i64 nx, .bool op, .slice a n c] 44)).alloc (.cells #[.bool up, .bool se, .int .i64 ap, .int .i64 pt, .int .i64 ct, .slice b m d] 25)).drew none := by
  refine ⟨(BxJ.new w aj nx op a n c).keep (grown_trans (World.grownBy_alloc _ _ none) (grown_drew _ _)) (by simp), ?_, grown_trans (World.grownBy_alloc _ _ _) (grown_trans (World.grownBy_alloc _ _ _) (grown_drew _ _))⟩
  have h := (BxP.new (w.alloc (.cells #[.int .i64 aj, .int .i64 nx, .bool op, .slice a n c] 44)) up se ap pt ct b m d).keep (grown_drew _ none) (by simp)
  simpa using h
theorem two_pj (w : World) (aj nx : Int) (op : Bool) (a : Option Addr) (n c : Nat) (up se : Bool) (ap pt ct : Int) (b : Option Addr) (m d : Nat) :
    BxJ ((w.alloc (.cells #[.bool up, .bool se, .int .i64 ap, .int .i64 pt, .int .i64 ct, .slice b m d] 25)).alloc (.cells #[.int .i64 aj, .int .i64 nx, .bool op, .slice a n c] 44)).drew (w.heap.size + 1) aj nx op a n c ∧ BxP ((w.alloc (.cells #[.bool up, .bool se, .int .i64 ap, .int .i64 pt, .int .i64 ct, .slice b m d] 25)).alloc (.cells #[.int .i64 aj, .int .i64 nx, .bool op, .slice a n c] 44)).drew w.heap.size up se ap pt ct b m d ∧ w.grownBy ((w.alloc (.cells #[.bool up, .bool se, .int .i64 ap, .int .i64 pt, .int .i64 ct, .slice b m d] 25)).alloc (.cells #[.int .i64 aj, .int .i64 nx, .bool op, .slice a n c] 44)).drew none := by
  refine ⟨?_, (BxP.new w up se ap pt ct b m d).keep (grown_trans (World.grownBy_alloc _ _ none) (grown_drew _ _)) (by simp), grown_trans (World.grownBy_alloc _ _ _) (grown_trans (World.grownBy_alloc _ _ _) (grown_drew _ _))⟩
  have h := (BxJ.new (w.alloc (.cells #[.bool up, .bool se, .int .i64 ap, .int .i64 pt, .int .i64 ct, .slice b m d] 25)) aj nx op a n c).keep (grown_drew _ none) (by simp)
  simpa using h
theorem hdist2 {w : World} {lo h b off : Nat} {a : Option Addr} {n cap m c : Nat} {L : List Nat} (hA : Ans w lo a n cap L) (hlo : w.heap.size ≤ h) (e : a = some ⟨b, off, none⟩) : some b ≠ (Value.slice (some ⟨h, 0, none⟩) m c).ownBlock := by
  rcases hA.cases with ⟨rfl, _, _⟩ | ⟨x, rfl, _, hx⟩
  · cases e
  · cases e
    simp only [Value.ownBlock, ne_eq, Option.some.injEq]; omega
theorem kept_nil {w w' : World} {lo : Nat} {a b : Option Addr} {n c m d : Nat} {L : List Nat} (h : Ans w lo b m d L) (hg : w.grownBy w' (Value.slice a n c).ownBlock) (hn : a = none ∨ b = none) : Ans w' lo b m d L := by
  refine h.kept hg ?_
  rcases hn with rfl | rfl
  · cases (Value.slice b m d).ownBlock with
    | none => exact .inl rfl
    | some x => exact .inr (by simp [Value.ownBlock])
  · exact .inl rfl
set_option maxHeartbeats 8000000 in
theorem pjoin_walk (aj nx : Int) (op : Bool) (a : Option Addr) (n c : Nat) (up se : Bool) (ap pt ct : Int) (b : Option Addr) (m d : Nat) (U D : List Nat) (w : World) (hU : Rd w a n c U) (hD : Rd w b m d D) (hn : n ≤ 140737488351232) (hm : m ≤ 140737488351232) :
    Calls Try.prog 6 #[jnV aj nx op a n c, pkV up se ap pt ct b m d] w fun e w' => e = .returned (.bool true) ∧ Below w.heap.size w w' := by
  obtain ⟨rA, rN, rO, rL, rR, rU, rE, lR, lU, uA, uB⟩ := jn_uni aj nx op U ap pt ct D
  have hJ := fun wz h1 h2 => (joins_any aj nx op a n c up se ap pt ct b m d U D wz h1 h2).mono (fun e w' h => uA wz w' e h)
  have hK := fun (x y : Option Addr) (cx cy : Nat) wz (h1 : Rd wz x n cx U) (h2 : Rd wz y m cy D) => (join_any aj nx op x n cx up se ap pt ct y m cy U D wz h1 h2).mono (fun e w' h => uB wz w' e h)
  have hS := fun (x y : Option Addr) (nx' ny cx cy : Nat) wz ha hb => sameJoined_any rA rN rO x y nx' ny cx cy rR wz ha hb
  unfold jnV pkV at *
  have j0 := BxJ.new w aj nx op a n c
  have g0 := World.grownBy_alloc w (.cells #[.int .i64 aj, .int .i64 nx, .bool op, .slice a n c] 44) none
  generalize hw0 : w.alloc (.cells #[.int .i64 aj, .int .i64 nx, .bool op, .slice a n c] 44) = w0 at j0 g0
  have hz0 : w0.heap.size = w.heap.size + 1 := by rw [← hw0]; simp
  have p1 := BxP.new w0 up se ap pt ct b m d
  have g1 := World.grownBy_alloc w0 (.cells #[.bool up, .bool se, .int .i64 ap, .int .i64 pt, .int .i64 ct, .slice b m d] 25) none
  generalize hw1 : w0.alloc (.cells #[.bool up, .bool se, .int .i64 ap, .int .i64 pt, .int .i64 ct, .slice b m d] 25) = w1 at p1 g1
  rw [hz0] at p1
  have j1 := j0.keep g1 (by simp)
  have G1 := grown_trans g0 g1
  obtain ⟨c0, c1, c2, c3⟩ := j1.cell
  obtain ⟨q0, q1, q2, q3, q4, q5⟩ := p1.cell
  have t1 : True := trivial
  go_enter Try.func6, Try.ntmps6
  go_wp2_with (first
    | (go_at_call 23; have _t := t1; clear t1; refine (hJ w1 (hU.keep G1) (hD.keep G1)).mono ?_; rintro e w2 ⟨aw, nw, cw, au, nu, cu, rfl, hA2, hB2, g2⟩; have gA2 := World.grownBy_alloc w2 (.cells #[.int .i64 rA, .int .i64 rN, .bool rO, .slice aw nw cw] 44) none; have o3 := BxJ.new w2 rA rN rO aw nw cw))
  generalize hw3 : w2.alloc (.cells #[.int .i64 rA, .int .i64 rN, .bool rO, .slice aw nw cw] 44) = w3 at gA2 o3 ⊢
  clear hw3
  have h13 := grown_trans g2 gA2
  have j3 := j1.keep h13 (by simp)
  have p3 := p1.keep h13 (by simp)
  have G3 := grown_trans G1 h13
  have hA3 := hA2.keep gA2
  have hB3 := hB2.keep gA2
  clear c0 c1 c2 c3 q0 q1 q2 q3 q4 q5
  obtain ⟨c0, c1, c2, c3⟩ := j3.cell
  obtain ⟨q0, q1, q2, q3, q4, q5⟩ := p3.cell
  have hz1 : w.heap.size + 1 < w1.heap.size := p1.lt
  have hz3 : w2.heap.size < w3.heap.size := o3.lt
  have hz2 := g2.size
  go_cut [9, 10] (fun s9 s10 wx => ∃ g h, s9 = .pointer (some ⟨g, 0, none⟩) ∧ s10 = .pointer (some ⟨h, 0, none⟩) ∧ g ≠ h ∧ w3.heap.size ≤ g ∧ w3.heap.size ≤ h ∧ BxJ wx g aj nx op a n c ∧ BxP wx h up se ap pt ct b m d ∧ w3.grownBy wx none)
  case first =>
    have a0 : ∀ o, (w3.alloc o).cell? ⟨w.heap.size, 0, none⟩ = some (.int .i64 aj) := fun o => (j3.keep (World.grownBy_alloc w3 o none) (by simp)).cell.1
    have b0 : ∀ o o', ((w3.alloc o).alloc o').cell? ⟨w.heap.size, 0, none⟩ = some (.int .i64 aj) := fun o o' => (j3.keep (grown_trans (World.grownBy_alloc w3 o none) (World.grownBy_alloc _ o' none)) (by simp)).cell.1
    have a1 : ∀ o, (w3.alloc o).cell? ⟨w.heap.size, 1, none⟩ = some (.int .i64 nx) := fun o => (j3.keep (World.grownBy_alloc w3 o none) (by simp)).cell.2.1
    have b1 : ∀ o o', ((w3.alloc o).alloc o').cell? ⟨w.heap.size, 1, none⟩ = some (.int .i64 nx) := fun o o' => (j3.keep (grown_trans (World.grownBy_alloc w3 o none) (World.grownBy_alloc _ o' none)) (by simp)).cell.2.1
    have a2 : ∀ o, (w3.alloc o).cell? ⟨w.heap.size, 2, none⟩ = some (.bool op) := fun o => (j3.keep (World.grownBy_alloc w3 o none) (by simp)).cell.2.2.1
    have b2 : ∀ o o', ((w3.alloc o).alloc o').cell? ⟨w.heap.size, 2, none⟩ = some (.bool op) := fun o o' => (j3.keep (grown_trans (World.grownBy_alloc w3 o none) (World.grownBy_alloc _ o' none)) (by simp)).cell.2.2.1
    have a3 : ∀ o, (w3.alloc o).cell? ⟨w.heap.size, 3, none⟩ = some (.slice a n c) := fun o => (j3.keep (World.grownBy_alloc w3 o none) (by simp)).cell.2.2.2
    have b3 : ∀ o o', ((w3.alloc o).alloc o').cell? ⟨w.heap.size, 3, none⟩ = some (.slice a n c) := fun o o' => (j3.keep (grown_trans (World.grownBy_alloc w3 o none) (World.grownBy_alloc _ o' none)) (by simp)).cell.2.2.2
    have d0 : ∀ o, (w3.alloc o).cell? ⟨w.heap.size + 1, 0, none⟩ = some (.bool up) := fun o => (p3.keep (World.grownBy_alloc w3 o none) (by simp)).cell.1
    have e0 : ∀ o o', ((w3.alloc o).alloc o').cell? ⟨w.heap.size + 1, 0, none⟩ = some (.bool up) := fun o o' => (p3.keep (grown_trans (World.grownBy_alloc w3 o none) (World.grownBy_alloc _ o' none)) (by simp)).cell.1
    have d1 : ∀ o, (w3.alloc o).cell? ⟨w.heap.size + 1, 1, none⟩ = some (.bool se) := fun o => (p3.keep (World.grownBy_alloc w3 o none) (by simp)).cell.2.1
    have e1 : ∀ o o', ((w3.alloc o).alloc o').cell? ⟨w.heap.size + 1, 1, none⟩ = some (.bool se) := fun o o' => (p3.keep (grown_trans (World.grownBy_alloc w3 o none) (World.grownBy_alloc _ o' none)) (by simp)).cell.2.1
    have d2 : ∀ o, (w3.alloc o).cell? ⟨w.heap.size + 1, 2, none⟩ = some (.int .i64 ap) := fun o => (p3.keep (World.grownBy_alloc w3 o none) (by simp)).cell.2.2.1
    have e2 : ∀ o o', ((w3.alloc o).alloc o').cell? ⟨w.heap.size + 1, 2, none⟩ = some (.int .i64 ap) := fun o o' => (p3.keep (grown_trans (World.grownBy_alloc w3 o none) (World.grownBy_alloc _ o' none)) (by simp)).cell.2.2.1
    have d3 : ∀ o, (w3.alloc o).cell? ⟨w.heap.size + 1, 3, none⟩ = some (.int .i64 pt) := fun o => (p3.keep (World.grownBy_alloc w3 o none) (by simp)).cell.2.2.2.1
    have e3 : ∀ o o', ((w3.alloc o).alloc o').cell? ⟨w.heap.size + 1, 3, none⟩ = some (.int .i64 pt) := fun o o' => (p3.keep (grown_trans (World.grownBy_alloc w3 o none) (World.grownBy_alloc _ o' none)) (by simp)).cell.2.2.2.1
    have d4 : ∀ o, (w3.alloc o).cell? ⟨w.heap.size + 1, 4, none⟩ = some (.int .i64 ct) := fun o => (p3.keep (World.grownBy_alloc w3 o none) (by simp)).cell.2.2.2.2.1
    have e4 : ∀ o o', ((w3.alloc o).alloc o').cell? ⟨w.heap.size + 1, 4, none⟩ = some (.int .i64 ct) := fun o o' => (p3.keep (grown_trans (World.grownBy_alloc w3 o none) (World.grownBy_alloc _ o' none)) (by simp)).cell.2.2.2.2.1
    have d5 : ∀ o, (w3.alloc o).cell? ⟨w.heap.size + 1, 5, none⟩ = some (.slice b m d) := fun o => (p3.keep (World.grownBy_alloc w3 o none) (by simp)).cell.2.2.2.2.2
    have e5 : ∀ o o', ((w3.alloc o).alloc o').cell? ⟨w.heap.size + 1, 5, none⟩ = some (.slice b m d) := fun o o' => (p3.keep (grown_trans (World.grownBy_alloc w3 o none) (World.grownBy_alloc _ o' none)) (by simp)).cell.2.2.2.2.2
    go_region
    all_goals go_wp2_with fail
    all_goals go_meet
    all_goals first
      | exact ⟨w3.heap.size, w3.heap.size + 1, rfl, rfl, by omega, by omega, by omega, (two_jp w3 aj nx op a n c up se ap pt ct b m d).1, (two_jp w3 aj nx op a n c up se ap pt ct b m d).2.1, (two_jp w3 aj nx op a n c up se ap pt ct b m d).2.2⟩
      | exact ⟨w3.heap.size + 1, w3.heap.size, rfl, rfl, by omega, by omega, by omega, (two_pj w3 aj nx op a n c up se ap pt ct b m d).1, (two_pj w3 aj nx op a n c up se ap pt ct b m d).2.1, (two_pj w3 aj nx op a n c up se ap pt ct b m d).2.2⟩
  case rest =>
    obtain ⟨gh, gk, rfl, rfl, hne, l1, l2, J4, P4, g4⟩ := hcut
    have j4 := j3.keep g4 (by simp)
    have p4 := p3.keep g4 (by simp)
    have G4 := grown_trans G3 g4
    clear c0 c1 c2 c3 q0 q1 q2 q3 q4 q5
    have k3 := j4.cell.2.2.2
    have k5 := p4.cell.2.2.2.2.2
    have ghl : gh < wc.heap.size := J4.lt
    have gkl : gk < wc.heap.size := P4.lt
    have t1 : True := trivial
    go_wp2_with fail
    go_cut [] (fun wx => ∃ ga gb Da Db, ga ≠ gb ∧ wc.heap.size ≤ ga ∧ wc.heap.size ≤ gb ∧ BxJ wx gh aj nx op (some ⟨ga, 0, none⟩) n (n + 5) ∧ BxP wx gk up se ap pt ct (some ⟨gb, 0, none⟩) m (m + 5) ∧ Roomy wx ga n U Da ∧ Roomy wx gb m D Db ∧ w3.grownBy wx none)
    case first =>
      go_region_with (first
        | (go_at_call 9; have _t := t1; clear t1; refine (roomy_any a n c U _ (hU.keep (grown_trans G4 (grown_drew wc none))) hn).mono ?_; rintro e w5 ⟨rfl, ⟨Da, ha5⟩, g5⟩; have g45 := grown_trans (grown_drew wc none) g5; have k5' := (p4.keep g45 (by simp)).cell.2.2.2.2.2; have t2 : True := trivial)
        | (go_at_call 9; have _t := t2; clear t2; refine (roomy_any b m d D _ (hD.keep (grown_trans G4 g45)) hm).mono ?_; rintro e w6 ⟨rfl, ⟨Db, hb6⟩, g6⟩; have g46 := grown_trans g45 g6; have J6 := J4.keep g46 (by simp); have P6 := P4.keep g46 (by simp); have y3 := J6.cell.2.2.2; have y5 := P6.cell.2.2.2.2.2; have f3 := BxS.free J6 3; have f5 := P6.free 5))
      all_goals go_wp2_with fail
      all_goals go_meet
      all_goals
        have hx1 : wc.heap.size < w5.heap.size := by have := ha5.blk.lt; simpa using this
        have ha6 : Roomy w6 wc.heap.size n U Da := by have := ha5.keep g6; simpa using this
        have m1 : some gh ≠ some gk := by simpa using hne
        have m2 : some gk ≠ some gh := by simpa using Ne.symm hne
        have m3 : some wc.heap.size ≠ some gh := by simp; omega
        have m4 : some wc.heap.size ≠ some gk := by simp; omega
        have m5 : some w5.heap.size ≠ some gh := by simp; omega
        have m6 : some w5.heap.size ≠ some gk := by simp; omega
        have G36 := grown_trans g4 g46
        have SJ : ∀ wz, BxJ wz gh aj nx op a n c → BxJ (wz.setCell ⟨gh, 3, none⟩ (.slice (some ⟨wc.heap.size, 0, none⟩) n (n + 5))) gh aj nx op (some ⟨wc.heap.size, 0, none⟩) n (n + 5) := fun wz h => BxS.set h 3 _
        first
          | exact ⟨wc.heap.size, w5.heap.size, Da, Db, by omega, Nat.le_refl _, by omega, (SJ _ J6).keep (grown_set _ _ _ _) m1, (P6.keep (grown_set _ _ _ _) m2).set5 _ _ _, (ha6.grown (grown_set _ _ _ _) m3).grown (grown_set _ _ _ _) m4, (hb6.grown (grown_set _ _ _ _) m5).grown (grown_set _ _ _ _) m6, grown_far (grown_far G36 (grown_set _ _ _ _) (fun g e => by cases e; exact l1)) (grown_set _ _ _ _) (fun g e => by cases e; exact l2)⟩
          | exact ⟨wc.heap.size, w5.heap.size, Da, Db, by omega, Nat.le_refl _, by omega, SJ _ (J6.keep (grown_set _ _ _ _) m1), (P6.set5 _ _ _).keep (grown_set _ _ _ _) m2, (ha6.grown (grown_set _ _ _ _) m4).grown (grown_set _ _ _ _) m3, (hb6.grown (grown_set _ _ _ _) m6).grown (grown_set _ _ _ _) m5, grown_far (grown_far G36 (grown_set _ _ _ _) (fun g e => by cases e; exact l2)) (grown_set _ _ _ _) (fun g e => by cases e; exact l1)⟩
    case rest =>
      obtain ⟨ga, gb, Da, Db, hab, la, lb, J5, P5, ra, rb, g5⟩ := hcut
      clear k3 k5 J4 P4 j4 p4
      have j5 := j3.keep g5 (by simp)
      have p5 := p3.keep g5 (by simp)
      have G5 := grown_trans G3 g5
      have o5 := o3.keep g5 (by simp)
      obtain ⟨c0, c1, c2, c3⟩ := J5.cell
      obtain ⟨q0, q1, q2, q3, q4, q5⟩ := P5.cell
      have hRa := ra.rd hU.byte hU.len hn
      have hRb := rb.rd hD.byte hD.len hm
      have t1 : True := trivial
      have s3 := Nat.le_trans g4.size la
      have s4 := Nat.le_trans g4.size lb
      have sa := ra.blk.lt
      have sb := rb.blk.lt
      have nk : some gk ≠ (Value.slice (some ⟨ga, 0, none⟩) n (n + 5)).ownBlock := by simp [Value.ownBlock]; omega
      have nba : some gb ≠ (Value.slice (some ⟨ga, 0, none⟩) n (n + 5)).ownBlock := by simp [Value.ownBlock]; omega
      have sz := g5.size
      have hBG0 := fun wz => begin_any ap wz
      have w5l : w.heap.size ≤ wc.heap.size := G5.size
      have w3l : w.heap.size ≤ w3.heap.size := G3.size
      by_cases hz : 0 ≤ ap ∧ ap ≤ 2046
      · have hBG : ∀ wz, Calls Try.prog 26 #[.int .i64 ap] wz fun e w' => e = .returned (.tuple #[.agg #[.int .i64 ap, .int .i64 (-1), .bool false, .slice none 0 0], .int .i64 0]) ∧ wz.grownBy w' none := fun wz => (hBG0 wz).mono (fun e w' h => by rw [if_pos hz] at h; exact h)
        clear hBG0
        have u1 : decide (ap < 0) = false := decide_eq_false (by omega)
        have u2 : decide (2047 ≤ ap) = false := decide_eq_false (by omega)
        go_wp2_with (first
          | (go_at_call 24; have _t := t1; clear t1; refine (hK _ _ _ _ wc hRa hRb).mono ?_; rintro e w6 ⟨ab, nb, cb, av, nv, cv, hnil, rfl, hA6, hB6, g6⟩; have gA6 := World.grownBy_alloc w6 (.cells #[.int .i64 rA, .int .i64 rN, .bool rO, .slice ab nb cb] 44) none; have b6 := BxJ.new w6 rA rN rO ab nb cb; generalize hv6 : w6.alloc (.cells #[.int .i64 rA, .int .i64 rN, .bool rO, .slice ab nb cb] 44) = v6 at gA6 b6; have h6 := grown_trans g6 gA6; have J6 := J5.keep h6 (by simp); have P6 := P5.keep h6 (by simp); clear c0 c1 c2 c3; clear q0 q1 q2 q3 q4 q5; obtain ⟨c0, c1, c2, c3⟩ := J6.cell; obtain ⟨q0, q1, q2, q3, q4, q5⟩ := P6.cell; have t2 : True := trivial)
          | (go_at_call 24; have _t := t2; clear t2; refine (hK _ _ _ _ v6 (hRa.keep h6) (hRb.keep h6)).mono ?_; rintro e w7 ⟨ac, nc, cc, ax, nx', cx, hnil', rfl, hA7, hB7, g7⟩; have gA7 := World.grownBy_alloc w7 (.cells #[.int .i64 rA, .int .i64 rN, .bool rO, .slice ac nc cc] 44) none; have b7 := BxJ.new w7 rA rN rO ac nc cc; generalize hv7 : w7.alloc (.cells #[.int .i64 rA, .int .i64 rN, .bool rO, .slice ac nc cc] 44) = v7 at gA7 b7; have h7 := grown_trans g7 gA7; have h57 := grown_trans h6 h7; have s67 : w6.heap.size ≤ w7.heap.size := (Nat.le_trans gA6.size g7.size); have s56 : wc.heap.size ≤ w6.heap.size := g6.size; have la6 : ga < v6.heap.size := (Nat.lt_of_lt_of_le sa h6.size); have lb6 : gb < v6.heap.size := (Nat.lt_of_lt_of_le sb h6.size); have la3 : w3.heap.size ≤ ga := s3; have lb3 : w3.heap.size ≤ gb := s4; have b6' := b6.keep h7 (by simp); have o7 := o5.keep h57 (by simp); clear c0 c1 c2 c3; clear q0 q1 q2 q3 q4 q5; obtain ⟨x0, x1, x2, x3⟩ := b6'.cell; obtain ⟨y0, y1, y2, y3⟩ := b7.cell; obtain ⟨z0, z1, z2, z3⟩ := o7.cell; have e1 := (hA6.keep (grown_trans gA6 h7)).rd; have e2 := (hA3.keep (grown_trans g5 h57)).rd; have e3 := (hA7.keep gA7).rd; have t3 : True := trivial)
          | (go_at_call 25; have _t := t3; clear t3; refine (hS _ _ _ _ _ _ v7 e1 e2).mono ?_; rintro e w8 ⟨rfl, g8⟩; clear x0 x1 x2 x3; clear y0 y1 y2 y3; clear z0 z1 z2 z3; obtain ⟨y0, y1, y2, y3⟩ := (b7.keep g8 (by simp)).cell; obtain ⟨z0, z1, z2, z3⟩ := (o7.keep g8 (by simp)).cell; have t4 : True := trivial)
          | (go_at_call 25; have _t := t4; clear t4; refine (hS _ _ _ _ _ _ w8 (e3.keep g8) (e2.keep g8)).mono ?_; rintro e w9 ⟨rfl, g9⟩; clear y0 y1 y2 y3; clear z0 z1 z2 z3; have h79 := grown_trans g8 g9; have h59 := grown_trans h57 h79; have E1 := (hB6.keep (grown_trans gA6 (grown_trans h7 h79))).rd; have E2 := (hB3.keep (grown_trans g5 h59)).rd; have E3 := (hB7.keep (grown_trans gA7 h79)).rd; have t5 : True := trivial)
          | (go_at_call 14; have _t := t5; clear t5; refine (sameBytes_any _ _ _ _ _ _ rU w9 E1 E2).mono ?_; rintro e wz ⟨rfl, hw⟩; have hw := hw.symm; subst hw; have t6 : True := trivial)
          | (go_at_call 14; have _t := t6; clear t6; refine (sameBytes_any _ _ _ _ _ _ rU w9 E3 E2).mono ?_; rintro e wz ⟨rfl, hw⟩; have hw := hw.symm; subst hw; have k1 := (J5.keep h59 (by simp)).cell.2.2.2; have k2 := (j5.keep h59 (by simp)).cell.2.2.2; have t7 : True := trivial)
          | (go_at_call 16; have _t := t7; clear t7; refine (left_any ga a n c U Da w9 (ra.keep h59) (hU.keep (grown_trans G5 h59)) hn).mono ?_; rintro e w10 ⟨rfl, g10⟩; clear k1 k2; have h510 := grown_trans h59 g10; have k1 := (P5.keep h510 (by simp)).cell.2.2.2.2.2; have k2 := (p5.keep h510 (by simp)).cell.2.2.2.2.2; have t8 : True := trivial)
          | (go_at_call 16; have _t := t8; clear t8; refine (left_any gb b m d D Db w10 (rb.keep h510) (hD.keep (grown_trans G5 h510)) hm).mono ?_; rintro e w11 ⟨rfl, g11⟩; clear k1 k2; have h511 := grown_trans h510 g11; have h711 := grown_trans h79 (grown_trans g10 g11); have k1 := (b6'.keep h711 (by simp)).cell.2.2.2; have hAa := hA6.keep (grown_trans gA6 (grown_trans h7 h711)); have hBa := hB6.keep (grown_trans gA6 (grown_trans h7 h711)); have t9 : True := trivial)
          | (go_at_call 20; have _t := t9; clear t9; refine (spoil_any hAa (by have := hA6.len; omega)).mono ?_; rintro e w12 ⟨rfl, g12⟩; clear k1; have hBb := kept_nil hBa g12 hnil; have t10 : True := trivial)
          | (go_at_call 20; have _t := t10; clear t10; refine (spoil_any hBb (by have := hB6.len; omega)).mono ?_; rintro e w13 ⟨rfl, g13⟩; have Jd := ((J5.keep h511 (by simp)).keep g12 (sp_ne hA6 J5.lt)).keep g13 (sp_ne hB6 J5.lt); have k1 := Jd.cell.2.2.2; have rad := ((ra.keep h511).grown g12 (sp_ne hA6 ra.blk.lt)).grown g13 (sp_ne hB6 ra.blk.lt); have hRd := rad.ans hU.byte hU.len hn (Nat.zero_le _); have t11 : True := trivial)
          | (go_at_call 20; have _t := t11; clear t11; refine (spoil_any hRd (by omega)).mono ?_; rintro e w14 ⟨rfl, g14⟩; clear k1; have Pd := (((P5.keep h511 (by simp)).keep g12 (sp_ne hA6 P5.lt)).keep g13 (sp_ne hB6 P5.lt)).keep g14 nk; have k1 := Pd.cell.2.2.2.2.2; have rbd := (((rb.keep h511).grown g12 (sp_ne hA6 rb.blk.lt)).grown g13 (sp_ne hB6 rb.blk.lt)).grown g14 nba; have hRe := rbd.ans hD.byte hD.len hm (Nat.zero_le _); have t12 : True := trivial)
          | (go_at_call 20; have _t := t12; clear t12; refine (spoil_any hRe (by omega)).mono ?_; rintro e w15 ⟨rfl, g15⟩; clear k1; have y15 := ((((b7.keep h711 (by simp)).keep g12 (sp_ne2 hA6 s67)).keep g13 (sp_ne2 hB6 s67)).keep g14 (by simp [Value.ownBlock]; omega)).keep g15 (by simp [Value.ownBlock]; omega); have z15 := (((((o7.keep h711 (by simp))).keep g12 (sp_ne hA6 o5.lt)).keep g13 (sp_ne hB6 o5.lt)).keep g14 (by simp [Value.ownBlock]; omega)).keep g15 (by simp [Value.ownBlock]; omega); have p15 := ((((p5.keep h511 (by simp)).keep g12 (sp_ne hA6 p5.lt)).keep g13 (sp_ne hB6 p5.lt)).keep g14 (by simp [Value.ownBlock]; omega)).keep g15 (by simp [Value.ownBlock]; omega); have F3 := ((((e3.keep h711).grown g12 (hA6.later hA7 gA6.size)).grown g13 (hB6.later hA7 gA6.size)).grown g14 (fun _ _ e => hdist hA7 la6 e)).grown g15 (fun _ _ e => hdist hA7 lb6 e); have F2 := ((((e2.keep h711).grown g12 (hA6.earlier hA3 g5.size)).grown g13 (hB6.earlier hA3 g5.size)).grown g14 (fun _ _ e => hdist2 hA3 la3 e)).grown g15 (fun _ _ e => hdist2 hA3 lb3 e); have H3 := ((((E3.keep (grown_trans g10 g11)).grown g12 (hA6.later hB7 gA6.size)).grown g13 (hB6.later hB7 gA6.size)).grown g14 (fun _ _ e => hdist hB7 la6 e)).grown g15 (fun _ _ e => hdist hB7 lb6 e); have H2 := ((((E2.keep (grown_trans g10 g11)).grown g12 (hA6.earlier hB3 g5.size)).grown g13 (hB6.earlier hB3 g5.size)).grown g14 (fun _ _ e => hdist2 hB3 la3 e)).grown g15 (fun _ _ e => hdist2 hB3 lb3 e); obtain ⟨y0, y1, y2, y3⟩ := y15.cell; obtain ⟨z0, z1, z2, z3⟩ := z15.cell; have t13 : True := trivial)
          | (go_at_call 25; have _t := t13; clear t13; refine (hS _ _ _ _ _ _ w15 F3 F2).mono ?_; rintro e w16 ⟨rfl, g16⟩; clear y0 y1 y2 y3; clear z0 z1 z2 z3; have t14 : True := trivial)
          | (go_at_call 14; have _t := t14; clear t14; refine (sameBytes_any _ _ _ _ _ _ rU w16 (H3.keep g16) (H2.keep g16)).mono ?_; rintro e wz ⟨rfl, hw⟩; have hw := hw.symm; subst hw; have k1 := (p15.keep g16 (by simp)).cell.2.2.1; have t15 : True := trivial)
          | (go_at_call 26; have _t := t15; clear t15; refine (hBG w16).mono ?_; rintro e w17 ⟨rfl, g17⟩; clear k1; have P17 := (p15.keep (grown_trans g16 g17) (by simp)); have b17 := BxJ.new w17 ap (-1) false none 0 0; have gA17 := World.grownBy_alloc w17 (.cells #[.int .i64 ap, .int .i64 (-1), .bool false, .slice none 0 0] 44) none; have kk := (P17.keep gA17 (by simp)).cell.2.2.1; obtain ⟨y0, y1, y2, y3⟩ := b17.cell; have t16 : True := trivial)
          | (go_at_call 25; have _t := t16; clear t16; refine (sameJoined_any ap (-1) false none none 0 0 0 0 [] _ (ans_nil _ 0).rd (ans_nil _ 0).rd).mono ?_; rintro e w18 ⟨rfl, g18⟩))
        go_ret
        have Q11 := grown_trans G5 h511
        have Q12 := grown_far Q11 g12 (hA6.far _ w5l)
        have Q13 := grown_far Q12 g13 (hB6.far _ w5l)
        have Q14 := grown_far Q13 g14 (fun g e => by have e2 : ga = g := Option.some.inj e; omega)
        have Q15 := grown_far Q14 g15 (fun g e => by have e2 : gb = g := Option.some.inj e; omega)
        exact ⟨rfl, (Below.refl _ _).grown (grown_trans Q15 (grown_trans g16 (grown_trans g17 (grown_trans gA17 g18)))) (Nat.le_refl _) (fun k hk => by cases hk)⟩
      · have hBG : ∀ wz, Calls Try.prog 26 #[.int .i64 ap] wz fun e w' => e = .returned (.tuple #[.agg #[.int .i64 0, .int .i64 0, .bool false, .slice none 0 0], .int .i64 2]) ∧ wz.grownBy w' none := fun wz => (hBG0 wz).mono (fun e w' h => by rw [if_neg hz] at h; exact h)
        clear hBG0
        by_cases hneg : ap < 0
        · have u1 : decide (ap < 0) = true := decide_eq_true hneg
          go_wp2_with (first
            | (go_at_call 24; have _t := t1; clear t1; refine (hK _ _ _ _ wc hRa hRb).mono ?_; rintro e w6 ⟨ab, nb, cb, av, nv, cv, hnil, rfl, hA6, hB6, g6⟩; have gA6 := World.grownBy_alloc w6 (.cells #[.int .i64 rA, .int .i64 rN, .bool rO, .slice ab nb cb] 44) none; have b6 := BxJ.new w6 rA rN rO ab nb cb; generalize hv6 : w6.alloc (.cells #[.int .i64 rA, .int .i64 rN, .bool rO, .slice ab nb cb] 44) = v6 at gA6 b6; have h6 := grown_trans g6 gA6; have J6 := J5.keep h6 (by simp); have P6 := P5.keep h6 (by simp); clear c0 c1 c2 c3; clear q0 q1 q2 q3 q4 q5; obtain ⟨c0, c1, c2, c3⟩ := J6.cell; obtain ⟨q0, q1, q2, q3, q4, q5⟩ := P6.cell; have t2 : True := trivial)
            | (go_at_call 24; have _t := t2; clear t2; refine (hK _ _ _ _ v6 (hRa.keep h6) (hRb.keep h6)).mono ?_; rintro e w7 ⟨ac, nc, cc, ax, nx', cx, hnil', rfl, hA7, hB7, g7⟩; have gA7 := World.grownBy_alloc w7 (.cells #[.int .i64 rA, .int .i64 rN, .bool rO, .slice ac nc cc] 44) none; have b7 := BxJ.new w7 rA rN rO ac nc cc; generalize hv7 : w7.alloc (.cells #[.int .i64 rA, .int .i64 rN, .bool rO, .slice ac nc cc] 44) = v7 at gA7 b7; have h7 := grown_trans g7 gA7; have h57 := grown_trans h6 h7; have s67 : w6.heap.size ≤ w7.heap.size := (Nat.le_trans gA6.size g7.size); have s56 : wc.heap.size ≤ w6.heap.size := g6.size; have la6 : ga < v6.heap.size := (Nat.lt_of_lt_of_le sa h6.size); have lb6 : gb < v6.heap.size := (Nat.lt_of_lt_of_le sb h6.size); have la3 : w3.heap.size ≤ ga := s3; have lb3 : w3.heap.size ≤ gb := s4; have b6' := b6.keep h7 (by simp); have o7 := o5.keep h57 (by simp); clear c0 c1 c2 c3; clear q0 q1 q2 q3 q4 q5; obtain ⟨x0, x1, x2, x3⟩ := b6'.cell; obtain ⟨y0, y1, y2, y3⟩ := b7.cell; obtain ⟨z0, z1, z2, z3⟩ := o7.cell; have e1 := (hA6.keep (grown_trans gA6 h7)).rd; have e2 := (hA3.keep (grown_trans g5 h57)).rd; have e3 := (hA7.keep gA7).rd; have t3 : True := trivial)
            | (go_at_call 25; have _t := t3; clear t3; refine (hS _ _ _ _ _ _ v7 e1 e2).mono ?_; rintro e w8 ⟨rfl, g8⟩; clear x0 x1 x2 x3; clear y0 y1 y2 y3; clear z0 z1 z2 z3; obtain ⟨y0, y1, y2, y3⟩ := (b7.keep g8 (by simp)).cell; obtain ⟨z0, z1, z2, z3⟩ := (o7.keep g8 (by simp)).cell; have t4 : True := trivial)
            | (go_at_call 25; have _t := t4; clear t4; refine (hS _ _ _ _ _ _ w8 (e3.keep g8) (e2.keep g8)).mono ?_; rintro e w9 ⟨rfl, g9⟩; clear y0 y1 y2 y3; clear z0 z1 z2 z3; have h79 := grown_trans g8 g9; have h59 := grown_trans h57 h79; have E1 := (hB6.keep (grown_trans gA6 (grown_trans h7 h79))).rd; have E2 := (hB3.keep (grown_trans g5 h59)).rd; have E3 := (hB7.keep (grown_trans gA7 h79)).rd; have t5 : True := trivial)
            | (go_at_call 14; have _t := t5; clear t5; refine (sameBytes_any _ _ _ _ _ _ rU w9 E1 E2).mono ?_; rintro e wz ⟨rfl, hw⟩; have hw := hw.symm; subst hw; have t6 : True := trivial)
            | (go_at_call 14; have _t := t6; clear t6; refine (sameBytes_any _ _ _ _ _ _ rU w9 E3 E2).mono ?_; rintro e wz ⟨rfl, hw⟩; have hw := hw.symm; subst hw; have k1 := (J5.keep h59 (by simp)).cell.2.2.2; have k2 := (j5.keep h59 (by simp)).cell.2.2.2; have t7 : True := trivial)
            | (go_at_call 16; have _t := t7; clear t7; refine (left_any ga a n c U Da w9 (ra.keep h59) (hU.keep (grown_trans G5 h59)) hn).mono ?_; rintro e w10 ⟨rfl, g10⟩; clear k1 k2; have h510 := grown_trans h59 g10; have k1 := (P5.keep h510 (by simp)).cell.2.2.2.2.2; have k2 := (p5.keep h510 (by simp)).cell.2.2.2.2.2; have t8 : True := trivial)
            | (go_at_call 16; have _t := t8; clear t8; refine (left_any gb b m d D Db w10 (rb.keep h510) (hD.keep (grown_trans G5 h510)) hm).mono ?_; rintro e w11 ⟨rfl, g11⟩; clear k1 k2; have h511 := grown_trans h510 g11; have h711 := grown_trans h79 (grown_trans g10 g11); have k1 := (b6'.keep h711 (by simp)).cell.2.2.2; have hAa := hA6.keep (grown_trans gA6 (grown_trans h7 h711)); have hBa := hB6.keep (grown_trans gA6 (grown_trans h7 h711)); have t9 : True := trivial)
            | (go_at_call 20; have _t := t9; clear t9; refine (spoil_any hAa (by have := hA6.len; omega)).mono ?_; rintro e w12 ⟨rfl, g12⟩; clear k1; have hBb := kept_nil hBa g12 hnil; have t10 : True := trivial)
            | (go_at_call 20; have _t := t10; clear t10; refine (spoil_any hBb (by have := hB6.len; omega)).mono ?_; rintro e w13 ⟨rfl, g13⟩; have Jd := ((J5.keep h511 (by simp)).keep g12 (sp_ne hA6 J5.lt)).keep g13 (sp_ne hB6 J5.lt); have k1 := Jd.cell.2.2.2; have rad := ((ra.keep h511).grown g12 (sp_ne hA6 ra.blk.lt)).grown g13 (sp_ne hB6 ra.blk.lt); have hRd := rad.ans hU.byte hU.len hn (Nat.zero_le _); have t11 : True := trivial)
            | (go_at_call 20; have _t := t11; clear t11; refine (spoil_any hRd (by omega)).mono ?_; rintro e w14 ⟨rfl, g14⟩; clear k1; have Pd := (((P5.keep h511 (by simp)).keep g12 (sp_ne hA6 P5.lt)).keep g13 (sp_ne hB6 P5.lt)).keep g14 nk; have k1 := Pd.cell.2.2.2.2.2; have rbd := (((rb.keep h511).grown g12 (sp_ne hA6 rb.blk.lt)).grown g13 (sp_ne hB6 rb.blk.lt)).grown g14 nba; have hRe := rbd.ans hD.byte hD.len hm (Nat.zero_le _); have t12 : True := trivial)
            | (go_at_call 20; have _t := t12; clear t12; refine (spoil_any hRe (by omega)).mono ?_; rintro e w15 ⟨rfl, g15⟩; clear k1; have y15 := ((((b7.keep h711 (by simp)).keep g12 (sp_ne2 hA6 s67)).keep g13 (sp_ne2 hB6 s67)).keep g14 (by simp [Value.ownBlock]; omega)).keep g15 (by simp [Value.ownBlock]; omega); have z15 := (((((o7.keep h711 (by simp))).keep g12 (sp_ne hA6 o5.lt)).keep g13 (sp_ne hB6 o5.lt)).keep g14 (by simp [Value.ownBlock]; omega)).keep g15 (by simp [Value.ownBlock]; omega); have p15 := ((((p5.keep h511 (by simp)).keep g12 (sp_ne hA6 p5.lt)).keep g13 (sp_ne hB6 p5.lt)).keep g14 (by simp [Value.ownBlock]; omega)).keep g15 (by simp [Value.ownBlock]; omega); have F3 := ((((e3.keep h711).grown g12 (hA6.later hA7 gA6.size)).grown g13 (hB6.later hA7 gA6.size)).grown g14 (fun _ _ e => hdist hA7 la6 e)).grown g15 (fun _ _ e => hdist hA7 lb6 e); have F2 := ((((e2.keep h711).grown g12 (hA6.earlier hA3 g5.size)).grown g13 (hB6.earlier hA3 g5.size)).grown g14 (fun _ _ e => hdist2 hA3 la3 e)).grown g15 (fun _ _ e => hdist2 hA3 lb3 e); have H3 := ((((E3.keep (grown_trans g10 g11)).grown g12 (hA6.later hB7 gA6.size)).grown g13 (hB6.later hB7 gA6.size)).grown g14 (fun _ _ e => hdist hB7 la6 e)).grown g15 (fun _ _ e => hdist hB7 lb6 e); have H2 := ((((E2.keep (grown_trans g10 g11)).grown g12 (hA6.earlier hB3 g5.size)).grown g13 (hB6.earlier hB3 g5.size)).grown g14 (fun _ _ e => hdist2 hB3 la3 e)).grown g15 (fun _ _ e => hdist2 hB3 lb3 e); obtain ⟨y0, y1, y2, y3⟩ := y15.cell; obtain ⟨z0, z1, z2, z3⟩ := z15.cell; have t13 : True := trivial)
            | (go_at_call 25; have _t := t13; clear t13; refine (hS _ _ _ _ _ _ w15 F3 F2).mono ?_; rintro e w16 ⟨rfl, g16⟩; clear y0 y1 y2 y3; clear z0 z1 z2 z3; have t14 : True := trivial)
            | (go_at_call 14; have _t := t14; clear t14; refine (sameBytes_any _ _ _ _ _ _ rU w16 (H3.keep g16) (H2.keep g16)).mono ?_; rintro e wz ⟨rfl, hw⟩; have hw := hw.symm; subst hw; have k1 := (p15.keep g16 (by simp)).cell.2.2.1; have t15 : True := trivial)
            | (go_at_call 26; have _t := t15; clear t15; refine (hBG w16).mono ?_; rintro e w17 ⟨rfl, g17⟩; clear k1; have P17 := (p15.keep (grown_trans g16 g17) (by simp)); have b17 := BxJ.new w17 0 0 false none 0 0; have gA17 := World.grownBy_alloc w17 (.cells #[.int .i64 0, .int .i64 0, .bool false, .slice none 0 0] 44) none; have kk := (P17.keep gA17 (by simp)).cell.2.2.1; obtain ⟨y0, y1, y2, y3⟩ := b17.cell; have t16 : True := trivial)
            | (go_at_call 25; have _t := t16; clear t16; refine (sameJoined_any 0 0 false none none 0 0 0 0 [] _ (ans_nil _ 0).rd (ans_nil _ 0).rd).mono ?_; rintro e w18 ⟨rfl, g18⟩))
          go_ret
          have Q11 := grown_trans G5 h511
          have Q12 := grown_far Q11 g12 (hA6.far _ w5l)
          have Q13 := grown_far Q12 g13 (hB6.far _ w5l)
          have Q14 := grown_far Q13 g14 (fun g e => by have e2 : ga = g := Option.some.inj e; omega)
          have Q15 := grown_far Q14 g15 (fun g e => by have e2 : gb = g := Option.some.inj e; omega)
          exact ⟨rfl, (Below.refl _ _).grown (grown_trans Q15 (grown_trans g16 (grown_trans g17 (grown_trans gA17 g18)))) (Nat.le_refl _) (fun k hk => by cases hk)⟩
        · have u1 : decide (ap < 0) = false := decide_eq_false hneg
          have u2 : decide (2047 ≤ ap) = true := decide_eq_true (by omega)
          go_wp2_with (first
            | (go_at_call 24; have _t := t1; clear t1; refine (hK _ _ _ _ wc hRa hRb).mono ?_; rintro e w6 ⟨ab, nb, cb, av, nv, cv, hnil, rfl, hA6, hB6, g6⟩; have gA6 := World.grownBy_alloc w6 (.cells #[.int .i64 rA, .int .i64 rN, .bool rO, .slice ab nb cb] 44) none; have b6 := BxJ.new w6 rA rN rO ab nb cb; generalize hv6 : w6.alloc (.cells #[.int .i64 rA, .int .i64 rN, .bool rO, .slice ab nb cb] 44) = v6 at gA6 b6; have h6 := grown_trans g6 gA6; have J6 := J5.keep h6 (by simp); have P6 := P5.keep h6 (by simp); clear c0 c1 c2 c3; clear q0 q1 q2 q3 q4 q5; obtain ⟨c0, c1, c2, c3⟩ := J6.cell; obtain ⟨q0, q1, q2, q3, q4, q5⟩ := P6.cell; have t2 : True := trivial)
            | (go_at_call 24; have _t := t2; clear t2; refine (hK _ _ _ _ v6 (hRa.keep h6) (hRb.keep h6)).mono ?_; rintro e w7 ⟨ac, nc, cc, ax, nx', cx, hnil', rfl, hA7, hB7, g7⟩; have gA7 := World.grownBy_alloc w7 (.cells #[.int .i64 rA, .int .i64 rN, .bool rO, .slice ac nc cc] 44) none; have b7 := BxJ.new w7 rA rN rO ac nc cc; generalize hv7 : w7.alloc (.cells #[.int .i64 rA, .int .i64 rN, .bool rO, .slice ac nc cc] 44) = v7 at gA7 b7; have h7 := grown_trans g7 gA7; have h57 := grown_trans h6 h7; have s67 : w6.heap.size ≤ w7.heap.size := (Nat.le_trans gA6.size g7.size); have s56 : wc.heap.size ≤ w6.heap.size := g6.size; have la6 : ga < v6.heap.size := (Nat.lt_of_lt_of_le sa h6.size); have lb6 : gb < v6.heap.size := (Nat.lt_of_lt_of_le sb h6.size); have la3 : w3.heap.size ≤ ga := s3; have lb3 : w3.heap.size ≤ gb := s4; have b6' := b6.keep h7 (by simp); have o7 := o5.keep h57 (by simp); clear c0 c1 c2 c3; clear q0 q1 q2 q3 q4 q5; obtain ⟨x0, x1, x2, x3⟩ := b6'.cell; obtain ⟨y0, y1, y2, y3⟩ := b7.cell; obtain ⟨z0, z1, z2, z3⟩ := o7.cell; have e1 := (hA6.keep (grown_trans gA6 h7)).rd; have e2 := (hA3.keep (grown_trans g5 h57)).rd; have e3 := (hA7.keep gA7).rd; have t3 : True := trivial)
            | (go_at_call 25; have _t := t3; clear t3; refine (hS _ _ _ _ _ _ v7 e1 e2).mono ?_; rintro e w8 ⟨rfl, g8⟩; clear x0 x1 x2 x3; clear y0 y1 y2 y3; clear z0 z1 z2 z3; obtain ⟨y0, y1, y2, y3⟩ := (b7.keep g8 (by simp)).cell; obtain ⟨z0, z1, z2, z3⟩ := (o7.keep g8 (by simp)).cell; have t4 : True := trivial)
            | (go_at_call 25; have _t := t4; clear t4; refine (hS _ _ _ _ _ _ w8 (e3.keep g8) (e2.keep g8)).mono ?_; rintro e w9 ⟨rfl, g9⟩; clear y0 y1 y2 y3; clear z0 z1 z2 z3; have h79 := grown_trans g8 g9; have h59 := grown_trans h57 h79; have E1 := (hB6.keep (grown_trans gA6 (grown_trans h7 h79))).rd; have E2 := (hB3.keep (grown_trans g5 h59)).rd; have E3 := (hB7.keep (grown_trans gA7 h79)).rd; have t5 : True := trivial)
            | (go_at_call 14; have _t := t5; clear t5; refine (sameBytes_any _ _ _ _ _ _ rU w9 E1 E2).mono ?_; rintro e wz ⟨rfl, hw⟩; have hw := hw.symm; subst hw; have t6 : True := trivial)
            | (go_at_call 14; have _t := t6; clear t6; refine (sameBytes_any _ _ _ _ _ _ rU w9 E3 E2).mono ?_; rintro e wz ⟨rfl, hw⟩; have hw := hw.symm; subst hw; have k1 := (J5.keep h59 (by simp)).cell.2.2.2; have k2 := (j5.keep h59 (by simp)).cell.2.2.2; have t7 : True := trivial)
            | (go_at_call 16; have _t := t7; clear t7; refine (left_any ga a n c U Da w9 (ra.keep h59) (hU.keep (grown_trans G5 h59)) hn).mono ?_; rintro e w10 ⟨rfl, g10⟩; clear k1 k2; have h510 := grown_trans h59 g10; have k1 := (P5.keep h510 (by simp)).cell.2.2.2.2.2; have k2 := (p5.keep h510 (by simp)).cell.2.2.2.2.2; have t8 : True := trivial)
            | (go_at_call 16; have _t := t8; clear t8; refine (left_any gb b m d D Db w10 (rb.keep h510) (hD.keep (grown_trans G5 h510)) hm).mono ?_; rintro e w11 ⟨rfl, g11⟩; clear k1 k2; have h511 := grown_trans h510 g11; have h711 := grown_trans h79 (grown_trans g10 g11); have k1 := (b6'.keep h711 (by simp)).cell.2.2.2; have hAa := hA6.keep (grown_trans gA6 (grown_trans h7 h711)); have hBa := hB6.keep (grown_trans gA6 (grown_trans h7 h711)); have t9 : True := trivial)
            | (go_at_call 20; have _t := t9; clear t9; refine (spoil_any hAa (by have := hA6.len; omega)).mono ?_; rintro e w12 ⟨rfl, g12⟩; clear k1; have hBb := kept_nil hBa g12 hnil; have t10 : True := trivial)
            | (go_at_call 20; have _t := t10; clear t10; refine (spoil_any hBb (by have := hB6.len; omega)).mono ?_; rintro e w13 ⟨rfl, g13⟩; have Jd := ((J5.keep h511 (by simp)).keep g12 (sp_ne hA6 J5.lt)).keep g13 (sp_ne hB6 J5.lt); have k1 := Jd.cell.2.2.2; have rad := ((ra.keep h511).grown g12 (sp_ne hA6 ra.blk.lt)).grown g13 (sp_ne hB6 ra.blk.lt); have hRd := rad.ans hU.byte hU.len hn (Nat.zero_le _); have t11 : True := trivial)
            | (go_at_call 20; have _t := t11; clear t11; refine (spoil_any hRd (by omega)).mono ?_; rintro e w14 ⟨rfl, g14⟩; clear k1; have Pd := (((P5.keep h511 (by simp)).keep g12 (sp_ne hA6 P5.lt)).keep g13 (sp_ne hB6 P5.lt)).keep g14 nk; have k1 := Pd.cell.2.2.2.2.2; have rbd := (((rb.keep h511).grown g12 (sp_ne hA6 rb.blk.lt)).grown g13 (sp_ne hB6 rb.blk.lt)).grown g14 nba; have hRe := rbd.ans hD.byte hD.len hm (Nat.zero_le _); have t12 : True := trivial)
            | (go_at_call 20; have _t := t12; clear t12; refine (spoil_any hRe (by omega)).mono ?_; rintro e w15 ⟨rfl, g15⟩; clear k1; have y15 := ((((b7.keep h711 (by simp)).keep g12 (sp_ne2 hA6 s67)).keep g13 (sp_ne2 hB6 s67)).keep g14 (by simp [Value.ownBlock]; omega)).keep g15 (by simp [Value.ownBlock]; omega); have z15 := (((((o7.keep h711 (by simp))).keep g12 (sp_ne hA6 o5.lt)).keep g13 (sp_ne hB6 o5.lt)).keep g14 (by simp [Value.ownBlock]; omega)).keep g15 (by simp [Value.ownBlock]; omega); have p15 := ((((p5.keep h511 (by simp)).keep g12 (sp_ne hA6 p5.lt)).keep g13 (sp_ne hB6 p5.lt)).keep g14 (by simp [Value.ownBlock]; omega)).keep g15 (by simp [Value.ownBlock]; omega); have F3 := ((((e3.keep h711).grown g12 (hA6.later hA7 gA6.size)).grown g13 (hB6.later hA7 gA6.size)).grown g14 (fun _ _ e => hdist hA7 la6 e)).grown g15 (fun _ _ e => hdist hA7 lb6 e); have F2 := ((((e2.keep h711).grown g12 (hA6.earlier hA3 g5.size)).grown g13 (hB6.earlier hA3 g5.size)).grown g14 (fun _ _ e => hdist2 hA3 la3 e)).grown g15 (fun _ _ e => hdist2 hA3 lb3 e); have H3 := ((((E3.keep (grown_trans g10 g11)).grown g12 (hA6.later hB7 gA6.size)).grown g13 (hB6.later hB7 gA6.size)).grown g14 (fun _ _ e => hdist hB7 la6 e)).grown g15 (fun _ _ e => hdist hB7 lb6 e); have H2 := ((((E2.keep (grown_trans g10 g11)).grown g12 (hA6.earlier hB3 g5.size)).grown g13 (hB6.earlier hB3 g5.size)).grown g14 (fun _ _ e => hdist2 hB3 la3 e)).grown g15 (fun _ _ e => hdist2 hB3 lb3 e); obtain ⟨y0, y1, y2, y3⟩ := y15.cell; obtain ⟨z0, z1, z2, z3⟩ := z15.cell; have t13 : True := trivial)
            | (go_at_call 25; have _t := t13; clear t13; refine (hS _ _ _ _ _ _ w15 F3 F2).mono ?_; rintro e w16 ⟨rfl, g16⟩; clear y0 y1 y2 y3; clear z0 z1 z2 z3; have t14 : True := trivial)
            | (go_at_call 14; have _t := t14; clear t14; refine (sameBytes_any _ _ _ _ _ _ rU w16 (H3.keep g16) (H2.keep g16)).mono ?_; rintro e wz ⟨rfl, hw⟩; have hw := hw.symm; subst hw; have k1 := (p15.keep g16 (by simp)).cell.2.2.1; have t15 : True := trivial)
            | (go_at_call 26; have _t := t15; clear t15; refine (hBG w16).mono ?_; rintro e w17 ⟨rfl, g17⟩; clear k1; have P17 := (p15.keep (grown_trans g16 g17) (by simp)); have b17 := BxJ.new w17 0 0 false none 0 0; have gA17 := World.grownBy_alloc w17 (.cells #[.int .i64 0, .int .i64 0, .bool false, .slice none 0 0] 44) none; have kk := (P17.keep gA17 (by simp)).cell.2.2.1; obtain ⟨y0, y1, y2, y3⟩ := b17.cell; have t16 : True := trivial)
            | (go_at_call 25; have _t := t16; clear t16; refine (sameJoined_any 0 0 false none none 0 0 0 0 [] _ (ans_nil _ 0).rd (ans_nil _ 0).rd).mono ?_; rintro e w18 ⟨rfl, g18⟩))
          go_ret
          have Q11 := grown_trans G5 h511
          have Q12 := grown_far Q11 g12 (hA6.far _ w5l)
          have Q13 := grown_far Q12 g13 (hB6.far _ w5l)
          have Q14 := grown_far Q13 g14 (fun g e => by have e2 : ga = g := Option.some.inj e; omega)
          have Q15 := grown_far Q14 g15 (fun g e => by have e2 : gb = g := Option.some.inj e; omega)
          exact ⟨rfl, (Below.refl _ _).grown (grown_trans Q15 (grown_trans g16 (grown_trans g17 (grown_trans gA17 g18)))) (Nat.le_refl _) (fun k hk => by cases hk)⟩
end Go.Proofs.Ytmcadmndmafogaa
