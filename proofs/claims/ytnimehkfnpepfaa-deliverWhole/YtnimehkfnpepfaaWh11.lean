import Derived.Test.YtnimehkfnpepfaaWh9
import Derived.Test.YtnimehkfnpepfaaWh8
namespace Go.Proofs.Ytnimehkfnpepfaa
open Go.RowKit
set_option maxRecDepth 100000
set_option linter.unusedVariables false
set_option linter.unusedSimpArgs false

section
theorem alG_ok (F : Nat → Int × Int) (s : Int) (n : Nat) (h : alG F s n = true) (k : Nat) (hk : k < n) : gpB (F k).1 (F k).2 s = true := by
  cases e : gpB (F k).1 (F k).2 s with
  | true => rfl
  | false => rw [alG_no F s k e n hk] at h; cases h
theorem gpB_ok {x y : Int} (h : gpB x y 65536 = true) : ∃ X Y : Nat, x = (X : Int) ∧ y = (Y : Int) ∧ X ≤ 65536 ∧ Y ≤ 65536 := by
  unfold gpB at h
  have h := of_decide_eq_true h
  exact ⟨x.toNat, y.toNat, by omega, by omega, by omega, by omega⟩
theorem rdI_box {w : World} {g : Nat} {x y : Int} (h : BxS w g 82 #[.int .i64 x, .int .i64 y]) : RdI w (some ⟨g, 0, none⟩) 2 2 [x, y] := by
  obtain ⟨h0, h1⟩ := h.cell2
  refine ⟨rfl, Nat.le_refl _, by decide, (fun h => by cases h), fun _ => ⟨g, 0, rfl, h.lt, fun i hi => ?_⟩⟩
  match i, hi with
  | 0, _ => exact h0
  | 1, _ => exact h1
theorem two_num (X Y : Nat) (hX : X < 9223372036854775808) (hY : Y < 9223372036854775808) (i : Nat) (hi : i < 2) : nthI [(X : Int), (Y : Int)] i = (((if i = 0 then X else Y) : Nat) : Int) ∧ (if i = 0 then X else Y) < 9223372036854775808 :=
  match i, hi with
  | 0, _ => ⟨rfl, hX⟩
  | 1, _ => ⟨rfl, hY⟩
theorem ans_ne {w : World} {lo : Nat} {a : Option Addr} {n cap : Nat} {L : List Nat} (h : Ans w lo a n cap L) : (Value.slice a n cap).ownBlock = none ∨ (Value.slice a n cap).ownBlock ≠ some w.heap.size := .inr (fun e => ans_below h (Nat.le_refl _) e.symm)
/-- the bytes of gaps -/
def gpL (F : Nat → Int × Int) : Nat → List Nat
  | 0 => []
  | k + 1 => gpL F k ++ (beL 4 (F k).1.toNat ++ beL 4 (F k).2.toNat)
theorem beL_len (k x : Nat) : (beL k x).length = k := by unfold beL; exact tab_len _ _
theorem gpL_len (F : Nat → Int × Int) (k : Nat) : (gpL F k).length = 8 * k := by
  induction k with
  | zero => rfl
  | succ k ih => show (gpL F k ++ (beL 4 (F k).1.toNat ++ beL 4 (F k).2.toNat)).length = _; simp only [List.length_append, ih, beL_len]; omega
theorem Ans.lower {w : World} {lo lo' : Nat} {a : Option Addr} {n cap : Nat} {L : List Nat} (h : Ans w lo a n cap L) (hl : lo' ≤ lo) : Ans w lo' a n cap L := ⟨h.own, h.byte, fun g hg => Nat.le_trans hl (h.new g hg)⟩
theorem Ans.as {w : World} {lo : Nat} {a : Option Addr} {n cap : Nat} {L L' : List Nat} (h : Ans w lo a n cap L) (e : L = L') : Ans w lo a n cap L' := e ▸ h
/-- a note's bytes behind its kind and ID -/
def ntT (kd : Nat) (nm : ByteArray) (si su at' : Nat) (D : List Nat) (F : Nat → Int × Int) (m o co : Nat) : List Nat :=
  if kd = 1 then beL 4 si ++ strL nm else if kd = 2 then beL 4 at' ++ D else if kd = 3 then beL 4 si ++ beL 4 su else if kd = 4 then gpL F m else if kd = 5 then beL 1 co else beL 1 o
def ntL (kd id : Nat) (nm : ByteArray) (si su at' : Nat) (D : List Nat) (F : Nat → Int × Int) (m o co : Nat) : List Nat := beL 1 kd ++ beL 2 id ++ ntT kd nm si su at' D F m o co
set_option maxHeartbeats 16000000 in
theorem noteBytes_any (kd id : Nat) (nm : ByteArray) (si su at' : Nat) (a : Option Addr) (n cap : Nat) (q : Option Addr) (m cq : Nat) (o co : Nat) (D : List Nat) (F : Nat → Int × Int) (w : World) (hD : Rd w a n cap D) (hG : RdG w q m cq F) (hm : ntB kd id nm.size si su at' n m o co (alG F 65536 m) = true) :
    Calls Try.prog 50 #[.agg (ntA kd id nm si su at' (.slice a n cap) (.slice q m cq) o co)] w fun e w' => ∃ a' l' c', e = .returned (.slice a' l' c') ∧ Ans w' w.heap.size a' l' c' (ntL kd id nm si su at' D F m o co) ∧ w.grownBy w' none := by
  have hp : (id ≤ 65535 ∧ nm.size ≤ 32 ∧ n ≤ 1024 ∧ m ≤ 20 ∧ si ≤ 65536 ∧ su ≤ 4294967295 ∧ at' ≤ 65536 ∧ o ≤ 5 ∧ co ≤ 9) ∧ (1 ≤ kd ∧ kd ≤ 6) := by
    unfold ntB ptB brB at hm
    simp only [Bool.and_eq_true, decide_eq_true_eq] at hm
    obtain ⟨⟨h1, h2⟩, h3⟩ := hm
    have h1 := kwB_ok h1
    omega
  obtain ⟨⟨p1, p2, p3, p4, p5, p6, p7, p8, p9⟩, k1, k2⟩ := hp
  by_cases e1 : kd = 1
  case pos =>
    subst e1
    have bx := BxS.new w 27 #[.int .i64 1, .int .i64 id, .string nm, .int .i64 si, .int .i64 su, .int .i64 at', .slice a n cap, .slice q m cq, .int .i64 o, .int .i64 co]
    have g0 := World.grownBy_alloc w (.cells #[.int .i64 1, .int .i64 id, .string nm, .int .i64 si, .int .i64 su, .int .i64 at', .slice a n cap, .slice q m cq, .int .i64 o, .int .i64 co] 27) none
    unfold ntA
    generalize hw0 : w.alloc (.cells #[.int .i64 1, .int .i64 id, .string nm, .int .i64 si, .int .i64 su, .int .i64 at', .slice a n cap, .slice q m cq, .int .i64 o, .int .i64 co] 27) = w0 at bx g0
    obtain ⟨d0, d1, d2, d3, d4, d5, d6, d7, d8, d9⟩ := bx.cell10
    have t1 : True := trivial
    go_enter Try.func50, Try.ntmps50
    go_wp2_with (first
      | (go_at_call 87; have _t := t1; clear t1; refine (dput1 w0 w0.heap.size none 0 0 1 [] 1 w0 (Ans.nil _ _) (Nat.le_refl _) (Nat.le_refl _) (World.grownBy.refl _ _) (by decide) (by decide) (by decide)).mono ?_; rintro e w1 ⟨a1, c1, rfl, A1, g1⟩; clear d0 d1 d2 d3 d4 d5 d6 d7 d8 d9; obtain ⟨d0, d1, d2, d3, d4, d5, d6, d7, d8, d9⟩ := (bx.keep g1 (by simp)).cell10; have t2 : True := trivial)
      | (go_at_call 87; have _t := t2; clear t2; refine (dput1 w0 w0.heap.size a1 1 c1 2 _ id w1 A1 (Nat.le_refl _) g1.size g1 (by omega) (by decide) (by decide)).mono ?_; rintro e w2 ⟨a2, c2, rfl, A2, g2⟩; clear d0 d1 d2 d3 d4 d5 d6 d7 d8 d9; obtain ⟨d0, d1, d2, d3, d4, d5, d6, d7, d8, d9⟩ := (bx.keep g2 (by simp)).cell10; have t3 : True := trivial))
    obtain ⟨z0, z1, z2, z3, z4, z5, z6, z7, z8, z9⟩ := ((bx.keep g2 (by simp)).keep (World.grownBy_alloc w2 (.cells #[.int .i64 (si : Nat)] 3) none) (by simp)).cell10
    go_region_law (first
      | (go_simp; go_at_call 87; have _t := t3; clear t3; refine (dput1 w0 w0.heap.size a2 3 c2 4 _ si w2.drew (A2.keep (grown_drew _ _)) (Nat.le_refl _) g2.size (grown_trans g2 (grown_drew _ _)) (by omega) (by decide) (by decide)).mono ?_; rintro e w3 ⟨a3, c3, rfl, A3, g3⟩; clear d0 d1 d2 d3 d4 d5 d6 d7 d8 d9; obtain ⟨d0, d1, d2, d3, d4, d5, d6, d7, d8, d9⟩ := (bx.keep g3 (by simp)).cell10; have t4 : True := trivial)
      | (have _t := t4; clear t4; refine step_joinS rfl (.tmp 23) (.tmp 25) rfl a3 7 c3 w0.heap.size _ rfl A3 g3.size nm rfl (by omega) ?_; intro a4 c4 w4 A4 g4))
    all_goals (try go_simp)
    all_goals go_wp2
    all_goals
      have G4 : w.grownBy w4 none := grown_far (grown_trans g0 g3) g4 (fun x hx => Nat.le_trans g0.size (A3.new x hx))
      go_ret
      exact ⟨a4, _, c4, rfl, (A4.lower g0.size).as (by simp [ntL, ntT]), G4⟩
  by_cases e2 : kd = 2
  case pos =>
    subst e2
    have hn0 : 0 < n := by
      unfold ntB ptB at hm
      simp only [Bool.and_eq_true, decide_eq_true_eq] at hm
      omega
    obtain ⟨bD, oD, rfl, _, _⟩ := hD.at' hn0
    have bx := BxS.new w 27 #[.int .i64 2, .int .i64 id, .string nm, .int .i64 si, .int .i64 su, .int .i64 at', .slice (some ⟨bD, oD, none⟩) n cap, .slice q m cq, .int .i64 o, .int .i64 co]
    have g0 := World.grownBy_alloc w (.cells #[.int .i64 2, .int .i64 id, .string nm, .int .i64 si, .int .i64 su, .int .i64 at', .slice (some ⟨bD, oD, none⟩) n cap, .slice q m cq, .int .i64 o, .int .i64 co] 27) none
    unfold ntA
    generalize hw0 : w.alloc (.cells #[.int .i64 2, .int .i64 id, .string nm, .int .i64 si, .int .i64 su, .int .i64 at', .slice (some ⟨bD, oD, none⟩) n cap, .slice q m cq, .int .i64 o, .int .i64 co] 27) = w0 at bx g0
    obtain ⟨d0, d1, d2, d3, d4, d5, d6, d7, d8, d9⟩ := bx.cell10
    have t1 : True := trivial
    go_enter Try.func50, Try.ntmps50
    go_wp2_with (first
      | (go_at_call 87; have _t := t1; clear t1; refine (dput1 w0 w0.heap.size none 0 0 1 [] 2 w0 (Ans.nil _ _) (Nat.le_refl _) (Nat.le_refl _) (World.grownBy.refl _ _) (by decide) (by decide) (by decide)).mono ?_; rintro e w1 ⟨a1, c1, rfl, A1, g1⟩; clear d0 d1 d2 d3 d4 d5 d6 d7 d8 d9; obtain ⟨d0, d1, d2, d3, d4, d5, d6, d7, d8, d9⟩ := (bx.keep g1 (by simp)).cell10; have t2 : True := trivial)
      | (go_at_call 87; have _t := t2; clear t2; refine (dput1 w0 w0.heap.size a1 1 c1 2 _ id w1 A1 (Nat.le_refl _) g1.size g1 (by omega) (by decide) (by decide)).mono ?_; rintro e w2 ⟨a2, c2, rfl, A2, g2⟩; clear d0 d1 d2 d3 d4 d5 d6 d7 d8 d9; obtain ⟨d0, d1, d2, d3, d4, d5, d6, d7, d8, d9⟩ := (bx.keep g2 (by simp)).cell10; have t3 : True := trivial))
    obtain ⟨z0, z1, z2, z3, z4, z5, z6, z7, z8, z9⟩ := ((bx.keep g2 (by simp)).keep (World.grownBy_alloc w2 (.cells #[.int .i64 (at' : Nat)] 3) none) (by simp)).cell10
    go_region_law (first
      | (go_simp; go_at_call 87; have _t := t3; clear t3; refine (dput1 w0 w0.heap.size a2 3 c2 4 _ at' w2.drew (A2.keep (grown_drew _ _)) (Nat.le_refl _) g2.size (grown_trans g2 (grown_drew _ _)) (by omega) (by decide) (by decide)).mono ?_; rintro e w3 ⟨a3, c3, rfl, A3, g3⟩; clear d0 d1 d2 d3 d4 d5 d6 d7 d8 d9; obtain ⟨d0, d1, d2, d3, d4, d5, d6, d7, d8, d9⟩ := (bx.keep g3 (by simp)).cell10; have t4 : True := trivial)
      | (have _t := t4; clear t4; refine step_joinP rfl (.tmp 33) (.tmp 35) rfl a3 7 c3 w0.heap.size _ rfl A3 g3.size _ n cap D rfl (hD.keep (grown_trans g0 g3)) (by omega) (by omega) ?_; intro a4 c4 w4 A4 g4))
    all_goals (try go_simp)
    all_goals go_wp2
    all_goals
      have G4 : w.grownBy w4 none := grown_far (grown_trans g0 g3) g4 (fun x hx => Nat.le_trans g0.size (A3.new x hx))
      go_ret
      exact ⟨a4, _, c4, rfl, (A4.lower g0.size).as (by simp [ntL, ntT]), G4⟩
  by_cases e3 : kd = 3
  case pos =>
    subst e3
    have bx := BxS.new w 27 #[.int .i64 3, .int .i64 id, .string nm, .int .i64 si, .int .i64 su, .int .i64 at', .slice a n cap, .slice q m cq, .int .i64 o, .int .i64 co]
    have g0 := World.grownBy_alloc w (.cells #[.int .i64 3, .int .i64 id, .string nm, .int .i64 si, .int .i64 su, .int .i64 at', .slice a n cap, .slice q m cq, .int .i64 o, .int .i64 co] 27) none
    unfold ntA
    generalize hw0 : w.alloc (.cells #[.int .i64 3, .int .i64 id, .string nm, .int .i64 si, .int .i64 su, .int .i64 at', .slice a n cap, .slice q m cq, .int .i64 o, .int .i64 co] 27) = w0 at bx g0
    obtain ⟨d0, d1, d2, d3, d4, d5, d6, d7, d8, d9⟩ := bx.cell10
    have t1 : True := trivial
    go_enter Try.func50, Try.ntmps50
    go_wp2_with (first
      | (go_at_call 87; have _t := t1; clear t1; refine (dput1 w0 w0.heap.size none 0 0 1 [] 3 w0 (Ans.nil _ _) (Nat.le_refl _) (Nat.le_refl _) (World.grownBy.refl _ _) (by decide) (by decide) (by decide)).mono ?_; rintro e w1 ⟨a1, c1, rfl, A1, g1⟩; clear d0 d1 d2 d3 d4 d5 d6 d7 d8 d9; obtain ⟨d0, d1, d2, d3, d4, d5, d6, d7, d8, d9⟩ := (bx.keep g1 (by simp)).cell10; have t2 : True := trivial)
      | (go_at_call 87; have _t := t2; clear t2; refine (dput1 w0 w0.heap.size a1 1 c1 2 _ id w1 A1 (Nat.le_refl _) g1.size g1 (by omega) (by decide) (by decide)).mono ?_; rintro e w2 ⟨a2, c2, rfl, A2, g2⟩; clear d0 d1 d2 d3 d4 d5 d6 d7 d8 d9; obtain ⟨d0, d1, d2, d3, d4, d5, d6, d7, d8, d9⟩ := (bx.keep g2 (by simp)).cell10; have t3 : True := trivial)
      | (go_at_call 87; have _t := t3; clear t3; refine (dput2 w0 w0.heap.size a2 3 c2 4 _ si su w2 A2 (Nat.le_refl _) g2.size g2 (by omega) (by omega) (by decide) (by decide)).mono ?_; rintro e w3 ⟨a3, c3, rfl, A3, g3⟩; clear d0 d1 d2 d3 d4 d5 d6 d7 d8 d9; obtain ⟨d0, d1, d2, d3, d4, d5, d6, d7, d8, d9⟩ := (bx.keep g3 (by simp)).cell10; have t4 : True := trivial))
    go_ret
    exact ⟨a3, _, c3, rfl, (A3.lower g0.size).as (by simp [ntL, ntT]), grown_trans g0 g3⟩
  by_cases e4 : kd = 4
  case pos =>
    subst e4
    have bx := BxS.new w 27 #[.int .i64 4, .int .i64 id, .string nm, .int .i64 si, .int .i64 su, .int .i64 at', .slice a n cap, .slice q m cq, .int .i64 o, .int .i64 co]
    have g0 := World.grownBy_alloc w (.cells #[.int .i64 4, .int .i64 id, .string nm, .int .i64 si, .int .i64 su, .int .i64 at', .slice a n cap, .slice q m cq, .int .i64 o, .int .i64 co] 27) none
    unfold ntA
    generalize hw0 : w.alloc (.cells #[.int .i64 4, .int .i64 id, .string nm, .int .i64 si, .int .i64 su, .int .i64 at', .slice a n cap, .slice q m cq, .int .i64 o, .int .i64 co] 27) = w0 at bx g0
    obtain ⟨d0, d1, d2, d3, d4, d5, d6, d7, d8, d9⟩ := bx.cell10
    have t1 : True := trivial
    go_enter Try.func50, Try.ntmps50
    go_wp2_with (first
      | (go_at_call 87; have _t := t1; clear t1; refine (dput1 w0 w0.heap.size none 0 0 1 [] 4 w0 (Ans.nil _ _) (Nat.le_refl _) (Nat.le_refl _) (World.grownBy.refl _ _) (by decide) (by decide) (by decide)).mono ?_; rintro e w1 ⟨a1, c1, rfl, A1, g1⟩; clear d0 d1 d2 d3 d4 d5 d6 d7 d8 d9; obtain ⟨d0, d1, d2, d3, d4, d5, d6, d7, d8, d9⟩ := (bx.keep g1 (by simp)).cell10; have t2 : True := trivial)
      | (go_at_call 87; have _t := t2; clear t2; refine (dput1 w0 w0.heap.size a1 1 c1 2 _ id w1 A1 (Nat.le_refl _) g1.size g1 (by omega) (by decide) (by decide)).mono ?_; rintro e w2 ⟨a2, c2, rfl, A2, g2⟩; clear d0 d1 d2 d3 d4 d5 d6 d7 d8 d9; obtain ⟨d0, d1, d2, d3, d4, d5, d6, d7, d8, d9⟩ := (bx.keep g2 (by simp)).cell10; have t3 : True := trivial))
    have hal : alG F 65536 m = true := by
      unfold ntB ptB at hm
      simp only [Bool.and_eq_true, decide_eq_true_eq] at hm
      cases h : alG F 65536 m with
      | true => rfl
      | false => rw [h] at hm; simp at hm
    have HG := fun k (hk : k < m) => gpB_ok (alG_ok F 65536 m hal k hk)
    have i2 := Try.info_sp
    clear d0 d1 d2 d3 d4 d5 d6 d7 d8 d9
    go_loopw [3, 51] (fun l i wr => ∃ (k : Nat) (a3 : Option Addr) (c3 : Nat), k ≤ m ∧ i = .int .i64 k ∧ l = .slice a3 (3 + 8 * k) c3 ∧ Ans wr w0.heap.size a3 (3 + 8 * k) c3 (beL 1 4 ++ beL 2 id ++ gpL F k) ∧ w0.grownBy wr none) (fun _ i _ => m - (intOf i).toNat)
    case atStart => exact ⟨0, a2, c2, by omega, rfl, rfl, by simpa [gpL] using A2, g2⟩
    case round =>
      obtain ⟨k, a3, c3, hk, rfl, rfl, A3, g3⟩ := hrel
      by_cases hlt : k < m
      · have hki : (k : Int) < (m : Int) := by omega
        obtain ⟨b1, o1, rfl, _, cc⟩ := (hG.keep (grown_trans g0 g3)).at' (by omega)
        obtain ⟨x1, x2⟩ := cc k hlt
        obtain ⟨X, Y, hX, hY, hXl, hYl⟩ := HG k hlt
        have HS : Hid (gpL F (k + 1) = gpL F k ++ (beL 4 X ++ beL 4 Y)) := by
          show gpL F k ++ (beL 4 (F k).1.toNat ++ beL 4 (F k).2.toNat) = _
          rw [hX, hY]; rfl
        rw [hX] at x1
        rw [hY] at x2
        have hk0 : (0 : Int) ≤ (k : Int) := by omega
        have HB := BxS.new wr 82 #[.int .i64 0, .int .i64 0]
        have gB := World.grownBy_alloc wr (.cells #[.int .i64 0, .int .i64 0] 82) none
        clear cc HG hX hY
        have t5 : True := trivial
        go_wp2_with (first
          | (have _t := t5; refine wpList_stX _ rfl _ (.tmp 5) (.tmp 54) rfl wr.heap.size _ _ rfl rfl HB i2 rfl (by simp [Value.oneCell']) ?_; clear t5; intro w4 b4 g4; have k4 := grown_far (grown_trans g3 gB) g4 (fun q e => by have e : wr.heap.size = q := Option.some.inj e; have := g3.size; omega); have A4 := (A3.keep gB).kept g4 (ans_ne A3))
          | (go_at_call 87; refine (dput_any w0 w0.heap.size a3 (3 + 8 * k) c3 4 _ (some ⟨wr.heap.size, 0, none⟩) 2 2 [(X : Int), (Y : Int)] (fun i => if i = 0 then X else Y) w4 A4 (Nat.le_refl _) k4.size k4 (rdI_box b4) (fun b off e => by cases e; exact ans_below A3 (Nat.le_refl _)) (two_num X Y (by omega) (by omega)) (by decide) (by omega) (by decide)).mono ?_; rintro e w5 ⟨a5, c5, rfl, A5, g5⟩))
        go_roundw
        case rel =>
          refine ⟨k + 1, a5, c5, by omega, by go_num, ?_, ?_, g5⟩
          · show Value.slice a5 (3 + 8 * k + 4 * 2) c5 = .slice a5 (3 + 8 * (k + 1)) c5
            congr 1
          · rw [HS.out, show 3 + 8 * (k + 1) = 3 + 8 * k + 4 * 2 by omega, ← List.append_assoc]
            have e : pbL 4 (fun i => if i = 0 then X else Y) 2 = beL 4 X ++ beL 4 Y := by simp [pbL]
            rw [← e]; exact A5
        case measure => simp [intOf]; omega
      · obtain rfl : k = m := by omega
        go_wp2
        go_ret
        exact ⟨a3, _, c3, rfl, (A3.lower g0.size).as (by simp [ntL, ntT]), grown_trans g0 g3⟩
  by_cases e5 : kd = 5
  case pos =>
    subst e5
    have bx := BxS.new w 27 #[.int .i64 5, .int .i64 id, .string nm, .int .i64 si, .int .i64 su, .int .i64 at', .slice a n cap, .slice q m cq, .int .i64 o, .int .i64 co]
    have g0 := World.grownBy_alloc w (.cells #[.int .i64 5, .int .i64 id, .string nm, .int .i64 si, .int .i64 su, .int .i64 at', .slice a n cap, .slice q m cq, .int .i64 o, .int .i64 co] 27) none
    unfold ntA
    generalize hw0 : w.alloc (.cells #[.int .i64 5, .int .i64 id, .string nm, .int .i64 si, .int .i64 su, .int .i64 at', .slice a n cap, .slice q m cq, .int .i64 o, .int .i64 co] 27) = w0 at bx g0
    obtain ⟨d0, d1, d2, d3, d4, d5, d6, d7, d8, d9⟩ := bx.cell10
    have t1 : True := trivial
    go_enter Try.func50, Try.ntmps50
    go_wp2_with (first
      | (go_at_call 87; have _t := t1; clear t1; refine (dput1 w0 w0.heap.size none 0 0 1 [] 5 w0 (Ans.nil _ _) (Nat.le_refl _) (Nat.le_refl _) (World.grownBy.refl _ _) (by decide) (by decide) (by decide)).mono ?_; rintro e w1 ⟨a1, c1, rfl, A1, g1⟩; clear d0 d1 d2 d3 d4 d5 d6 d7 d8 d9; obtain ⟨d0, d1, d2, d3, d4, d5, d6, d7, d8, d9⟩ := (bx.keep g1 (by simp)).cell10; have t2 : True := trivial)
      | (go_at_call 87; have _t := t2; clear t2; refine (dput1 w0 w0.heap.size a1 1 c1 2 _ id w1 A1 (Nat.le_refl _) g1.size g1 (by omega) (by decide) (by decide)).mono ?_; rintro e w2 ⟨a2, c2, rfl, A2, g2⟩; clear d0 d1 d2 d3 d4 d5 d6 d7 d8 d9; obtain ⟨d0, d1, d2, d3, d4, d5, d6, d7, d8, d9⟩ := (bx.keep g2 (by simp)).cell10; have t3 : True := trivial)
      | (go_at_call 87; have _t := t3; clear t3; refine (dput1 w0 w0.heap.size a2 3 c2 1 _ co w2 A2 (Nat.le_refl _) g2.size g2 (by omega) (by decide) (by decide)).mono ?_; rintro e w3 ⟨a3, c3, rfl, A3, g3⟩; clear d0 d1 d2 d3 d4 d5 d6 d7 d8 d9; obtain ⟨d0, d1, d2, d3, d4, d5, d6, d7, d8, d9⟩ := (bx.keep g3 (by simp)).cell10; have t4 : True := trivial))
    go_ret
    exact ⟨a3, _, c3, rfl, (A3.lower g0.size).as (by simp [ntL, ntT]), grown_trans g0 g3⟩
  by_cases e6 : kd = 6
  case pos =>
    subst e6
    have bx := BxS.new w 27 #[.int .i64 6, .int .i64 id, .string nm, .int .i64 si, .int .i64 su, .int .i64 at', .slice a n cap, .slice q m cq, .int .i64 o, .int .i64 co]
    have g0 := World.grownBy_alloc w (.cells #[.int .i64 6, .int .i64 id, .string nm, .int .i64 si, .int .i64 su, .int .i64 at', .slice a n cap, .slice q m cq, .int .i64 o, .int .i64 co] 27) none
    unfold ntA
    generalize hw0 : w.alloc (.cells #[.int .i64 6, .int .i64 id, .string nm, .int .i64 si, .int .i64 su, .int .i64 at', .slice a n cap, .slice q m cq, .int .i64 o, .int .i64 co] 27) = w0 at bx g0
    obtain ⟨d0, d1, d2, d3, d4, d5, d6, d7, d8, d9⟩ := bx.cell10
    have t1 : True := trivial
    go_enter Try.func50, Try.ntmps50
    go_wp2_with (first
      | (go_at_call 87; have _t := t1; clear t1; refine (dput1 w0 w0.heap.size none 0 0 1 [] 6 w0 (Ans.nil _ _) (Nat.le_refl _) (Nat.le_refl _) (World.grownBy.refl _ _) (by decide) (by decide) (by decide)).mono ?_; rintro e w1 ⟨a1, c1, rfl, A1, g1⟩; clear d0 d1 d2 d3 d4 d5 d6 d7 d8 d9; obtain ⟨d0, d1, d2, d3, d4, d5, d6, d7, d8, d9⟩ := (bx.keep g1 (by simp)).cell10; have t2 : True := trivial)
      | (go_at_call 87; have _t := t2; clear t2; refine (dput1 w0 w0.heap.size a1 1 c1 2 _ id w1 A1 (Nat.le_refl _) g1.size g1 (by omega) (by decide) (by decide)).mono ?_; rintro e w2 ⟨a2, c2, rfl, A2, g2⟩; clear d0 d1 d2 d3 d4 d5 d6 d7 d8 d9; obtain ⟨d0, d1, d2, d3, d4, d5, d6, d7, d8, d9⟩ := (bx.keep g2 (by simp)).cell10; have t3 : True := trivial)
      | (go_at_call 87; have _t := t3; clear t3; refine (dput1 w0 w0.heap.size a2 3 c2 1 _ o w2 A2 (Nat.le_refl _) g2.size g2 (by omega) (by decide) (by decide)).mono ?_; rintro e w3 ⟨a3, c3, rfl, A3, g3⟩; clear d0 d1 d2 d3 d4 d5 d6 d7 d8 d9; obtain ⟨d0, d1, d2, d3, d4, d5, d6, d7, d8, d9⟩ := (bx.keep g3 (by simp)).cell10; have t4 : True := trivial))
    go_ret
    exact ⟨a3, _, c3, rfl, (A3.lower g0.size).as (by simp [ntL, ntT]), grown_trans g0 g3⟩
  omega
end
end Go.Proofs.Ytnimehkfnpepfaa
