import Derived.Test.YtkjcpoapkkaagaaKOr1
namespace Go.Proofs.Ytkjcpoapkkaagaa
open Go.RowKit
set_option maxRecDepth 100000
set_option linter.unusedVariables false
set_option linter.unusedSimpArgs false

/-- a gate -/
structure Gt where
  cr : Int
  nx : Int
  ha : Int
  sh : Bool
  wa : Bool
  ag : Bool
  ct : Int
def Gt.A (g : Gt) : Array Value := gtA g.cr g.nx g.ha g.sh g.wa g.ag g.ct
def Gt.may (g : Gt) : Bool := gtB g.cr g.nx g.ha g.ct
def Gt.cnt (g : Gt) : Gt := { g with ct := (g.ct + 1) % 4 }
def Gt.calm (g : Gt) : Gt := { g with wa := false, ag := false }
/-- an order that has to be the next one -/
def Gt.que (g : Gt) (sq : Int) (room : Bool) : Gt × Nat :=
  if g.sh = true then (g, 15)
  else if (sq - g.nx) % 256 = 0 then (if room = true then ((Gt.mk g.cr ((g.nx + 1) % 256) g.ha g.sh false false g.ct), 0) else (Gt.mk g.cr g.nx g.ha g.sh true true g.ct, 12))
  else if (sq - g.nx) % 256 < g.ha then (Gt.mk g.cr g.nx g.ha g.sh g.wa true g.ct, 7)
  else if 256 - g.ha ≤ (sq - g.nx) % 256 then (g, 13) else (Gt.mk g.cr g.nx g.ha true g.wa g.ag g.ct, 15)
theorem gmay_ok {g : Gt} (h : g.may = true) : (0 ≤ g.cr ∧ g.cr ≤ 1023) ∧ (0 ≤ g.nx ∧ g.nx ≤ 255) ∧ (1 ≤ g.ha ∧ g.ha ≤ 127) ∧ (0 ≤ g.ct ∧ g.ct ≤ 3) := by
  unfold Gt.may gtB at h
  simp only [Bool.and_eq_true_iff] at h
  obtain ⟨⟨⟨a1, a2⟩, a3⟩, a4⟩ := h
  exact ⟨kwB_ok a1, kwB_ok a3, kwB_ok a2, kwB_ok a4⟩
theorem BxS.same {w : World} {g : Nat} {t : TypeId} {A B : Array Value} (h : BxS w g t A) (e : A = B) : BxS w g t B := e ▸ h
set_option maxHeartbeats 2000000 in
theorem count_any (b : Nat) (cr nx ha : Int) (sh wa ag : Bool) (ct : Int) (w : World) (h : BxS w b 89 (gtA cr nx ha sh wa ag ct)) (h0 : 0 ≤ ct) (h3 : ct ≤ 3) :
    Calls Try.prog 80 #[.pointer (some ⟨b, 0, none⟩)] w fun e w' => e = .returned (.tuple #[]) ∧ BxS w' b 89 (gtA cr nx ha sh wa ag ((ct + 1) % 4)) ∧ w.grownBy w' (some b) := by
  obtain ⟨c0, c1, c2, c3, c4, c5, c6⟩ := BxS.cell7 h
  have f6 := h.free 6
  have hS : Hid _ := h.set 6 (.int .i64 ((ct + 1) % 4))
  have gS := grown_set w b 6 (.int .i64 ((ct + 1) % 4))
  obtain ⟨k, rfl⟩ := Int.eq_ofNat_of_zero_le h0
  have ha' : bits .and .i64 ((k : Int) + 1) 3 = ((k : Int) + 1) % 4 := by
    rw [show ((k : Int) + 1) = ((k + 1 : Nat) : Int) by omega]
    exact i64_low (k + 1) 2 (by omega) (by decide)
  go_enter Try.func80, Try.ntmps80
  go_wp2
  go_end0
  exact ⟨rfl, hS.out, gS⟩
set_option maxHeartbeats 2000000 in
theorem calm_any (b : Nat) (cr nx ha : Int) (sh wa ag : Bool) (ct : Int) (w : World) (h : BxS w b 89 (gtA cr nx ha sh wa ag ct)) :
    Calls Try.prog 89 #[.pointer (some ⟨b, 0, none⟩)] w fun e w' => e = .returned (.tuple #[]) ∧ BxS w' b 89 (gtA cr nx ha sh false false ct) ∧ w.grownBy w' (some b) := by
  obtain ⟨c0, c1, c2, c3, c4, c5, c6⟩ := BxS.cell7 h
  have f4 := h.free 4
  have hS := h.set 4 (.bool false)
  have f5 := hS.free 5
  have c5' := (BxS.cell7 hS).2.2.2.2.2.1
  have hT : Hid _ := hS.set 5 (.bool false)
  have gS := grown_trans (grown_set w b 4 (.bool false)) (grown_set (w.setCell ⟨b, 4, none⟩ (.bool false)) b 5 (.bool false))
  go_enter Try.func89, Try.ntmps89
  go_wp2
  go_end0
  exact ⟨rfl, hT.out, gS⟩
set_option maxHeartbeats 8000000 in
theorem queue_any (b : Nat) (g : Gt) (sq : Int) (room : Bool) (w : World) (h : BxS w b 89 g.A) (hg : g.may = true) (s0 : 0 ≤ sq) (s1 : sq ≤ 255) :
    Calls Try.prog 81 #[.pointer (some ⟨b, 0, none⟩), .int .i64 sq, .bool room] w fun e w' => e = .returned (.int .i64 ((g.que sq room).2 : Nat)) ∧ BxS w' b 89 (g.que sq room).1.A ∧ w.grownBy w' (some b) := by
  obtain ⟨⟨q1, q2⟩, ⟨n1, n2⟩, ⟨a1, a2⟩, ⟨k1, k2⟩⟩ := gmay_ok hg
  obtain ⟨cr, nx, ha, sh, wa, ag, ct⟩ := g
  unfold Gt.que
  simp only [Gt.A] at h n1 n2 a1 a2 k1 k2 q1 q2 ⊢
  clear hg
  obtain ⟨c0, c1, c2, c3, c4, c5, c6⟩ := BxS.cell7 h
  have t1 : True := trivial
  cases sh
  case true =>
    rw [if_pos rfl]
    go_enter Try.func81, Try.ntmps81
    go_wp2
    go_ret
    exact ⟨rfl, h, World.grownBy.refl _ _⟩
  rw [if_neg (by decide)]
  have hA := fun wz => around_any (sq - nx) wz
  have hd0 : 0 ≤ (sq - nx) % 256 := by omega
  have hd1 : (sq - nx) % 256 < 256 := by omega
  generalize (sq - nx) % 256 = d at hA hd0 hd1 ⊢
  by_cases h0 : d = 0
  · rw [if_pos h0]
    subst h0
    cases room
    · have f4 := h.free 4
      have hS := h.set 4 (.bool true)
      have f5 := hS.free 5
      have c5' := (BxS.cell7 hS).2.2.2.2.2.1
      have hT : Hid _ := hS.set 5 (.bool true)
      have gS := grown_trans (grown_set w b 4 (.bool true)) (grown_set (w.setCell ⟨b, 4, none⟩ (.bool true)) b 5 (.bool true))
      go_enter Try.func81, Try.ntmps81
      go_wp2_with (first
        | (go_at_call 90; refine (hA _).mono ?_; rintro e wx ⟨rfl, hw⟩; have hw := hw.symm; subst hw))
      go_ret
      exact ⟨rfl, hT.out, gS⟩
    · have hB := fun wz => around_any (nx + 1) wz
      generalize (nx + 1) % 256 = y at hB ⊢
      have f1 := h.free 1
      have hS : BxS _ b 89 (gtA cr y ha false wa ag ct) := h.set 1 (.int .i64 y)
      have gS := grown_set w b 1 (.int .i64 y)
      have hC := calm_any b cr y ha false wa ag ct _ hS
      go_enter Try.func81, Try.ntmps81
      go_wp2_with (first
        | (go_at_call 90; have _t := t1; clear t1; refine (hA _).mono ?_; rintro e wx ⟨rfl, hw⟩; have hw := hw.symm; subst hw; have t2 : True := trivial)
        | (go_at_call 90; have _t := t2; clear t2; refine (hB _).mono ?_; rintro e wx ⟨rfl, hw⟩; have hw := hw.symm; subst hw)
        | (go_at_call 89; refine hC.mono ?_; rintro e w2 ⟨rfl, h2, g2⟩))
      go_ret
      exact ⟨rfl, h2, grown_trans gS g2⟩
  · rw [if_neg h0]
    have l0 : ((d == 0) : Bool) = false := by simp; omega
    by_cases h1 : d < ha
    · rw [if_pos h1]
      have f5 := h.free 5
      have hS : Hid _ := h.set 5 (.bool true)
      have gS := grown_set w b 5 (.bool true)
      go_enter Try.func81, Try.ntmps81
      go_wp2_with (first
        | (go_at_call 90; refine (hA _).mono ?_; rintro e wx ⟨rfl, hw⟩; have hw := hw.symm; subst hw))
      go_ret
      exact ⟨rfl, hS.out, gS⟩
    · rw [if_neg h1]
      by_cases h2 : 256 - ha ≤ d
      · rw [if_pos h2]
        have l2 : 255 - ha < d := by omega
        go_enter Try.func81, Try.ntmps81
        go_wp2_with (first
          | (go_at_call 90; refine (hA _).mono ?_; rintro e wx ⟨rfl, hw⟩; have hw := hw.symm; subst hw))
        go_ret
        exact ⟨rfl, h, World.grownBy.refl _ _⟩
      · rw [if_neg h2]
        have l2 : ¬ 255 - ha < d := by omega
        have f3 := h.free 3
        have hS : Hid _ := h.set 3 (.bool true)
        have gS := grown_set w b 3 (.bool true)
        go_enter Try.func81, Try.ntmps81
        go_wp2_with (first
          | (go_at_call 90; refine (hA _).mono ?_; rintro e wx ⟨rfl, hw⟩; have hw := hw.symm; subst hw))
        go_ret
        exact ⟨rfl, hS.out, gS⟩
end Go.Proofs.Ytkjcpoapkkaagaa
