import Derived.Test.YtmcadmndmafogaaPJo1
namespace Go.Proofs.Ytmcadmndmafogaa
open Go.RowKit
set_option maxRecDepth 100000
set_option linter.unusedVariables false
set_option linter.unusedSimpArgs false

theorem grow_int (kz : Int) (k : Nat) (w : World) (ek : kz = k) (hk : 0 < k) (hb : k ≤ 140737488355328) :
    Calls Try.prog 48 #[.slice none 0 0, .int .i64 kz] w fun e w' => ∃ g cap, e = .returned (.slice (some ⟨g, 0, none⟩) 0 cap) ∧ Ans w' w.heap.size (some ⟨g, 0, none⟩) 0 cap [] ∧ w.grownBy w' none := by
  subst ek; exact grow_nil k w hk hb
set_option maxHeartbeats 4000000 in
theorem concat2_any (a b : Option Addr) (n m c d g0 : Nat) (U D : List Nat) (w : World) (hg : w.heap[g0]? = some (.cells #[.slice a n c, .slice b m d] 23)) (hU : Rd w a n c U) (hD : Rd w b m d D) (h0 : 0 < n) (h1 : 0 < m) (hn : n + m ≤ 140737488355328) :
    Calls Try.prog 47 #[.slice (some ⟨g0, 0, none⟩) 2 2] w fun e w' => ∃ g cap, e = .returned (.slice (some ⟨g, 0, none⟩) (n + m) cap) ∧ Ans w' w.heap.size (some ⟨g, 0, none⟩) (n + m) cap (U ++ D) ∧ w.grownBy w' none := by
  have k0 : w.cell? ⟨g0, 0, none⟩ = some (.slice a n c) := by simp [World.cell?, hg]
  have k1 : w.cell? ⟨g0, 1, none⟩ = some (.slice b m d) := by simp [World.cell?, hg]
  have hlt : g0 < w.heap.size := (Array.getElem?_eq_some_iff.1 hg).1
  have d0 : decide ((n : Int) < 0) = false := decide_eq_false (by omega)
  have d1 : decide ((n : Int) + (m : Int) < 0) = false := decide_eq_false (by omega)
  have e1 : ∀ w', w.grownBy w' none → w'.cell? ⟨g0, 0, none⟩ = some (.slice a n c) ∧ w'.cell? ⟨g0, 1, none⟩ = some (.slice b m d) := fun w' h => by
    have := (h.block g0 hlt (by simp)).trans hg
    simp [World.cell?, this]
  have t1 : True := trivial
  go_enter Try.func47, Try.ntmps47
  go_wp2
  refine wp_loop_rounds 3 ?_
  rw [rounds_succ]
  go_wp2
  rw [rounds_succ]
  go_wp2
  rw [rounds_succ]
  have hnm : ((n : Int) + (m : Int)) = ((n + m : Nat) : Int) := by omega
  have HNM : Hid (_ = _) := hnm
  clear hnm
  go_wp2_with (first
    | (go_at_call 48; refine (grow_int _ (n + m) w HNM.out (by omega) hn).mono ?_; rintro e w1 ⟨g1, c1, rfl, hA1, G1⟩; obtain ⟨q0, q1⟩ := e1 w1 G1; have hU1 := hU.keep G1; have M1 : Mine w none (some ⟨g1, 0, none⟩) 0 c1 := fun g hg => .inr (hA1.new g hg)))
  refine wp_loop_rounds 3 ?_
  rw [rounds_succ]
  go_wp2_with (first
    | (at_builtin; have _t := t1; refine wpList_join w w1 rfl _ _ rfl (some ⟨g1, 0, none⟩) 0 c1 w.heap.size none [] rfl hA1 G1 M1 (Nat.le_refl _) a n c U rfl hU1 h0 (by omega) ?_; clear t1; intro g2 c2 w2 hA2 G2 M2; rw [Nat.zero_add, List.nil_append] at hA2; rw [Nat.zero_add] at M2; obtain ⟨r0, r1⟩ := e1 w2 G2; have hD2 := hD.keep G2; have t2 : True := trivial))
  rw [rounds_succ]
  go_wp2_with (first
    | (at_builtin; have _t := t2; refine wpList_join w w2 rfl _ _ rfl (some ⟨g2, 0, none⟩) n c2 w.heap.size none _ rfl hA2 G2 M2 (Nat.le_refl _) b m d D rfl hD2 h1 (by omega) ?_; clear t2; intro g3 c3 w3 hA3 G3 M3))
  rw [rounds_succ]
  go_wp2
  go_ret
  exact ⟨g3, c3, rfl, hA3, G3⟩
end Go.Proofs.Ytmcadmndmafogaa
