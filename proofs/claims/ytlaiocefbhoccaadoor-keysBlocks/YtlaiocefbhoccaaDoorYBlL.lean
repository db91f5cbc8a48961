import Derived.Test.YtlaiocefbhoccaaDoorYBl
import Derived.Test.YtlaiocefbhoccaaDoorYPd
namespace Go.Proofs.YtlaiocefbhoccaaDoor
open Go.RowKit
set_option maxRecDepth 100000
set_option linter.unusedVariables false
set_option linter.unusedSimpArgs false
theorem blE_zero {n : Nat} {S : List Int} {z x : Int} (h : blE n S z x = 0) : n = 8 ∧ (∀ i, i < 8 → nthI S i = ((nthI S i).toNat : Int) ∧ (nthI S i).toNat < 4294967296) ∧ (0 ≤ z ∧ z ≤ 281474976710655) ∧ (0 ≤ x ∧ x ≤ 1000) := by
  unfold blE at h
  by_cases h0 : wdE n S = 0
  · rw [if_pos h0] at h
    by_cases h1 : kwB z 0 281474976710655 = true ∧ kwB x 0 1000 = true
    · unfold wdE at h0
      by_cases h8 : n = 8
      · rw [if_pos h8] at h0
        by_cases hw : wdB S = true
        · exact ⟨h8, fun i hi => by have := wdB_ok hw i hi; omega, kwB_ok h1.1, kwB_ok h1.2⟩
        · rw [if_neg hw] at h0; omega
      · rw [if_neg h8] at h0; omega
    · rw [if_neg h1] at h; omega
  · rw [if_neg h0] at h; exact absurd h h0
set_option maxHeartbeats 2000000 in
theorem blocks_walk (a : Option Addr) (n cap : Nat) (z x : Int) (S : List Int) (w : World) (hL : Lin w) (hp : RdI w a n cap S) (hn : n ≤ 17592186044000) :
    Calls Tryd.prog 3 #[.slice a n cap, .int .i64 z, .int .i64 x] w fun e w' => e = .returned (.bool true) ∧ Below w.heap.size w w' := by
  by_cases he : blE n S z x = 0
  · obtain ⟨rfl, hW, ⟨z0, z1⟩, x0, x1⟩ := blE_zero he
    obtain ⟨c, rfl⟩ : ∃ c : Nat, z = (c : Int) := ⟨z.toNat, by omega⟩
    obtain ⟨xn, rfl⟩ : ∃ c : Nat, x = (c : Int) := ⟨x.toNat, by omega⟩
    have t1 : True := trivial
    generalize hWW : (fun i => (nthI S i).toNat) = W
    have hW' : ∀ i, i < 8 → nthI S i = (W i : Int) ∧ W i < 4294967296 := fun i hi => by rw [← hWW]; exact hW i hi
    have hb : ∀ i, padB W c xn i < 256 := fun i => Nat.mod_lt _ (by decide)
    have HPL : Hid (padL W c xn = (List.range 64).map (padB W c xn)) := rfl
    clear hW hWW
    go_enter Tryd.func3, Tryd.ntmps3
    go_wp2_with (first
      | (go_at_call 9; refine (copied_any a 8 cap S w hp hn).mono ?_; rintro e w1 ⟨aw, cw, rfl, hA1, g01⟩; have hp1 := hp.keep g01)
      | (go_at_call 10; have _t := t1; clear t1; refine (pad_ok a cap c xn S W w1 hp1 hW' (by omega) (by omega)).mono ?_; rintro e w2 ⟨ar, cr, rfl, hR2, g12⟩; have hA2 := hA1.keep g12; have L2 := hL.keep (grown_trans g01 g12); have t2 : True := trivial)
      | (go_at_call 11; have _t := t2; clear t2; refine (block_ok aw cw c xn S W w2 L2 hA2.rd hW' (by omega) (by omega) he).mono ?_; rintro e w3 ⟨ga, la, rfl, hK3, g23⟩; have hA3 := hA2.keep g23; have L3 := L2.keep g23; have t3 : True := trivial)
      | (go_at_call 11; have _t := t3; clear t3; refine (block_ok aw cw c xn S W w3 L3 hA3.rd hW' (by omega) (by omega) he).mono ?_; rintro e w4 ⟨gb, lb, rfl, hK4, g34⟩; have t4 : True := trivial)
      | (go_at_call 12; have _t := t4; clear t4; refine (twiceK_any ga 64 _ (padB W c xn) (some ⟨gb, 0, none⟩) ar 64 64 64 cr w4 (hK3.keep g34) hb (by decide) (by decide) (hK4.rd (by decide) hb) (by rw [← HPL.out]; exact (hR2.keep (grown_trans g23 g34)).rd) (fun g' off e e2 => by cases e; cases e2; have := hK3.lt; omega) (fun g' off e e2 => by
          rcases hR2.cases with ⟨h, _⟩ | ⟨g'', h, _, hl⟩
          · rw [h] at e; cases e
          · rw [h] at e; cases e; cases e2; omega)).mono ?_; rintro e w5 ⟨rfl, g45⟩; have g15 := grown_far (grown_trans g12 (grown_trans g23 g34)) g45 (fun g e => by cases e; have := g12.size; omega); have t5 : True := trivial)
      | (go_at_call 13; have _t := t5; clear t5; refine (sameInts_any aw a 8 8 cw cap S w5 (hA1.keep g15).rd (hp1.keep g15)).mono ?_; rintro e w6 ⟨rfl, g56⟩))
    go_ret
    exact ⟨rfl, (Below.refl _ _).grown (grown_trans g01 (grown_trans g15 g56)) (Nat.le_refl _) (fun k hk => by cases hk)⟩
  · have t1 : True := trivial
    have hx1 := fun w' (h : RdI w' a n cap S) => pad_bad a n cap z x S w' h he
    have hx2 := fun b c w' (h : RdI w' b n c S) => block_bad b n c z x S w' h he
    generalize blE n S z x = E at *
    go_enter Tryd.func3, Tryd.ntmps3
    go_wp2_with (first
      | (go_at_call 9; refine (copied_any a n cap S w hp hn).mono ?_; rintro e w1 ⟨aw, cw, rfl, hA1, g01⟩; have hp1 := hp.keep g01)
      | (go_at_call 10; have _t := t1; clear t1; refine (hx1 w1 hp1).mono ?_; rintro e w2 ⟨rfl, hw⟩; have hw := hw.symm; subst hw; have t2 : True := trivial)
      | (go_at_call 11; have _t := t2; clear t2; refine (hx2 aw cw w1 hA1.rd).mono ?_; rintro e w3 ⟨rfl, hw⟩; have hw := hw.symm; subst hw; have t3 : True := trivial)
      | (go_at_call 11; have _t := t3; clear t3; refine (hx2 aw cw w1 hA1.rd).mono ?_; rintro e w3 ⟨rfl, hw⟩; have hw := hw.symm; subst hw; have t4 : True := trivial)
      | (go_at_call 12; have _t := t4; clear t4; refine (twice_any none none none 0 0 0 0 0 0 0 [] w1 (ans_nil _ _) (ans_nil w1 0).rd (ans_nil w1 0).rd (by omega) (fun g off e => by cases e) (fun g off e => by cases e)).mono ?_; rintro e w5 ⟨rfl, g15⟩; have g15 : w1.grownBy w5 none := g15; have t5 : True := trivial)
      | (go_at_call 13; have _t := t5; clear t5; refine (sameInts_any aw a n n cw cap S w5 (hA1.keep g15).rd (hp1.keep g15)).mono ?_; rintro e w6 ⟨rfl, g56⟩))
    go_ret
    exact ⟨rfl, (Below.refl _ _).grown (grown_trans g01 (grown_trans g15 g56)) (Nat.le_refl _) (fun k hk => by cases hk)⟩
end Go.Proofs.YtlaiocefbhoccaaDoor
