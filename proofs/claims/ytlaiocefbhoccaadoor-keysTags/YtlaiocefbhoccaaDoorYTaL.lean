import Derived.Test.YtlaiocefbhoccaaDoorYTa
namespace Go.Proofs.YtlaiocefbhoccaaDoor
open Go.RowKit
set_option maxRecDepth 100000
set_option linter.unusedVariables false
set_option linter.unusedSimpArgs false
set_option maxHeartbeats 2000000 in
theorem tags_walk (a bo : Option Addr) (n cap m cb : Nat) (z : Int) (S : List Int) (B : List Nat) (w : World) (hL : Lin w) (hp : RdI w a n cap S) (hn : n ≤ 17592186044000) (hb : Rd w bo m cb B) (hm : m ≤ 140737488351232) :
    Calls Tryd.prog 4 #[.slice a n cap, .int .i64 z, .slice bo m cb] w fun e w' => e = .returned (.bool true) ∧ Below w.heap.size w w' := by
  have t1 : True := trivial
  by_cases he : blE n S z 0 = 0
  · obtain ⟨rfl, hW, ⟨z0, z1⟩, _⟩ := blE_zero' he
    obtain ⟨c, rfl⟩ : ∃ c : Nat, z = (c : Int) := ⟨z.toNat, by omega⟩
    generalize hWW : (fun i => (nthI S i).toNat) = W
    have hW' : ∀ i, i < 8 → nthI S i = (W i : Int) ∧ W i < 4294967296 := fun i hi => by rw [← hWW]; exact hW i hi
    have hcl : c < 281474976710656 := by omega
    clear hW hWW
    by_cases h2 : m ≤ 2000
    · go_enter Tryd.func4, Tryd.ntmps4
      go_wp2_with (first
        | (go_at_call 9; refine (copied_any a 8 cap S w hp hn).mono ?_; rintro e w1 ⟨aw, cw, rfl, hA1, g01⟩; have hb1 := hb.keep g01)
        | (go_at_call 14; refine (roomy_any bo m cb B w1 hb1 hm).mono ?_; rintro e w2 ⟨rfl, ⟨Dh, hh2⟩, g12⟩; have g02 := grown_trans g01 g12)
        | (go_at_call 15; have _t := t1; clear t1; refine (tagP_ok a bo cap c m cb S W B w2 (hp.keep g02) hW' hcl (hb.keep g02) h2).mono ?_; rintro e w3 ⟨ar, cr, rfl, hR3, g23⟩; have hA3 := hA1.keep (grown_trans g12 g23); have L3 := hL.keep (grown_trans g02 g23); have hH3 := (hh2.keep g23).rd hb.byte hb.len hm; have t2 : True := trivial)
        | (go_at_call 16; have _t := t2; clear t2; refine (tag_ok aw _ cw c m _ S W B w3 L3 hA3.rd hW' hcl he hH3 h2).mono ?_; rintro e w4 ⟨aa, ca, rfl, ha4, g34⟩; have hA4 := hA3.keep g34; have L4 := L3.keep g34; have hH4 := hH3.keep g34; have t3 : True := trivial)
        | (go_at_call 16; have _t := t3; clear t3; refine (tag_ok aw _ cw c m _ S W B w4 L4 hA4.rd hW' hcl he hH4 h2).mono ?_; rintro e w5 ⟨ab, cb', rfl, hb5, g45⟩; have t4 : True := trivial)
        | (go_at_call 12; have _t := t4; clear t4; refine (twice_any aa ab ar 8 8 8 ca cb' cr w3.heap.size _ w5 (ha4.keep g45) hb5.rd (hR3.keep (grown_trans g34 g45)).rd (by omega) (ha4.later hb5 (Nat.le_refl _)) (ha4.earlier hR3 (Nat.le_refl _))).mono ?_; rintro e w6 ⟨rfl, g56⟩; have g26 := grown_far (grown_trans g23 (grown_trans g34 g45)) g56 (ha4.far _ g23.size); have t5 : True := trivial)
        | (go_at_call 13; have _t := t5; clear t5; refine (sameInts_any aw a 8 8 cw cap S w6 (hA1.keep (grown_trans g12 g26)).rd (hp.keep (grown_trans g02 g26))).mono ?_; rintro e w7 ⟨rfl, g67⟩; have g27 := grown_trans g26 g67; have t6 : True := trivial)
        | (go_at_call 17; have _t := t6; clear t6; refine (left_any w1.heap.size bo m cb B Dh w7 (hh2.keep g27) (hb.keep (grown_trans g02 g27)) hm).mono ?_; rintro e w8 ⟨rfl, g78⟩))
      go_ret
      exact ⟨rfl, (Below.refl _ _).grown (grown_trans g02 (grown_trans g27 g78)) (Nat.le_refl _) (fun k hk => by cases hk)⟩
    · have h2' : 2000 < m := by omega
      go_enter Tryd.func4, Tryd.ntmps4
      go_wp2_with (first
        | (go_at_call 9; refine (copied_any a 8 cap S w hp hn).mono ?_; rintro e w1 ⟨aw, cw, rfl, hA1, g01⟩; have hb1 := hb.keep g01)
        | (go_at_call 14; refine (roomy_any bo m cb B w1 hb1 hm).mono ?_; rintro e w2 ⟨rfl, ⟨Dh, hh2⟩, g12⟩; have g02 := grown_trans g01 g12)
        | (go_at_call 15; have _t := t1; clear t1; refine (tagP_long a bo cap c m cb S W B w2 (hp.keep g02) hW' hcl (hb.keep g02) h2').mono ?_; rintro e w3 ⟨rfl, g23⟩; have hA3 := hA1.keep (grown_trans g12 g23); have hH3 := (hh2.keep g23).rd hb.byte hb.len hm; have t2 : True := trivial)
        | (go_at_call 16; have _t := t2; clear t2; refine (tag_long aw _ 8 cw m _ c S B w3 hA3.rd he hH3 h2').mono ?_; rintro e w4 ⟨rfl, hw⟩; have hw := hw.symm; subst hw; have t3 : True := trivial)
        | (go_at_call 16; have _t := t3; clear t3; refine (tag_long aw _ 8 cw m _ c S B w3 hA3.rd he hH3 h2').mono ?_; rintro e w5 ⟨rfl, hw⟩; have hw := hw.symm; subst hw; have t4 : True := trivial)
        | (go_at_call 12; have _t := t4; clear t4; refine (twice_any none none none 0 0 0 0 0 0 0 [] w3 (ans_nil _ _) (ans_nil w3 0).rd (ans_nil w3 0).rd (by omega) (fun g off e => by cases e) (fun g off e => by cases e)).mono ?_; rintro e w6 ⟨rfl, g36⟩; have g36 : w3.grownBy w6 none := g36; have g26 := grown_trans g23 g36; have t5 : True := trivial)
        | (go_at_call 13; have _t := t5; clear t5; refine (sameInts_any aw a 8 8 cw cap S w6 (hA1.keep (grown_trans g12 g26)).rd (hp.keep (grown_trans g02 g26))).mono ?_; rintro e w7 ⟨rfl, g67⟩; have g27 := grown_trans g26 g67; have t6 : True := trivial)
        | (go_at_call 17; have _t := t6; clear t6; refine (left_any w1.heap.size bo m cb B Dh w7 (hh2.keep g27) (hb.keep (grown_trans g02 g27)) hm).mono ?_; rintro e w8 ⟨rfl, g78⟩))
      go_ret
      exact ⟨rfl, (Below.refl _ _).grown (grown_trans g02 (grown_trans g27 g78)) (Nat.le_refl _) (fun k hk => by cases hk)⟩
  · have hx1 := fun w' (h : RdI w' a n cap S) => tagP_bad a bo n cap m cb z S w' h he
    have hx2 := fun b c bo cb w' (h : RdI w' b n c S) => tag_bad b bo n c m cb z S w' h he
    generalize blE n S z 0 = E at *
    go_enter Tryd.func4, Tryd.ntmps4
    go_wp2_with (first
      | (go_at_call 9; refine (copied_any a n cap S w hp hn).mono ?_; rintro e w1 ⟨aw, cw, rfl, hA1, g01⟩; have hb1 := hb.keep g01)
      | (go_at_call 14; refine (roomy_any bo m cb B w1 hb1 hm).mono ?_; rintro e w2 ⟨rfl, ⟨Dh, hh2⟩, g12⟩; have g02 := grown_trans g01 g12; have hA2 := hA1.keep g12)
      | (go_at_call 15; have _t := t1; clear t1; refine (hx1 w2 (hp.keep g02)).mono ?_; rintro e w3 ⟨rfl, hw⟩; have hw := hw.symm; subst hw; have t2 : True := trivial)
      | (go_at_call 16; have _t := t2; clear t2; refine (hx2 aw cw _ _ w2 hA2.rd).mono ?_; rintro e w4 ⟨rfl, hw⟩; have hw := hw.symm; subst hw; have t3 : True := trivial)
      | (go_at_call 16; have _t := t3; clear t3; refine (hx2 aw cw _ _ w2 hA2.rd).mono ?_; rintro e w5 ⟨rfl, hw⟩; have hw := hw.symm; subst hw; have t4 : True := trivial)
      | (go_at_call 12; have _t := t4; clear t4; refine (twice_any none none none 0 0 0 0 0 0 0 [] w2 (ans_nil _ _) (ans_nil w2 0).rd (ans_nil w2 0).rd (by omega) (fun g off e => by cases e) (fun g off e => by cases e)).mono ?_; rintro e w6 ⟨rfl, g26⟩; have g26 : w2.grownBy w6 none := g26; have t5 : True := trivial)
      | (go_at_call 13; have _t := t5; clear t5; refine (sameInts_any aw a n n cw cap S w6 (hA1.keep (grown_trans g12 g26)).rd (hp.keep (grown_trans g02 g26))).mono ?_; rintro e w7 ⟨rfl, g67⟩; have g27 := grown_trans g26 g67; have t6 : True := trivial)
      | (go_at_call 17; have _t := t6; clear t6; refine (left_any w1.heap.size bo m cb B Dh w7 (hh2.keep g27) (hb.keep (grown_trans g02 g27)) hm).mono ?_; rintro e w8 ⟨rfl, g78⟩))
    go_ret
    exact ⟨rfl, (Below.refl _ _).grown (grown_trans g02 (grown_trans g27 g78)) (Nat.le_refl _) (fun k hk => by cases hk)⟩
end Go.Proofs.YtlaiocefbhoccaaDoor
