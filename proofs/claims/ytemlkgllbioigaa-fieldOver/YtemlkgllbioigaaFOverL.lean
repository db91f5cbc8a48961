import Derived.Test.YtemlkgllbioigaaFOvers
namespace Go.Proofs.Ytemlkgllbioigaa
open Go.RowKit
set_option maxRecDepth 100000
set_option linter.unusedVariables false
set_option linter.unusedSimpArgs false

set_option maxHeartbeats 1600000 in
theorem over_walk (a b : Option Addr) (n m cap cap' x : Nat) (P Q : List Nat) (w : World) (hp : Rd w a n cap P) (hq : Rd w b m cap' Q) (hn : n ≤ 140737488351232) (hm : m ≤ 140737488351232) (hx : x < 256) :
    Calls Try.prog 5 #[.slice a n cap, .slice b m cap', .int .u8 x] w fun e w' => e = .returned (.bool true) ∧ Below w.heap.size w w' := by
  have t1 : True := trivial
  have qle := ovQ_le P Q
  have tle := ovT_le P Q
  go_enter Try.func5, Try.ntmps5
  go_wp2_with (first
    | (go_at_call 21; have _t := t1; clear t1; refine (roomy_any a n cap P w hp hn).mono ?_; rintro e w1 ⟨rfl, ⟨Dh, hh1⟩, g01⟩; have hq1 := hq.keep g01; have t2 : True := trivial)
    | (go_at_call 21; have _t := t2; clear t2; refine (roomy_any b m cap' Q w1 hq1 hm).mono ?_; rintro e w2 ⟨rfl, ⟨Dk, hk2⟩, g12⟩; have g02 := grown_trans g01 g12; have hp2 := hp.keep g02; have hq2 := hq.keep g02; have hh2 := hh1.keep g12; have t3 : True := trivial)
    | (go_at_call 28; have _t := t3; clear t3; refine (rover_all a b n m cap cap' P Q w2 hp2 hq2).mono ?_; rintro e w3 ⟨aw, nw, cw, au, nu, cu, rfl, hw3, hu3, g23⟩; have hH3 := (hh2.keep g23).rd hp.byte hp.len hn; have hK3 := (hk2.keep g23).rd hq.byte hq.len hm; have t4 : True := trivial)
    | (go_at_call 29; have _t := t4; clear t4; refine (over_all _ _ n m _ _ P Q w3 hH3 hK3).mono ?_; rintro e w4 ⟨aa, na, ca, as_, ns, cs, rfl, ha4, hs4, g34, hap⟩; have hH4 := hH3.keep g34; have hK4 := hK3.keep g34; have t5 : True := trivial)
    | (go_at_call 29; have _t := t5; clear t5; refine (over_all _ _ n m _ _ P Q w4 hH4 hK4).mono ?_; rintro e w5 ⟨ab, nb, cb, at_, nt, ct, rfl, hb5, ht5, g45, _⟩; have t6 : True := trivial)
    | (go_at_call 24; have _t := t6; clear t6; refine (twice_any aa ab aw na nb nw ca cb cw w3.heap.size _ w5 (ha4.keep g45) hb5.rd (hw3.keep (grown_trans g34 g45)).rd (by have := ha4.len; omega) (ha4.later hb5 (Nat.le_refl _)) (ha4.earlier hw3 (Nat.le_refl _))).mono ?_; rintro e w6 ⟨rfl, g56⟩; have hs6 := (hs4.keep g45).kept g56 hap; have ht6 := ht5.rd.grown g56 (ha4.later ht5 (Nat.le_refl _)); have hu6 := (hu3.keep (grown_trans g34 g45)).rd.grown g56 (ha4.earlier hu3 (Nat.le_refl _)); have t7 : True := trivial)
    | (go_at_call 24; have _t := t7; clear t7; refine (twice_any as_ at_ au ns nt nu cs ct cu w3.heap.size _ w6 hs6 ht6 hu6 (by have := hs4.len; omega) (hs4.later ht5 (Nat.le_refl _)) (hs4.earlier hu3 (Nat.le_refl _))).mono ?_; rintro e w7 ⟨rfl, g67⟩; have g25 := grown_trans g23 (grown_trans g34 g45); have g2x := grown_far (grown_far g25 g56 (ha4.far _ g23.size)) g67 (hs4.far _ g23.size); have g0x := grown_trans g02 g2x; have t8 : True := trivial)
    | (go_at_call 27; have _t := t8; clear t8; refine (left_any w.heap.size a n cap P Dh w7 (hh2.keep g2x) (hp.keep g0x) hn).mono ?_; rintro e w8 ⟨rfl, g78⟩; have t9 : True := trivial)
    | (go_at_call 27; have _t := t9; clear t9; refine (left_any w1.heap.size b m cap' Q Dk w8 (hk2.keep (grown_trans g2x g78)) (hq.keep (grown_trans g0x g78)) hm).mono ?_; rintro e w9 ⟨rfl, g89⟩; have g29 := grown_trans g2x (grown_trans g78 g89); have t10 : True := trivial)
    | (go_at_call 30; have _t := t10; clear t10; refine (at_any _ n _ x P w9 ((hh2.keep g29).rd hp.byte hp.len hn) hx hn).mono ?_; rintro e w10 ⟨rfl, g910⟩; have g0y := grown_trans g02 (grown_trans g29 g910); have t11 : True := trivial)
    | (go_at_call 31; have _t := t11; clear t11; refine (rat_any _ n _ x P w10 (hp.keep g0y) hx hn).mono ?_; rintro e w11 ⟨rfl, g1011⟩; have g2z := grown_trans g29 (grown_trans g910 g1011); have g0z := grown_trans g02 g2z; have t12 : True := trivial)
    | (go_at_call 27; have _t := t12; clear t12; refine (left_any w.heap.size a n cap P Dh w11 (hh2.keep g2z) (hp.keep g0z) hn).mono ?_; rintro e w12 ⟨rfl, g1112⟩))
  go_ret
  exact ⟨rfl, (Below.refl _ _).grown (grown_trans g0z g1112) (Nat.le_refl _) (fun k hk => by cases hk)⟩
end Go.Proofs.Ytemlkgllbioigaa
