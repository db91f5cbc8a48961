import Derived.Test.YtbgbohddkfaacaaCRSp
namespace Go.Proofs.Ytbgbohddkfaacaa
open Go.RowKit
set_option maxRecDepth 100000
set_option linter.unusedVariables false
set_option linter.unusedSimpArgs false

set_option maxHeartbeats 1000000 in
theorem spreads_walk (a : Option Addr) (n cap : Nat) (z : Int) (P : List Nat) (w : World) (hp : Rd w a n cap P) (hn : n ≤ 140737488351232) :
    Calls Try.prog 5 #[.slice a n cap, .int .i64 z] w fun e w' => e = .returned (.bool true) ∧ Below w.heap.size w w' := by
  have t1 : True := trivial
  have sle := sprL_le P z
  go_enter Try.func5, Try.ntmps5
  go_wp2_with (first
    | (go_at_call 9; have _t := t1; clear t1; refine (roomy_any a n cap P w hp hn).mono ?_; rintro e w1 ⟨rfl, ⟨Dh, hh1⟩, g01⟩; have hp1 := hp.keep g01; have t2 : True := trivial)
    | (go_at_call 16; have _t := t2; clear t2; refine (rSpread_all a n cap z P w1 hp1).mono ?_; rintro e w2 ⟨aw, nw, cw, rfl, hw2, g12⟩; have hH2 := (hh1.keep g12).rd hp.byte hp.len hn; have t3 : True := trivial)
    | (go_at_call 17; have _t := t3; clear t3; refine (Spread_all _ n _ z P w2 hH2).mono ?_; rintro e w3 ⟨aa, na, ca, rfl, ha3, g23⟩; have hH3 := hH2.keep g23; have t4 : True := trivial)
    | (go_at_call 17; have _t := t4; clear t4; refine (Spread_all _ n _ z P w3 hH3).mono ?_; rintro e w4 ⟨ab, nb, cb, rfl, hb4, g34⟩; have hna := ha3.len; have t5 : True := trivial)
    | (go_at_call 12; have _t := t5; clear t5; refine (twice_any aa ab aw na nb nw ca cb cw w2.heap.size _ w4 (ha3.keep g34) hb4.rd (hw2.keep (grown_trans g23 g34)).rd (by omega) (ha3.later hb4 (Nat.le_refl _)) (ha3.earlier hw2 (Nat.le_refl _))).mono ?_; rintro e w5 ⟨rfl, g45⟩; have g15 := grown_far (grown_trans g12 (grown_trans g23 g34)) g45 (ha3.far _ g12.size); have g05 := grown_trans g01 g15; have t6 : True := trivial)
    | (go_at_call 13; have _t := t6; clear t6; refine (left_any w.heap.size a n cap P Dh w5 (hh1.keep g15) (hp.keep g05) hn).mono ?_; rintro e w6 ⟨rfl, g56⟩))
  go_ret
  exact ⟨rfl, (Below.refl _ _).grown (grown_trans g05 g56) (Nat.le_refl _) (fun k hk => by cases hk)⟩
end Go.Proofs.Ytbgbohddkfaacaa
