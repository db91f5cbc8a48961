import Derived.Test.YtknaganjacghnaaNSm
import Derived.Test.YtknaganjacghnaaFSums
namespace Go.Proofs.Ytknaganjacghnaa
open Go.RowKit
set_option maxRecDepth 100000
set_option linter.unusedVariables false
set_option linter.unusedSimpArgs false
set_option maxHeartbeats 2000000 in
theorem fsums_walk (a : Option Addr) (n cap : Nat) (B : List Nat) (w : World) (hR : Rd w a n cap B) (hn : n ≤ 140737488351232) :
    Calls Try.prog 3 #[.slice a n cap] w fun e w' => e = .returned (.bool true) ∧ Below w.heap.size w w' := by
  have t1 : True := trivial
  go_enter Try.func3, Try.ntmps3
  go_wp2_with (first
    | (go_at_call 12; have _t := t1; clear t1; refine (roomy_any a n cap B w hR hn).mono ?_; rintro e w1 ⟨rfl, ⟨Dh, hh1⟩, g1⟩; have hR1 := hR.keep g1; have hH1 := hh1.rd hR.byte hR.len hn; have t2 : True := trivial)
    | (go_at_call 13; have _t := t2; clear t2; refine (fsum_any _ n _ B w1 hH1).mono ?_; rintro e w2 ⟨rfl, hw⟩; have hw := hw.symm; subst hw; have t3 : True := trivial)
    | (go_at_call 14; have _t := t3; clear t3; refine (rsum_any _ n _ B w1 hR1 (by omega)).mono ?_; rintro e w3 ⟨rfl, g3⟩; have t4 : True := trivial)
    | (go_at_call 15; have _t := t4; clear t4; refine (left_any w.heap.size a n cap B Dh w3 (hh1.keep g3) (hR1.keep g3) hn).mono ?_; rintro e w4 ⟨rfl, g4⟩))
  go_ret
  exact ⟨rfl, (Below.refl _ _).grown (grown_trans (grown_trans g1 g3) g4) (Nat.le_refl _) (fun k hk => by cases hk)⟩
end Go.Proofs.Ytknaganjacghnaa
