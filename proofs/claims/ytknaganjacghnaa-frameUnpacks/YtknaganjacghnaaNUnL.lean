import Derived.Test.YtknaganjacghnaaNUn4
import Derived.Test.YtknaganjacghnaaPSam
namespace Go.Proofs.Ytknaganjacghnaa
open Go.RowKit
set_option maxRecDepth 100000
set_option linter.unusedVariables false
set_option linter.unusedSimpArgs false

theorem unV_some (B : List Nat) : ∃ z0 z1 z2 z3 z4 : Int, unV B = #[.int .i64 z0, .int .i64 z1, .int .i64 z2, .int .i64 z3, .int .i64 z4] := by
  unfold unV heA
  split
  · exact ⟨_, _, _, _, _, rfl⟩
  · exact ⟨_, _, _, _, _, rfl⟩
theorem unD_le (B : List Nat) : (unD B).length ≤ B.length := by
  unfold unD
  split
  · rw [List.length_take, List.length_drop]; omega
  · simp
set_option maxHeartbeats 8000000 in
theorem funp_walk (a : Option Addr) (n cap : Nat) (B : List Nat) (w : World) (hR : Rd w a n cap B) (hn : n ≤ 140737488351232) :
    Calls Try.prog 5 #[.slice a n cap] w fun e w' => e = .returned (.bool true) ∧ Below w.heap.size w w' := by
  have t1 : True := trivial
  have hL := unD_le B
  rw [hR.len] at hL
  have hP := fun wz hz => runpack_any a n cap B wz hz hn
  have hQ := fun (az : Option Addr) (cz : Nat) wz hz => unpack_any az n cz B wz hz
  obtain ⟨z0, z1, z2, z3, z4, hz⟩ := unV_some B
  rw [hz] at hP hQ
  generalize unD B = L at hL hP hQ
  generalize unE B = E at hP hQ
  generalize unS B = S at hP hQ
  clear hz
  go_enter Try.func5, Try.ntmps5
  go_wp2_with (first
    | (go_at_call 12; have _t := t1; clear t1; refine (roomy_any a n cap B w hR hn).mono ?_; rintro e w1 ⟨rfl, ⟨Dh, hh1⟩, g1⟩; have hR1 := hR.keep g1; have t2 : True := trivial)
    | (go_at_call 19; have _t := t2; clear t2; refine (hP w1 hR1).mono ?_; rintro e w2 ⟨aw, nw, cw, rfl, hA2, g2⟩; have p2 := BxS.new w2 28 #[.int .i64 z0, .int .i64 z1, .int .i64 z2, .int .i64 z3, .int .i64 z4]; have gA2 := World.grownBy_alloc w2 (.cells #[.int .i64 z0, .int .i64 z1, .int .i64 z2, .int .i64 z3, .int .i64 z4] 28) none; generalize hv2 : w2.alloc (.cells #[.int .i64 z0, .int .i64 z1, .int .i64 z2, .int .i64 z3, .int .i64 z4] 28) = v2 at p2 gA2; have h12 := grown_trans g2 gA2; have hH2 := (hh1.keep h12).rd hR.byte hR.len hn; have t3 : True := trivial)
    | (go_at_call 20; have _t := t3; clear t3; refine (hQ _ _ v2 hH2).mono ?_; rintro e w3 ⟨aa, na, ca, rfl, hA3, g3⟩; have p3 := BxS.new w3 28 #[.int .i64 z0, .int .i64 z1, .int .i64 z2, .int .i64 z3, .int .i64 z4]; have gA3 := World.grownBy_alloc w3 (.cells #[.int .i64 z0, .int .i64 z1, .int .i64 z2, .int .i64 z3, .int .i64 z4] 28) none; generalize hv3 : w3.alloc (.cells #[.int .i64 z0, .int .i64 z1, .int .i64 z2, .int .i64 z3, .int .i64 z4] 28) = v3 at p3 gA3; have h23 := grown_trans g3 gA3; have hH3 := hH2.keep h23; have t4 : True := trivial)
    | (go_at_call 20; have _t := t4; clear t4; refine (hQ _ _ v3 hH3).mono ?_; rintro e w4 ⟨ab, nb, cb, rfl, hA4, g4⟩; have p4 := BxS.new w4 28 #[.int .i64 z0, .int .i64 z1, .int .i64 z2, .int .i64 z3, .int .i64 z4]; have gA4 := World.grownBy_alloc w4 (.cells #[.int .i64 z0, .int .i64 z1, .int .i64 z2, .int .i64 z3, .int .i64 z4] 28) none; generalize hv4 : w4.alloc (.cells #[.int .i64 z0, .int .i64 z1, .int .i64 z2, .int .i64 z3, .int .i64 z4] 28) = v4 at p4 gA4; have h34 := grown_trans g4 gA4; have h24 := grown_trans h23 h34; obtain ⟨c0, c1, c2, c3, c4⟩ := (p2.keep h24 (by simp)).cell5; obtain ⟨d0, d1, d2, d3, d4⟩ := (p3.keep h34 (by simp)).cell5; obtain ⟨e0, e1, e2, e3, e4⟩ := p4.cell5; have h14 := grown_trans h12 h24; have t5 : True := trivial)
    | (go_at_call 18; have _t := t5; clear t5; refine (twice_any aa ab aw na nb nw ca cb cw _ L v4 ((hA3.keep gA3).keep h34) (hA4.keep gA4).rd ((hA2.keep gA2).keep h24).rd (by have := hA3.len; omega) (hA3.later hA4 gA3.size) (hA3.earlier hA2 gA2.size)).mono ?_; rintro e w5 ⟨rfl, g5⟩; have G5 : w1.grownBy w5 none := grown_far h14 g5 (hA3.far _ h12.size); have t6 : True := trivial)
    | (go_at_call 15; have _t := t6; clear t6; refine (left_any w.heap.size a n cap B Dh w5 (hh1.keep G5) (hR1.keep G5) hn).mono ?_; rintro e w6 ⟨rfl, g6⟩))
  go_ret
  exact ⟨rfl, (Below.refl _ _).grown (grown_trans (grown_trans g1 G5) g6) (Nat.le_refl _) (fun k hk => by cases hk)⟩
end Go.Proofs.Ytknaganjacghnaa
