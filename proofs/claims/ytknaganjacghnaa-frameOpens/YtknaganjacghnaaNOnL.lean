import Derived.Test.YtknaganjacghnaaNOn2
namespace Go.Proofs.Ytknaganjacghnaa
open Go.RowKit
set_option maxRecDepth 100000
set_option linter.unusedVariables false
set_option linter.unusedSimpArgs false

set_option maxHeartbeats 8000000 in
theorem fopen_walk (cr sz : Int) (w : World) :
    Calls Try.prog 6 #[.int .i64 cr, .int .i64 sz] w fun e w' => e = .returned (.bool true) ∧ Below w.heap.size w w' := by
  have t1 : True := trivial
  have h1 := fun wz => ropen_any cr sz wz
  have h2 := fun wz => rlisten_any cr sz wz
  have h3 := fun wz => open_any cr sz wz
  have h4 := fun wz => listen_any cr sz wz
  have h5 := fun (a b : Option Addr) (c d : Nat) wz ha hb => sameSender_any (opX cr sz cr) (opX cr sz sz) 0 0 a b (opN cr sz) c d (fun _ => qu0) (fun _ => qu0) wz ha hb (fun i hi => ⟨rfl, rfl, rfl, fun j hj => rfl⟩)
  have h6 := fun (a b : Option Addr) (c d : Nat) wz ha hb => sameListener_any (opX cr sz cr) (opX cr sz sz) (opX cr sz (-1)) a b (opN cr sz) c d (fun _ => er0) (fun _ => er0) wz ha hb (fun i hi => ⟨rfl, rfl⟩)
  generalize opX cr sz cr = x at h1 h2 h3 h4 h5 h6
  generalize opX cr sz sz = y at h1 h2 h3 h4 h5 h6
  generalize opX cr sz (-1) = z at h1 h2 h3 h4 h5 h6
  generalize opN cr sz = n at h1 h2 h3 h4 h5 h6
  generalize opE cr sz = E at h1 h2 h3 h4 h5 h6
  unfold seA at h1 h3 h5
  unfold liA at h2 h4 h6
  go_enter Try.func6, Try.ntmps6
  go_wp2_with (first
    | (go_at_call 21; have _t := t1; clear t1; refine (h1 _).mono ?_; rintro e w1 ⟨a1, c1, rfl, r1, g1⟩; have p1 := BxS.new w1 38 #[.int .i64 x, .int .i64 y, .int .i64 0, .int .i64 0, .slice a1 n c1]; have gA1 := World.grownBy_alloc w1 (.cells #[.int .i64 x, .int .i64 y, .int .i64 0, .int .i64 0, .slice a1 n c1] 38) none; generalize hv1 : w1.alloc (.cells #[.int .i64 x, .int .i64 y, .int .i64 0, .int .i64 0, .slice a1 n c1] 38) = v1 at p1 gA1; have t2 : True := trivial)
    | (go_at_call 22; have _t := t2; clear t2; refine (h2 _).mono ?_; rintro e w2 ⟨a2, c2, rfl, r2, g2⟩; have p2 := BxS.new w2 43 #[.int .i64 x, .int .i64 y, .int .i64 z, .slice a2 n c2]; have gA2 := World.grownBy_alloc w2 (.cells #[.int .i64 x, .int .i64 y, .int .i64 z, .slice a2 n c2] 43) none; generalize hv2 : w2.alloc (.cells #[.int .i64 x, .int .i64 y, .int .i64 z, .slice a2 n c2] 43) = v2 at p2 gA2; have k12 := grown_trans g2 gA2; have t3 : True := trivial)
    | (go_at_call 23; have _t := t3; clear t3; refine (h3 _).mono ?_; rintro e w3 ⟨a3, c3, rfl, r3, g3⟩; have p3 := BxS.new w3 38 #[.int .i64 x, .int .i64 y, .int .i64 0, .int .i64 0, .slice a3 n c3]; have gA3 := World.grownBy_alloc w3 (.cells #[.int .i64 x, .int .i64 y, .int .i64 0, .int .i64 0, .slice a3 n c3] 38) none; generalize hv3 : w3.alloc (.cells #[.int .i64 x, .int .i64 y, .int .i64 0, .int .i64 0, .slice a3 n c3] 38) = v3 at p3 gA3; have k23 := grown_trans g3 gA3; have t4 : True := trivial)
    | (go_at_call 24; have _t := t4; clear t4; refine (h4 _).mono ?_; rintro e w4 ⟨a4, c4, rfl, r4, g4⟩; have p4 := BxS.new w4 43 #[.int .i64 x, .int .i64 y, .int .i64 z, .slice a4 n c4]; have gA4 := World.grownBy_alloc w4 (.cells #[.int .i64 x, .int .i64 y, .int .i64 z, .slice a4 n c4] 43) none; generalize hv4 : w4.alloc (.cells #[.int .i64 x, .int .i64 y, .int .i64 z, .slice a4 n c4] 43) = v4 at p4 gA4; have k34 := grown_trans g4 gA4; have k24 := grown_trans k23 k34; have k14 := grown_trans k12 k24; obtain ⟨x0, x1, x2, x3, x4⟩ := (p1.keep k14 (by simp)).cell5; obtain ⟨y0, y1, y2, y3⟩ := (p2.keep k24 (by simp)).cell4; obtain ⟨z0, z1, z2, z3, z4⟩ := (p3.keep k34 (by simp)).cell5; obtain ⟨u0, u1, u2, u3⟩ := p4.cell4; have t5 : True := trivial)
    | (go_at_call 25; have _t := t5; clear t5; refine (h5 _ _ _ _ v4 ((r3.keep gA3).keep k34) ((r1.keep gA1).keep k14)).mono ?_; rintro e w5 ⟨rfl, g5⟩; clear x0 x1 x2 x3 x4 y0 y1 y2 y3 z0 z1 z2 z3 z4 u0 u1 u2 u3; obtain ⟨y0, y1, y2, y3⟩ := ((p2.keep k24 (by simp)).keep g5 (by simp)).cell4; obtain ⟨u0, u1, u2, u3⟩ := (p4.keep g5 (by simp)).cell4; have t6 : True := trivial)
    | (go_at_call 26; have _t := t6; clear t6; refine (h6 _ _ _ _ w5 ((r4.keep gA4).keep g5) (((r2.keep gA2).keep k24).keep g5)).mono ?_; rintro e w6 ⟨rfl, g6⟩))
  go_ret
  exact ⟨rfl, (Below.refl _ _).grown (grown_trans (grown_trans (grown_trans (grown_trans g1 gA1) k14) g5) g6) (Nat.le_refl _) (fun k hk => by cases hk)⟩
end Go.Proofs.Ytknaganjacghnaa
