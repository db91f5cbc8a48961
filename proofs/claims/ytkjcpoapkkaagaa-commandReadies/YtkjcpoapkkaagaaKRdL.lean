import Derived.Test.YtkjcpoapkkaagaaKRd1
import Derived.Test.YtkjcpoapkkaagaaKSh
namespace Go.Proofs.Ytkjcpoapkkaagaa
open Go.RowKit
set_option maxRecDepth 100000
set_option linter.unusedVariables false
set_option linter.unusedSimpArgs false

set_option maxHeartbeats 8000000 in
theorem kready_walk (cr ah pa pu li : Int) (w : World) :
    Calls Try.prog 7 #[.int .i64 cr, .int .i64 ah, .int .i64 pa, .int .i64 pu, .int .i64 li] w fun e w' => e = .returned (.bool true) ∧ Below w.heap.size w w' := by
  have h1 := fun wz => rready_any cr ah pa pu li wz
  have h2 := fun wz => ready_any cr ah pa pu li wz
  generalize reX cr ah pa pu li cr = x0 at h1 h2
  generalize reX cr ah pa pu li ah = x1 at h1 h2
  generalize reX cr ah pa pu li pa = x2 at h1 h2
  generalize reX cr ah pa pu li li = x3 at h1 h2
  generalize reX cr ah pa pu li pu = x4 at h1 h2
  generalize reE cr ah pa pu li = E at h1 h2
  have h3 := fun wz => sameHand_any x0 0 x1 0 x2 0 x3 x4 x4 0 none none none none 0 0 0 0 0 0 (fun _ => rw0) (fun _ => rw0) (fun _ => rw0) (fun _ => rw0) wz (rdr_nil _ _) (rdr_nil _ _) (rdr_nil _ _) (rdr_nil _ _) (fun i h => rfl) (fun i h => rfl)
  unfold hnA at h1 h2 h3
  have N1 := fun wz => BxS.new wz 50 #[.int .i64 x0, .int .i64 0, .int .i64 x1, .slice none 0 0, .slice none 0 0, .int .i64 0, .int .i64 x2, .int .i64 0, .int .i64 x3, .int .i64 x4, .int .i64 x4, .int .i64 0]
  have G1 := fun wz : World => World.grownBy_alloc wz (.cells #[.int .i64 x0, .int .i64 0, .int .i64 x1, .slice none 0 0, .slice none 0 0, .int .i64 0, .int .i64 x2, .int .i64 0, .int .i64 x3, .int .i64 x4, .int .i64 x4, .int .i64 0] 50) none
  have t1 : True := trivial
  go_enter Try.func7, Try.ntmps7
  go_wp2_with (first
    | (go_at_call 30; refine (h1 _).mono ?_; rintro e w1 ⟨rfl, g1⟩; have k1 := grown_trans g1 (G1 w1))
    | (go_at_call 31; refine (h2 _).mono ?_; rintro e w2 ⟨rfl, g2⟩; have k2 := grown_trans g2 (G1 w2); obtain ⟨c0, c1, c2, c3, c4, c5, c6, c7, c8, c9, c10, c11⟩ := ((N1 w1).keep k2 (by simp)).cell12)
    | (go_at_call 32; refine (h3 _).mono ?_; rintro e w3 ⟨rfl, g3⟩))
  go_ret
  exact ⟨rfl, (Below.refl _ _).grown (grown_trans (grown_trans k1 k2) g3) (Nat.le_refl _) (fun k hk => by cases hk)⟩
end Go.Proofs.Ytkjcpoapkkaagaa
