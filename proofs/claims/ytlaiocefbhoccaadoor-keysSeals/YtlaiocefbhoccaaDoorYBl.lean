import Derived.Test.YtlaiocefbhoccaaDoorYSp
namespace Go.Proofs.YtlaiocefbhoccaaDoor
open Go.RowKit
set_option maxRecDepth 100000
set_option linter.unusedVariables false
set_option linter.unusedSimpArgs false
theorem block_bad (a : Option Addr) (n cap : Nat) (z x : Int) (S : List Int) (w : World) (hp : RdI w a n cap S) (he : ¬ blE n S z x = 0) :
    Calls Tryd.prog 11 #[.slice a n cap, .int .i64 z, .int .i64 x] w fun e w' => e = .returned (.tuple #[.slice none 0 0, .int .i64 (blE n S z x)]) ∧ w' = w := by
  have hw := wrongBlock_any a n cap z x S w hp
  generalize blE n S z x = v at *
  go_enter Tryd.func11, Tryd.ntmps11
  go_wp2_with (go_at_call 30; refine hw.mono ?_; rintro e w' ⟨rfl, rfl⟩)
  go_ret2
  exact ⟨rfl, rfl⟩
theorem block_ok (a : Option Addr) (cap c x : Nat) (S : List Int) (W : Nat → Nat) (w : World) (hL : Lin w) (hp : RdI w a 8 cap S) (hW : ∀ i, i < 8 → nthI S i = (W i : Int) ∧ W i < 4294967296) (hc : c < 281474976710656) (hx : x < 1001) (he : blE 8 S c x = 0) :
    Calls Tryd.prog 11 #[.slice a 8 cap, .int .i64 c, .int .i64 x] w fun e w' => ∃ g, w.heap.size ≤ g ∧ e = .returned (.tuple #[.slice (some ⟨g, 0, none⟩) 64 64, .int .i64 0]) ∧ KRow .u8 w' g 58 64 (padB W c x) ∧ w.grownBy w' none := by
  have hw := wrongBlock_any a 8 cap c x S w hp
  rw [he] at hw
  clear he
  have hB := blockOf_any a cap c x S W w hL hp hW hc (by omega)
  go_enter Tryd.func11, Tryd.ntmps11
  go_wp2_with (first
    | (go_at_call 30; refine hw.mono ?_; rintro e w' ⟨rfl, hw'⟩; have hw' := hw'.symm; subst hw')
    | (go_at_call 31; refine hB.mono ?_; rintro e w1 ⟨rfl, g1⟩; have z1 := krow_new .u8 w1 58 64 (fun _ => 0))
    | (refine wpList_stK .u8 _ rfl (.tmp 9) (.tmp 20) _ 64 rfl Tryd.info_by w1.heap.size _ _ rfl rfl z1 ?_; intro w2 hR2 g2))
  go_ret2
  refine ⟨w1.heap.size, g1.size, rfl, hR2, grown_far (grown_trans g1 (World.grownBy_alloc w1 _ none)) g2 (fun g e => by cases e; exact g1.size)⟩
end Go.Proofs.YtlaiocefbhoccaaDoor
