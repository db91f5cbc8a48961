import Derived.Test.YtnimehkfnpepfaaKxNs
namespace Go.Proofs.Ytnimehkfnpepfaa
open Go.RowKit
set_option maxRecDepth 100000
set_option linter.unusedVariables false
set_option linter.unusedSimpArgs false

/-- a box with a number -/
def BxI (w : World) (g : Nat) (x : Int) : Prop := w.heap[g]? = some (.cells #[.int .i64 x] 3)
theorem BxI.cell {w : World} {g : Nat} {x : Int} (h : BxI w g x) : w.cell? ⟨g, 0, none⟩ = some (.int .i64 x) := by simp [World.cell?, show w.heap[g]? = _ from h]
theorem BxI.free {w : World} {g : Nat} {x : Int} (h : BxI w g x) : w.frozen? ⟨g, 0, none⟩ = false := by simp [World.frozen?, show w.heap[g]? = _ from h]
theorem BxI.lt {w : World} {g : Nat} {x : Int} (h : BxI w g x) : g < w.heap.size := (Array.getElem?_eq_some_iff.1 h).1
theorem BxI.set {w : World} {g : Nat} {x : Int} (h : BxI w g x) (y : Int) : BxI (w.setCell ⟨g, 0, none⟩ (.int .i64 y)) g y := by
  unfold BxI
  rw [setCell_eq_setRow w g 0 _ _ _ _ h]
  exact setRow_heap w g _ _ _ _ h
theorem BxI.keep {w w' : World} {g : Nat} {x : Int} {r : Option Nat} (h : BxI w g x) (hg : w.grownBy w' r) (hne : some g ≠ r) : BxI w' g x := (hg.block g h.lt hne).trans h
theorem BxI.new (w : World) (x : Int) : BxI (w.alloc (.cells #[.int .i64 x] 3)) w.heap.size x := heap_alloc_new w _
theorem take_val (H m k : Nat) (hk : k ≤ 16) (hH : H < 281474976710656) : wrap64 (bits .and .u64 ((H : Int) / 2 ^ m) (IntKind.u64.wrap (IntKind.u64.wrap (2 ^ k) - 1))) = ((H / 2 ^ m % 2 ^ k : Nat) : Int) := by
  have hp : 2 ^ k ≤ 65536 := Nat.pow_le_pow_right (n := 2) (by decide) hk
  have hq : 0 < 2 ^ k := Nat.pow_pos (by decide)
  have hd : H / 2 ^ m < 281474976710656 := Nat.lt_of_le_of_lt (Nat.div_le_self _ _) hH
  have e1 : (2 : Int) ^ k = ((2 ^ k : Nat) : Int) := by simp
  have e2 : (H : Int) / 2 ^ m = ((H / 2 ^ m : Nat) : Int) := by simp
  have e3 : IntKind.u64.wrap (IntKind.u64.wrap (2 ^ k) - 1) = ((2 ^ k - 1 : Nat) : Int) := by
    rw [e1, wrapU, wrapU]
    generalize 2 ^ k = q at hp hq
    omega
  rw [e3, e2, u64_and_nat _ _ (by omega) (by omega), Nat.and_two_pow_sub_one_eq_mod]
  have hm : H / 2 ^ m % 2 ^ k < 65536 := Nat.lt_of_lt_of_le (Nat.mod_lt _ hq) hp
  unfold wrap64
  generalize H / 2 ^ m % 2 ^ k = r at hm
  omega
end Go.Proofs.Ytnimehkfnpepfaa
