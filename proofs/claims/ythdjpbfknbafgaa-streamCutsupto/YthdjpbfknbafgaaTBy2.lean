import Derived.RangeFuncNested
import Derived.RangeFuncBound
import Derived.RangeFuncCalls
import Derived.RangeFuncLeaves
import Derived.RangeFuncBox
import Derived.Shelf.Abstract
import Derived.Shelf.RegionOpen
import Derived.OwnWalkIn
import Derived.TacticsInMore
import Derived.LoopNIn
import Derived.LoopIn
import Derived.Maps.AppendAt
import Derived.Test.YthdjpbfknbafgaaTBy1
namespace Go.Proofs.Ythdjpbfknbafgaa
open Go.RowKit Go.Shelf
set_option maxRecDepth 100000
set_option linter.unusedVariables false
set_option linter.unusedSimpArgs false
attribute [local go_sem] Oper.semAt_some

/-- the blocks that p names lie as they lay -/
def KeepB (p : Nat → Prop) (W W' : World) : Prop := ∀ k, p k → W'.heap[k]? = W.heap[k]?
theorem KeepB.refl (p : Nat → Prop) (W : World) : KeepB p W W := fun _ _ => rfl
theorem KeepB.trans {p : Nat → Prop} {A B C : World} (h : KeepB p A B) (k : KeepB p B C) : KeepB p A C := fun i hi => (k i hi).trans (h i hi)
theorem KeepB.cell {p : Nat → Prop} {W W' : World} (h : KeepB p W W') {a : Addr} (ha : p a.block) : W'.cell? a = W.cell? a := World.cell?_of_block (h _ ha)
theorem KeepB.put {p : Nat → Prop} {w : World} (hp : ∀ k, p k → k < w.heap.size) (W : World) (l : Nat) (o o' : Obj) (hl : w.heap.size ≤ l) (_ : W.heap[l]? = some o) (_ : o.isCells = false) (_ : o.isWalk = false) : KeepB p W (W.putObj l o') :=
  fun k hk => World.putObj_heap_other (by have := hp k hk; omega)
/-- the numbers below m, as pieces -/
abbrev Pc (m : Nat) := { k : Nat // k < m }
/-- the address of piece k -/
def pcA (a : Option Addr) (k : Nat) : Option Addr := a.map fun x => ⟨x.block, x.off + 8 * k, none⟩
theorem grown_of_below {w w' : World} (h : Below w.heap.size w w') : w.grownBy w' none := ⟨h.os, h.tape, h.output, h.size, fun k hk _ => h.block k hk⟩
theorem below_of_grown {w w' : World} (h : w.grownBy w' none) : Below w.heap.size w w' := (Below.refl _ _).grown h (Nat.le_refl _) (fun k hk => by cases hk)
/-- the bits of piece k -/
def pcL (B : List Nat) (k : Nat) : List Nat := tab 8 (fun j => nth B (8 * k + j))
theorem pc_rd {w : World} {a : Option Addr} {m cap : Nat} {B : List Nat} (hp : Rd w a (8 * m) cap B) (k : Nat) (hk : k < m) : Rd w (pcA a k) 8 (cap - 8 * k) (pcL B k) := by
  obtain ⟨b, off, rfl, hb, hc⟩ := hp.at' (by omega)
  have h1 := hp.le; have h2 := hp.max
  refine ⟨tab_len _ _, by omega, by omega, (fun h => by cases h), tab_isB _ _ (fun i => hp.byte.nth _), fun _ => ⟨b, off + 8 * k, rfl, hb, fun i hi => ?_⟩⟩
  unfold pcL
  rw [tab_nth _ _ _ hi, Nat.add_assoc]; exact hc _ (by omega)
theorem pc_jN (B : List Nat) (k j : Nat) (hj : j ≤ 8) : jN (pcL B k) 0 j = jN B k j := by
  induction j with
  | zero => rfl
  | succ j ih =>
    show 2 * jN (pcL B k) 0 j + nth (pcL B k) (8 * 0 + j) = 2 * jN B k j + nth B (8 * k + j)
    rw [ih (by omega), Nat.mul_zero, Nat.zero_add]
    unfold pcL; rw [tab_nth _ _ _ (by omega)]
theorem pc_bit (B : List Nat) (k : Nat) : BitTo (pcL B k) 8 ↔ ∀ j, j < 8 → nth B (8 * k + j) < 2 := by
  unfold BitTo
  constructor
  · intro h j hj; have := h j hj; unfold pcL at this; rwa [tab_nth _ _ _ hj] at this
  · intro h j hj; unfold pcL; rw [tab_nth _ _ _ hj]; exact h j hj
/-- the byte of a piece -/
def pcV (B : List Nat) (k : Nat) : Nat := jN B k 8
theorem pcV_lt (B : List Nat) (k : Nat) (h : ∀ j, j < 8 → nth B (8 * k + j) < 2) : pcV B k < 256 := Nat.lt_of_lt_of_le (jN_lt B k 8 h) (by decide)
end Go.Proofs.Ythdjpbfknbafgaa
