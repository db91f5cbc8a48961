import Derived.Test.YtnnohgllnfmoeaaPMay2
import Derived.Laws.BitsAllLaws
namespace Go.Proofs.Ytnnohgllnfmoeaa
open Go.RowKit
set_option maxRecDepth 100000
set_option linter.unusedVariables false
set_option linter.unusedSimpArgs false

theorem wrapU (x : Int) : IntKind.u64.wrap x = x % 18446744073709551616 := by simp [IntKind.wrap, IntKind.bits, IntKind.signed]
/-- bits are put behind others -/
theorem put_val (k x h : Nat) (hk : k ≤ 16) (hx : x < 2 ^ k) (hh : h * 2 ^ k + x < 18446744073709551616) :
    bits .or .u64 (IntKind.u64.wrap ((h : Int) * 2 ^ k)) (IntKind.u64.wrap (x : Int)) = ((h * 2 ^ k + x : Nat) : Int) := by
  have e1 : (h : Int) * 2 ^ k = ((h * 2 ^ k : Nat) : Int) := by simp
  rw [e1, wrapU, wrapU]
  have e2 : ((h * 2 ^ k : Nat) : Int) % 18446744073709551616 = ((h * 2 ^ k : Nat) : Int) := by
    generalize h * 2 ^ k = m at hh
    omega
  have hp : 2 ^ k ≤ 2 ^ 16 := Nat.pow_le_pow_right (by decide) hk
  have e3 : (x : Int) % 18446744073709551616 = (x : Int) := by
    generalize 2 ^ k = m at hx hp
    omega
  rw [e2, e3, u64_or_nat _ _ (by omega) (by omega)]
  have h3 := Nat.shiftLeft_add_eq_or_of_lt hx h
  rw [Nat.shiftLeft_eq] at h3
  rw [← h3]
/-- a packet in a box -/
def BxP (w : World) (g : Nat) (up se : Bool) (ap pt ct : Int) (a : Option Addr) (n cap : Nat) : Prop := w.heap[g]? = some (.cells #[.bool up, .bool se, .int .i64 ap, .int .i64 pt, .int .i64 ct, .slice a n cap] 33)
theorem BxP.cell {w : World} {g : Nat} {up se : Bool} {ap pt ct : Int} {a : Option Addr} {n cap : Nat} (h : BxP w g up se ap pt ct a n cap) :
    w.cell? ⟨g, 0, none⟩ = some (.bool up) ∧ w.cell? ⟨g, 1, none⟩ = some (.bool se) ∧ w.cell? ⟨g, 2, none⟩ = some (.int .i64 ap) ∧ w.cell? ⟨g, 3, none⟩ = some (.int .i64 pt) ∧ w.cell? ⟨g, 4, none⟩ = some (.int .i64 ct) ∧ w.cell? ⟨g, 5, none⟩ = some (.slice a n cap) := by
  simp [World.cell?, show w.heap[g]? = _ from h]
theorem BxP.lt {w : World} {g : Nat} {up se : Bool} {ap pt ct : Int} {a : Option Addr} {n cap : Nat} (h : BxP w g up se ap pt ct a n cap) : g < w.heap.size := (Array.getElem?_eq_some_iff.1 h).1
theorem BxP.keep {w w' : World} {g : Nat} {up se : Bool} {ap pt ct : Int} {a : Option Addr} {n cap : Nat} {r : Option Nat} (h : BxP w g up se ap pt ct a n cap) (hg : w.grownBy w' r) (hne : some g ≠ r) : BxP w' g up se ap pt ct a n cap := (hg.block g h.lt hne).trans h
theorem BxP.new (w : World) (up se : Bool) (ap pt ct : Int) (a : Option Addr) (n cap : Nat) : BxP (w.alloc (.cells #[.bool up, .bool se, .int .i64 ap, .int .i64 pt, .int .i64 ct, .slice a n cap] 33)) w.heap.size up se ap pt ct a n cap := heap_alloc_new w _
end Go.Proofs.Ytnnohgllnfmoeaa
