import Derived.Test.YtncpignmijgghaaPEnc
import Derived.Test.YtncpignmijgghaaZBx
import Derived.Test.YtncpignmijgghaaNSm
namespace Go.Proofs.Ytncpignmijgghaa
open Go.RowKit
set_option maxRecDepth 100000
set_option linter.unusedVariables false
set_option linter.unusedSimpArgs false

/-- byte i of k bytes of a number, the highest first -/
def beB (k x i : Nat) : Nat := x / 2 ^ (8 * (k - 1 - i)) % 256
def beL (k x : Nat) : List Nat := tab k (beB k x)
theorem beB_lt (k x i : Nat) : beB k x i < 256 := Nat.mod_lt _ (by decide)
/-- bytes that lie in the call's own memory, told by a box -/
structure Row (wb w : World) (g : Nat) (a : Option Addr) (m c : Nat) (D : List Nat) : Prop where
  box : BxS w g 38 #[.slice a m c]
  ans : Ans w wb.heap.size a m c D
  far : (Value.slice a m c).ownBlock ≠ some g
  new : wb.heap.size ≤ g
  grown : wb.grownBy w none
theorem be_val (k x p j : Nat) (hx : x < 9223372036854775808) (hp : p = 8 * (k - 1 - j)) : IntKind.u8.wrap ((x : Int) / 2 ^ p) = (beB k x j : Int) := by
  rw [IntKind.wrap_u8', hp]
  unfold beB
  have e : ((x : Int) / 2 ^ (8 * (k - 1 - j))) = ((x / 2 ^ (8 * (k - 1 - j)) : Nat) : Int) := by simp
  rw [e]
  omega
theorem Row.push {wb wr w2 : World} {g m m' c1 cx gx : Nat} {a1 : Option Addr} {D E : List Nat} (h : Row wb wr g a1 m c1 D) (hA2 : Ans w2 wb.heap.size (some ⟨gx, 0, none⟩) m' cx E) (hG2 : wr.grownBy w2 (Value.slice a1 m c1).ownBlock)
    (hM2 : Mine wr (Value.slice a1 m c1).ownBlock (some ⟨gx, 0, none⟩) m' cx) : Row wb (w2.setCell ⟨g, 0, none⟩ (.slice (some ⟨gx, 0, none⟩) m' cx)) g (some ⟨gx, 0, none⟩) m' cx E := by
  have hb2 := h.box.keep hG2 (Ne.symm h.far)
  have hfar : (Value.slice (some ⟨gx, 0, none⟩) m' cx).ownBlock ≠ some g := by
    intro e
    rcases hM2 g e with h1 | h1
    · exact h.far h1
    · have := h.box.lt; omega
  exact ⟨hb2.set 0 _, hA2.kept (grown_set _ _ _ _) (.inr hfar), hfar, h.new, grown_far (grown_far h.grown hG2 (fun q e => h.ans.new q e)) (grown_set _ _ _ _) (fun q e => by cases e; exact h.new)⟩
end Go.Proofs.Ytncpignmijgghaa
