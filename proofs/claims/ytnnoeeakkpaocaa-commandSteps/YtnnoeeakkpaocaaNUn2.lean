import Derived.Test.YtnnoeeakkpaocaaNUn1
import Derived.Deep.RegionHeld3
namespace Go.Proofs.Ytnnoeeakkpaocaa
open Go.RowKit
set_option maxRecDepth 100000
set_option linter.unusedVariables false
set_option linter.unusedSimpArgs false

def unN (B : List Nat) : Nat := nth B 0 * 256 + nth B 1
def unF (B : List Nat) : Nat := nth B 4 * 256 + nth B 5
abbrev unOk (B : List Nat) : Prop := unN B / 16384 = 0 ∧ unN B % 2 = 1 ∧ unF B / 2048 = 3
theorem num_two (B : List Nat) (m : Nat) (h : m + 2 ≤ B.length) : numB ((B.drop m).take 2) = nth B m * 256 + nth B (m + 1) := by
  unfold numB
  rw [List.length_take, List.length_drop, show min 2 (B.length - m) = 2 by omega]
  have e : ∀ i, i < 2 → nth ((B.drop m).take 2) i = nth B (m + i) := fun i hi => by
    unfold nth
    rw [List.getD_eq_getElem?_getD, List.getElem?_take, if_pos hi, List.getElem?_drop, ← List.getD_eq_getElem?_getD]
  show (0 * 256 + nth ((B.drop m).take 2) 0) * 256 + nth ((B.drop m).take 2) 1 = _
  rw [e 0 (by decide), e 1 (by decide)]
  simp
theorem cell_grown {w w' : World} {b i : Nat} {r : Option Nat} {v : Value} (h : w.cell? ⟨b, i, none⟩ = some v) (hg : w.grownBy w' r) (hb : b < w.heap.size) (hne : some b ≠ r) : w'.cell? ⟨b, i, none⟩ = some v := by
  rw [← h]
  unfold World.cell?
  rw [hg.block b hb hne]
/-- a struct of five cells is written -/
def set5 (w : World) (g : Nat) (v0 v1 v2 v3 v4 : Value) : World := ((((w.setCell ⟨g, 0, none⟩ v0).setCell ⟨g, 1, none⟩ v1).setCell ⟨g, 2, none⟩ v2).setCell ⟨g, 3, none⟩ v3).setCell ⟨g, 4, none⟩ v4
theorem set5_grown (w : World) (g : Nat) (v0 v1 v2 v3 v4 : Value) : w.grownBy (set5 w g v0 v1 v2 v3 v4) (some g) :=
  grown_trans (grown_trans (grown_trans (grown_trans (grown_set _ _ _ _) (grown_set _ _ _ _)) (grown_set _ _ _ _)) (grown_set _ _ _ _)) (grown_set _ _ _ _)
theorem BxS.set5 {w : World} {g : Nat} {t : TypeId} {a b c d e : Value} (h : BxS w g t #[a, b, c, d, e]) (v0 v1 v2 v3 v4 : Value) : BxS (set5 w g v0 v1 v2 v3 v4) g t #[v0, v1, v2, v3, v4] :=
  ((((h.set 0 v0).set 1 v1).set 2 v2).set 3 v3).set 4 v4
end Go.Proofs.Ytnnoeeakkpaocaa
