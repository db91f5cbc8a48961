import Derived.Test.YtkfgchngndppiaaULa
namespace Go.Proofs.Ytkfgchngndppiaa
open Go.RowKit
set_option maxRecDepth 100000
set_option linter.unusedVariables false
set_option linter.unusedSimpArgs false

/-- a tick, as the law is told of it -/
structure Lk where
  va : Option Addr
  vn : Nat
  vc : Nat
  vs : List Int
  he : Bool
  le : Bool
def Lk.cells (k : Lk) : List Value := [.slice k.va k.vn k.vc, .bool k.he, .bool k.le]
structure RdLk (w : World) (a : Option Addr) (n cap : Nat) (K : Nat → Lk) : Prop where
  le : n ≤ cap
  max : cap ≤ maxLen
  nil : a = none → cap = 0
  at' : 0 < n → ∃ b off, a = some ⟨b, off, none⟩ ∧ b < w.heap.size ∧ ∀ i, i < n → ∀ j, j < 3 → w.cell? ⟨b, off + (i * 3 + j), none⟩ = (K i).cells[j]?
  row : ∀ i, i < n → RdX w (K i).va (K i).vn (K i).vc (zys (K i).vs)
  bnd : ∀ i, i < n → ∀ j, -9223372036854775808 ≤ nthI (K i).vs j ∧ nthI (K i).vs j ≤ 9223372036854775807
theorem RdLk.three {w w' : World} {b off n cap : Nat} {K : Nat → Lk} (h : RdLk w (some ⟨b, off, none⟩) n cap K) (hg : w.grownBy w' none) (i : Nat) (hi : i < n) :
    w'.cell? ⟨b, off + i * 3, none⟩ = some (.slice (K i).va (K i).vn (K i).vc) ∧ w'.cell? ⟨b, off + i * 3 + 1, none⟩ = some (.bool (K i).he) ∧ w'.cell? ⟨b, off + i * 3 + 2, none⟩ = some (.bool (K i).le) := by
  obtain ⟨b', o', e, hb, hc⟩ := h.at' (by omega)
  cases e
  have k : ∀ o, w'.cell? ⟨b, o, none⟩ = w.cell? ⟨b, o, none⟩ := fun o => World.cell?_of_block (w := w) (hg.block b hb (by simp))
  refine ⟨?_, ?_, ?_⟩
  · rw [k]; exact hc i hi 0 (by decide)
  · rw [k, Nat.add_assoc]; exact hc i hi 1 (by decide)
  · rw [k, Nat.add_assoc]; exact hc i hi 2 (by decide)
theorem RdX.at_in {w w' : World} {b off n cap : Nat} {S : List Int} (h : RdX w (some ⟨b, off, none⟩) n cap (zys S)) (hg : w.grownBy w' none) (i : Nat) (hi : i < n) : w'.cell? ⟨b, off + i, none⟩ = some (.int .i64 (nthI S i)) := by
  obtain ⟨b', o', e, hb, hc⟩ := (h.keep hg).at' (by omega)
  cases e
  exact hc i _ (zys_at S i (by rw [← zys_length, h.len]; exact hi))
theorem RdX.some_rd {w : World} {a : Option Addr} {n cap : Nat} {X : List Value} (h : RdX w a n cap X) (h0 : 0 < n) : ∃ b off, a = some ⟨b, off, none⟩ ∧ b < w.heap.size := by
  obtain ⟨b, off, e, hb, _⟩ := h.at' h0
  exact ⟨b, off, e, hb⟩
end Go.Proofs.Ytkfgchngndppiaa
