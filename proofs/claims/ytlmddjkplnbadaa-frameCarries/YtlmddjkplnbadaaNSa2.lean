import Derived.Deep.DeepCutAuto
import Derived.Test.YtlmddjkplnbadaaNSa1
namespace Go.Proofs.Ytlmddjkplnbadaa
open Go.RowKit
set_option maxRecDepth 100000
set_option linter.unusedVariables false
set_option linter.unusedSimpArgs false

/-- a queue as it lies in memory -/
structure Qu where
  ow : Int
  a : Option Addr
  n : Nat
  c : Nat
  go : Int
  R : Nat → Rw
structure RdQ (w : World) (a : Option Addr) (n cap : Nat) (F : Nat → Qu) : Prop where
  le : n ≤ cap
  max : cap ≤ maxLen
  at' : 0 < n → ∃ b off, a = some ⟨b, off, none⟩ ∧ b < w.heap.size ∧ ∀ i, i < n → w.cell? ⟨b, off + i * 3, none⟩ = some (.int .i64 (F i).ow) ∧ w.cell? ⟨b, off + i * 3 + 1, none⟩ = some (.slice (F i).a (F i).n (F i).c) ∧ w.cell? ⟨b, off + i * 3 + 2, none⟩ = some (.int .i64 (F i).go)
  data : ∀ i, i < n → RdR w (F i).a (F i).n (F i).c (F i).R
theorem RdQ.keep {w w' : World} {a : Option Addr} {n cap : Nat} {F : Nat → Qu} (h : RdQ w a n cap F) (hg : w.grownBy w' none) : RdQ w' a n cap F :=
  ⟨h.le, h.max, fun h0 => by
    obtain ⟨b, off, e, hb, hc⟩ := h.at' h0
    exact ⟨b, off, e, Nat.lt_of_lt_of_le hb hg.size, fun i hi => ⟨cell_grown (hc i hi).1 hg hb (by simp), cell_grown (hc i hi).2.1 hg hb (by simp), cell_grown (hc i hi).2.2 hg hb (by simp)⟩⟩, fun i hi => (h.data i hi).keep hg⟩
def seA (cr sz ma tu : Int) (a : Option Addr) (n cap : Nat) : Array Value := #[.int .i64 cr, .int .i64 sz, .int .i64 ma, .int .i64 tu, .slice a n cap]
theorem BxS.cell3 {w : World} {g : Nat} {t : TypeId} {a b c : Value} (h : BxS w g t #[a, b, c]) : w.cell? ⟨g, 0, none⟩ = some a ∧ w.cell? ⟨g, 1, none⟩ = some b ∧ w.cell? ⟨g, 2, none⟩ = some c := by
  simp [World.cell?, show w.heap[g]? = _ from h]
end Go.Proofs.Ytlmddjkplnbadaa
