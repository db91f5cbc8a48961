import Derived.Test.YtnimehkfnpepfaaNUn2
namespace Go.Proofs.Ytnimehkfnpepfaa
open Go.RowKit
set_option maxRecDepth 100000
set_option linter.unusedVariables false
set_option linter.unusedSimpArgs false

/-- bytes as they lie in memory, and what they are -/
structure Rw where
  a : Option Addr
  n : Nat
  c : Nat
  D : List Nat
/-- rows of bytes as they are read -/
structure RdR (w : World) (a : Option Addr) (n cap : Nat) (F : Nat → Rw) : Prop where
  le : n ≤ cap
  max : cap ≤ maxLen
  at' : 0 < n → ∃ b off, a = some ⟨b, off, none⟩ ∧ b < w.heap.size ∧ ∀ i, i < n → w.cell? ⟨b, off + i, none⟩ = some (.slice (F i).a (F i).n (F i).c)
  data : ∀ i, i < n → Rd w (F i).a (F i).n (F i).c (F i).D
theorem RdR.keep {w w' : World} {a : Option Addr} {n cap : Nat} {F : Nat → Rw} (h : RdR w a n cap F) (hg : w.grownBy w' none) : RdR w' a n cap F :=
  ⟨h.le, h.max, fun h0 => by
    obtain ⟨b, off, e, hb, hc⟩ := h.at' h0
    exact ⟨b, off, e, Nat.lt_of_lt_of_le hb hg.size, fun i hi => cell_grown (hc i hi) hg hb (by simp)⟩, fun i hi => (h.data i hi).keep hg⟩
/-- an ear as it lies in memory -/
structure Er where
  x : Int
  r : Rw
structure RdE (w : World) (a : Option Addr) (n cap : Nat) (F : Nat → Er) : Prop where
  le : n ≤ cap
  max : cap ≤ maxLen
  at' : 0 < n → ∃ b off, a = some ⟨b, off, none⟩ ∧ b < w.heap.size ∧ ∀ i, i < n → w.cell? ⟨b, off + i * 2, none⟩ = some (.int .i64 (F i).x) ∧ w.cell? ⟨b, off + i * 2 + 1, none⟩ = some (.slice (F i).r.a (F i).r.n (F i).r.c)
  data : ∀ i, i < n → Rd w (F i).r.a (F i).r.n (F i).r.c (F i).r.D
theorem RdE.keep {w w' : World} {a : Option Addr} {n cap : Nat} {F : Nat → Er} (h : RdE w a n cap F) (hg : w.grownBy w' none) : RdE w' a n cap F :=
  ⟨h.le, h.max, fun h0 => by
    obtain ⟨b, off, e, hb, hc⟩ := h.at' h0
    exact ⟨b, off, e, Nat.lt_of_lt_of_le hb hg.size, fun i hi => ⟨cell_grown (hc i hi).1 hg hb (by simp), cell_grown (hc i hi).2 hg hb (by simp)⟩⟩, fun i hi => (h.data i hi).keep hg⟩
end Go.Proofs.Ytnimehkfnpepfaa
