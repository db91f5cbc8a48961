import Derived.Deep.WholeRow
import Derived.Laws.ResultCell
import Derived.Laws.AppendOwnNone
import Derived.Test.YtnimehkfnpepfaaFSums
import Derived.Test.YtnimehkfnpepfaaFRow
namespace Go.Proofs.Ytnimehkfnpepfaa
open Go.RowKit
set_option maxRecDepth 100000
set_option linter.unusedVariables false
set_option linter.unusedSimpArgs false

/-! slices of numbers as they are read -/
def nthI (S : List Int) (i : Nat) : Int := S.getD i 0
structure RdI (w : World) (a : Option Addr) (n cap : Nat) (S : List Int) : Prop where
  len : S.length = n
  le : n ≤ cap
  max : cap ≤ maxLen
  nil : a = none → cap = 0
  at' : 0 < n → ∃ b off, a = some ⟨b, off, none⟩ ∧ b < w.heap.size ∧ ∀ i, i < n → w.cell? ⟨b, off + i, none⟩ = some (.int .i64 (nthI S i))
theorem RdI.grown {w w' : World} {a : Option Addr} {n cap : Nat} {S : List Int} {r : Option Nat} (h : RdI w a n cap S) (hg : w.grownBy w' r) (hne : ∀ b off, a = some ⟨b, off, none⟩ → some b ≠ r) : RdI w' a n cap S := by
  refine ⟨h.len, h.le, h.max, h.nil, fun h0 => ?_⟩
  obtain ⟨b, off, rfl, hb, hc⟩ := h.at' h0
  refine ⟨b, off, rfl, Nat.lt_of_lt_of_le hb hg.size, fun i hi => ?_⟩
  exact (World.cell?_of_block (w := w) (hg.block b hb (hne b off rfl))).trans (hc i hi)
theorem RdI.keep {w w' : World} {a : Option Addr} {n cap : Nat} {S : List Int} (h : RdI w a n cap S) (hg : w.grownBy w' none) : RdI w' a n cap S := h.grown hg (fun _ _ _ => by simp)
/-! rows of numbers that grow -/
def zys (L : List Int) : List Value := L.map fun n => Value.int .i64 n
theorem zys_length (L : List Int) : (zys L).length = L.length := by simp [zys]
theorem zys_at (L : List Int) (i : Nat) (hi : i < L.length) : (zys L)[i]? = some (.int .i64 (nthI L i)) := by
  unfold zys nthI
  rw [List.getElem?_map, List.getElem?_eq_getElem hi, List.getD_eq_getElem?_getD, List.getElem?_eq_getElem hi]; rfl
/-- an answer of numbers, in memory from block lo on -/
structure AnsZ (w : World) (lo : Nat) (a : Option Addr) (n cap : Nat) (L : List Int) : Prop where
  own : w.ownsRow 0 3 1 (.slice a n cap) n (zys L)
  new : ∀ g, (Value.slice a n cap).ownBlock = some g → lo ≤ g
theorem AnsZ.len {w : World} {lo : Nat} {a : Option Addr} {n cap : Nat} {L : List Int} (h : AnsZ w lo a n cap L) : L.length = n := by
  have := h.own.1; rw [zys_length] at this; omega
theorem AnsZ.cases {w : World} {lo : Nat} {a : Option Addr} {n cap : Nat} {L : List Int} (h : AnsZ w lo a n cap L) :
    (a = none ∧ n = 0 ∧ cap = 0) ∨ ∃ g, a = some ⟨g, 0, none⟩ ∧ lo ≤ g ∧ g < w.heap.size := by
  rcases h.own.2 with ⟨h1, h2⟩ | ⟨g, cap', cur, h1, _, h3, _⟩
  · simp only [Value.slice.injEq] at h1; exact .inl h1
  · simp only [Value.slice.injEq] at h1
    obtain ⟨rfl, _, _⟩ := h1
    exact .inr ⟨g, rfl, h.new g rfl, (Array.getElem?_eq_some_iff.1 h3).1⟩
theorem AnsZ.max {w : World} {lo : Nat} {a : Option Addr} {n cap : Nat} {L : List Int} (h : AnsZ w lo a n cap L) : n ≤ cap ∧ cap ≤ maxLen := by
  rcases h.own.2 with ⟨h1, h2⟩ | ⟨g, cap', cur, h1, _, h3, h4, h5, _⟩
  · simp only [Value.slice.injEq] at h1; obtain ⟨_, h6, h7⟩ := h1; subst h6; subst h7; exact ⟨Nat.le_refl _, Nat.zero_le _⟩
  · simp only [Value.slice.injEq] at h1; obtain ⟨_, _, h7⟩ := h1; subst h7; exact ⟨h4, h5⟩
theorem AnsZ.rd {w : World} {lo : Nat} {a : Option Addr} {n cap : Nat} {L : List Int} (h : AnsZ w lo a n cap L) : RdI w a n cap L := by
  refine ⟨h.len, h.max.1, h.max.2, fun h0 => ?_, fun h0 => ?_⟩
  · rcases h.cases with ⟨_, _, h3⟩ | ⟨g, h1, _⟩
    · exact h3
    · rw [h0] at h1; cases h1
  · rcases h.cases with ⟨_, h2, _⟩ | ⟨g, rfl, _, hl⟩
    · omega
    · refine ⟨g, 0, rfl, hl, fun i hi => ?_⟩
      have hL := h.len
      rw [Nat.zero_add, h.own.cellAt i (by omega)]
      exact zys_at L i (by omega)
theorem AnsZ.kept {w w' : World} {lo : Nat} {a : Option Addr} {n cap : Nat} {L : List Int} {r : Option Nat} (h : AnsZ w lo a n cap L) (hg : w.grownBy w' r) (hne : (Value.slice a n cap).ownBlock = none ∨ (Value.slice a n cap).ownBlock ≠ r) : AnsZ w' lo a n cap L :=
  ⟨h.own.kept hg hne, h.new⟩
theorem AnsZ.keep {w w' : World} {lo : Nat} {a : Option Addr} {n cap : Nat} {L : List Int} (h : AnsZ w lo a n cap L) (hg : w.grownBy w' none) : AnsZ w' lo a n cap L :=
  h.kept hg (by cases (Value.slice a n cap).ownBlock <;> simp)
theorem AnsZ.lt {w : World} {lo : Nat} {a : Option Addr} {n cap : Nat} {L : List Int} (h : AnsZ w lo a n cap L) : ∀ g, (Value.slice a n cap).ownBlock = some g → g < w.heap.size := by
  intro g hg
  rcases h.cases with ⟨rfl, _, _⟩ | ⟨g', rfl, _, hl⟩
  · simp [Value.ownBlock] at hg
  · have : g' = g := by simpa [Value.ownBlock] using hg
    omega
end Go.Proofs.Ytnimehkfnpepfaa
