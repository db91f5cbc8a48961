import Derived.Test.YtlmddjkplnbadaaKOr1
import Derived.Test.YtlmddjkplnbadaaNSa1
namespace Go.Proofs.Ytlmddjkplnbadaa
open Go.RowKit
set_option maxRecDepth 100000
set_option linter.unusedVariables false
set_option linter.unusedSimpArgs false

/-- a hand, cell by cell -/
def hnA (cr nx ah : Int) (sv qv : Value) (ti pa tr li si pu hl : Int) : Array Value := #[.int .i64 cr, .int .i64 nx, .int .i64 ah, sv, qv, .int .i64 ti, .int .i64 pa, .int .i64 tr, .int .i64 li, .int .i64 si, .int .i64 pu, .int .i64 hl]
theorem BxS.cell12 {w : World} {g : Nat} {t : TypeId} {a0 a1 a2 a3 a4 a5 a6 a7 a8 a9 aa ab : Value} (k : BxS w g t #[a0, a1, a2, a3, a4, a5, a6, a7, a8, a9, aa, ab]) : w.cell? ⟨g, 0, none⟩ = some a0 ∧ w.cell? ⟨g, 1, none⟩ = some a1 ∧ w.cell? ⟨g, 2, none⟩ = some a2 ∧ w.cell? ⟨g, 3, none⟩ = some a3 ∧ w.cell? ⟨g, 4, none⟩ = some a4 ∧ w.cell? ⟨g, 5, none⟩ = some a5 ∧ w.cell? ⟨g, 6, none⟩ = some a6 ∧ w.cell? ⟨g, 7, none⟩ = some a7 ∧ w.cell? ⟨g, 8, none⟩ = some a8 ∧ w.cell? ⟨g, 9, none⟩ = some a9 ∧ w.cell? ⟨g, 10, none⟩ = some aa ∧ w.cell? ⟨g, 11, none⟩ = some ab := by
  simp [World.cell?, show w.heap[g]? = _ from k]
def alC (F : Nat → Rw) : Nat → Bool
  | 0 => true
  | k + 1 => alC F k && kwB (F k).n 1 1017
theorem alC_no (F : Nat → Rw) (k : Nat) (h : kwB (F k).n 1 1017 = false) (n : Nat) (hk : k < n) : alC F n = false := by
  induction n with
  | zero => omega
  | succ n ih =>
    show (alC F n && kwB (F n).n 1 1017) = false
    by_cases e : k = n
    · subst e; rw [h, Bool.and_false]
    · rw [ih (by omega), Bool.false_and]
theorem alC_ok {F : Nat → Rw} {n : Nat} (h : alC F n = true) : ∀ i, i < n → 1 ≤ (F i).n ∧ (F i).n ≤ 1017 := by
  intro i hi
  cases e : kwB (F i).n 1 1017 with
  | false => rw [alC_no F i e n hi] at h; cases h
  | true => have := kwB_ok e; omega
/-- may these commands be? -/
def cmB (n : Nat) (F : Nat → Rw) (m : Int) : Bool := decide ((n : Int) ≤ m) && alC F n
def hlB (h : Int) : Bool := decide (h = 0 ∨ h = 15 ∨ h = 11 ∨ h = 19)
/-- may a hand be? -/
def hnB (cr nx ah : Int) (sn : Nat) (F : Nat → Rw) (qn : Nat) (H : Nat → Rw) (ti pa tr li si pu hl : Int) : Bool := kwB cr 0 1023 && kwB ah 1 127 && kwB pa 1 1000 && kwB pu 0 1000 && kwB li 1 100 && kwB nx 0 255 && cmB sn F ah && cmB qn H 100 && kwB ti 0 (pa - 1) && kwB tr 0 li && kwB si 0 pu && hlB hl
end Go.Proofs.Ytlmddjkplnbadaa
