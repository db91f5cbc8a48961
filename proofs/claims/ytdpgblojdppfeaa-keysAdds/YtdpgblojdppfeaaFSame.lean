import Derived.Test.YtdpgblojdppfeaaFLeft
import Derived.Laws.BytesArg
namespace Go.Proofs.Ytdpgblojdppfeaa
open Go.RowKit
set_option maxRecDepth 100000
set_option linter.unusedVariables false
set_option linter.unusedSimpArgs false

def strB (L : List Nat) : ByteArray := strOfNums (L.map fun (n : Nat) => (n : Int))
theorem getD_cast (L : List Nat) (i : Nat) : (L.map fun (n : Nat) => (n : Int)).getD i 0 = (nth L i : Nat) := by
  unfold nth
  rw [List.getD_eq_getElem?_getD, List.getD_eq_getElem?_getD, List.getElem?_map]
  cases L[i]? <;> rfl
theorem str_any (w : World) (a : Option Addr) (n cap : Nat) (L : List Nat) (h : Rd w a n cap L) :
    (convert 32 9 (.slice a n cap)).run Try.prog w = .ok (.string (strB L)) w := by
  by_cases h0 : n = 0
  · subst h0
    have e : L = [] := List.eq_nil_of_length_eq_zero h.len
    subst e
    cases a with
    | none => exact run_convert_bytes_nil w 32 5 Try.underlying32 Try.underlying5 0 cap 9 Try.underlying9
    | some x =>
      rw [run_convert_bytes_string w 32 9 5 _ _ _ Try.underlying32 Try.underlying5 Try.underlying9]
      have := run_bytesToString (P := Try.prog) w x 0 cap [] (by simp [loadCells, loadCellsFrom])
      exact this
  · obtain ⟨b, off, rfl, hb, hc⟩ := h.at' (by omega)
    exact run_convert_bytes_arg w 32 5 Try.underlying32 Try.underlying5 b off n cap _ (by simp [h.len]) (fun i hi => by rw [getD_cast]; exact hc i hi) 9 Try.underlying9

theorem sameBytes_any (a b : Option Addr) (n m cap cap' : Nat) (L : List Nat) (w : World) (h : Rd w a n cap L) (k : Rd w b m cap' L) :
    Calls Try.prog 35 #[.slice a n cap, .slice b m cap'] w fun e w' => e = .returned (.bool true) ∧ w' = w := by
  have e1 := str_any w a n cap L h
  have e2 := str_any w b m cap' L k
  go_enter Try.func35, Try.ntmps35
  go_wp2
  go_ret
  exact ⟨rfl, rfl⟩
end Go.Proofs.Ytdpgblojdppfeaa
