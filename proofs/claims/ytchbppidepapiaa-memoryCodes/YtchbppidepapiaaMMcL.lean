import Derived.Test.YtchbppidepapiaaMRm
namespace Go.Proofs.Ytchbppidepapiaa
open Go.RowKit
set_option maxRecDepth 100000
set_option linter.unusedVariables false
set_option linter.unusedSimpArgs false

theorem mcodes_walk (n c : Int) (w : World) :
    Calls Try.prog 3 #[.int .i64 n, .int .i64 c] w fun e w' => e = .returned (.bool true) ∧ Below w.heap.size w w' := by
  have h1 := fun wz => rcode_any n wz
  have h2 := fun wz => code_any n wz
  have h3 := fun wz => rmend_any c wz
  have h4 := fun wz => mend_any c wz
  generalize cdV n = x1 at h1 h2
  generalize cdE n = x2 at h1 h2
  generalize mdV c = x3 at h3 h4
  generalize mdB c = x4 at h3 h4
  generalize mdE c = x5 at h3 h4
  go_enter Try.func3, Try.ntmps3
  go_wp2_with (first
    | (go_at_call 7; refine (h1 _).mono ?_; rintro e w1 ⟨rfl, hw⟩; have hw := hw.symm; subst hw)
    | (go_at_call 8; refine (h2 _).mono ?_; rintro e w1 ⟨rfl, hw⟩; have hw := hw.symm; subst hw)
    | (go_at_call 9; refine (h3 _).mono ?_; rintro e w1 ⟨rfl, hw⟩; have hw := hw.symm; subst hw)
    | (go_at_call 10; refine (h4 _).mono ?_; rintro e w1 ⟨rfl, hw⟩; have hw := hw.symm; subst hw))
  go_ret
  exact ⟨by first | rfl | simp, Below.refl _ _⟩
end Go.Proofs.Ytchbppidepapiaa
