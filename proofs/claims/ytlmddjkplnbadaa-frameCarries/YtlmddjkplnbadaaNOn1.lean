import Derived.Test.YtlmddjkplnbadaaNSa2
namespace Go.Proofs.Ytlmddjkplnbadaa
open Go.RowKit
set_option maxRecDepth 100000
set_option linter.unusedVariables false
set_option linter.unusedSimpArgs false

/-- why there may be no frames of a craft and a size -/
def opE (cr sz : Int) : Nat := if wiB cr 1023 = true then (if siB sz = true then 0 else 1) else 2
theorem fwrong_any (cr sz : Int) (w : World) : Calls Try.prog 51 #[.int .i64 cr, .int .i64 sz] w fun e w' => e = .returned (.int .i64 (opE cr sz : Nat)) ∧ w' = w := by
  have h0 := fun wz => fwithin_any cr 1023 wz
  have h1 := fun wz => fsize_any sz wz
  unfold opE
  generalize wiB cr 1023 = x at h0 ⊢
  generalize siB sz = y at h1 ⊢
  have t1 : True := trivial
  cases x <;> cases y
  all_goals
    go_enter Try.func51, Try.ntmps51
    go_wp2_with (first
      | (go_at_call 43; have _t := t1; clear t1; refine (h0 _).mono ?_; rintro e wx ⟨rfl, hw⟩; have hw := hw.symm; subst hw; have t2 : True := trivial)
      | (go_at_call 44; have _t := t2; clear t2; refine (h1 _).mono ?_; rintro e wx ⟨rfl, hw⟩; have hw := hw.symm; subst hw))
    go_ret
    exact ⟨rfl, rfl⟩
theorem Try.info_se : (Try.prog.info? 38).map (fun i => i.size) = some 5 := by kernel_rfl
theorem Try.info_li : (Try.prog.info? 43).map (fun i => i.size) = some 4 := by kernel_rfl
def zq : Value := .agg #[.int .i64 0, .slice none 0 0, .int .i64 0]
theorem Try.info_qu : (Try.prog.info? 83).map (fun i => (i.zero, i.size, i.bytes)) = some (some zq, 3, 40) := by kernel_rfl
end Go.Proofs.Ytlmddjkplnbadaa
