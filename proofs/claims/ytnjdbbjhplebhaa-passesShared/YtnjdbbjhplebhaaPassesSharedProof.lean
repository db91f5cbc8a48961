/-
  The proof of 'Rows.PassesSharedSaid': the arguments by their shapes, the walk filled in.
-/
import Derived.Test.YtnjdbbjhplebhaaRows
import Derived.Test.YtnjdbbjhplebhaaPs14
import Derived.Test.YtnjdbbjhplebhaaPs18
import Derived.WalkKit
import Derived.ProofKit
import Derived.SizedLaws
import Derived.OpenShut
import Derived.ShutString
import Derived.ChangeOld
import Derived.Below
namespace Go.Proofs.Ytnjdbbjhplebhaa.passesShared
open Go.ChangeShapes Go.WideShapes Go.ChangeAt Go.RowKit
set_option linter.unusedVariables false

theorem own : ownKnob Try.prog.godebug = none := by kernel_rfl
theorem laidOut : laidOutB Try.prog = true := by kernel_rfl
abbrev S0 : Sh := (.slice 3 24 (.fcons 1 (.int .i64) (.fcons 1 (.int .i64) (.fcons 1 (.int .i64) .fend))))
theorem shape0 : shapeOf Try.prog 12 22 = some S0 := by kernel_rfl
abbrev S1 : Sh := (.slice 3 24 (.fcons 1 (.int .i64) (.fcons 1 (.int .i64) (.fcons 1 (.int .i64) .fend))))
theorem shape1 : shapeOf Try.prog 12 23 = some S1 := by kernel_rfl
theorem walk (v0 v1 : Value) (n0 n1 : Nat) (w : World) (h0 : S0.shown w true v0 n0) (h1 : S1.shown w true v1 n1) :
    Calls Try.prog 3 #[v0, v1] w fun e w' => e = .returned (.bool true) ∧ Below w.heap.size w w' := by
  obtain ⟨wa, wn, wc, F, rfl, hW, hw0, hwb⟩ := shown_trip h0
  obtain ⟨ja, jn, jc, K, rfl, hJ, hj0, hjb⟩ := shown_trip h1
  refine (shared_walk wa ja wn wc jn jc F K w hW hJ hw0 hj0 (hwb rfl) (hjb rfl)).mono ?_
  rintro e w' ⟨he, hg⟩
  exact ⟨he, (Below.refl _ _).grown hg (Nat.le_refl _) (fun k hk => by cases hk)⟩

set_option maxRecDepth 100000 in
theorem lifted (os : Os) (started : os.Started) (H : Type) (enc : TypeId × Value → H) :
    ReturnsInHanded {} Try.checked os 3 .any (Rows.passesSharedSpec.pre6 enc Try.prog Try.f3 Rows.passesSharedRow.domain false) (Rows.passesSharedSpec.post enc Try.prog Try.f3 false true false false) := by
  refine returnsInHanded_of_change_sized (C := Try.checked) own started (by kernel_rfl) Try.func3
    (ChangeSpec.witness6 (enc := enc) (C := Try.checked) false ⟨#[], #[.slice none 0 0, .slice none 0 0], []⟩ 12 (by kernel_rfl) (by kernel_rfl) (by kernel_rfl) (by kernel_rfl)) ?_
  intro W base args ds gs before hval0 hW hcnd hsz0 _
  have hval : ∀ (j : Nat) t v, Try.f3.params[j]? = some t → args[j]? = some v → Value.okWide Try.prog W .any base t v := hval0
  have hW' := hW
  obtain ⟨p, q, hA0, hV, rfl, hfz, hnd⟩ := hW
  have hA : DataW.TrodAll enc Try.prog W 0 (fun _ => true) true Try.f3.params.toList args.toList ds p := hA0
  have hsz : (DataW.weightsEach Try.prog (Try.f3.params.toList ++ Rows.passesSharedSpec.plain.varTypes Try.prog) (ds ++ gs)).all (· ≤ reachBytes) = true := hsz0
  rw [Try.params3] at hA hval hsz
  obtain ⟨v0, vs0, d0, ds0, p0, q0, hargs, rfl, rfl, h0, r0⟩ := trodAll_cons hA
  obtain ⟨v1, vs1, d1, ds1, p1, q1, rfl, rfl, rfl, h1, r1⟩ := trodAll_cons r0
  obtain ⟨rfl, rfl, rfl⟩ := trodAll_nil r1
  obtain rfl : args = #[v0, v1] := by cases args; simp_all
  obtain ⟨rfl, rfl⟩ := trodVars_none hV
  have lt0 : ∀ x ∈ p0, x.block < W.heap.size := by obtain ⟨m, hm⟩ := h0; exact DataW.trod_lt m _ _ _ hm
  have s0 := shown_of (full := true) shape0 (hval 0 22 v0 rfl rfl) h0 (fun _ n hn => of_decide_eq_true (List.all_eq_true.1 hsz n (DataW.weights_mem_each (j := 0) rfl rfl n hn)))
  have lt1 : ∀ x ∈ p1, x.block < W.heap.size := by obtain ⟨m, hm⟩ := h1; exact DataW.trod_lt m _ _ _ hm
  have s1 := shown_of (full := true) shape1 (hval 1 23 v1 rfl rfl) h1 (fun _ n hn => of_decide_eq_true (List.all_eq_true.1 hsz n (DataW.weights_mem_each (j := 1) rfl rfl n hn)))
  clear hA0 hval0
  refine (walk v0 v1 _ _ W s0 s1).mono fun e W' ⟨he, bel⟩ => ?_
  subst he
  exact ⟨_, rfl, _, _, _, [], _, [], hW', trodAll_mk1 (shut_bool Try.underlying4 _), (trodAll_cons_mk (Below.trod laidOut (by kernel_rfl) (of_decide_eq_true (by kernel_rfl)) h0 bel lt0) (trodAll_cons_mk (Below.trod laidOut (by kernel_rfl) (of_decide_eq_true (by kernel_rfl)) h1 bel lt1) (trodAll_mk0))), rfl, bel.frame _, fun h => by cases h⟩

theorem over : Rows.passesSharedRow.holds Try.pinned (OpenSpec.ofChange Rows.passesSharedSpec) :=
  OpenClaim.holds_of_wide 3 Try.f3 rfl rfl rfl rfl rfl rfl rfl ⟨rfl, rfl, rfl, rfl, rfl⟩ rfl rfl rfl rfl rfl (by kernel_rfl) Try.func3 (by kernel_rfl)
    (of_decide_eq_true (by kernel_rfl)) (by unfold Func.isWrapper; first | (rw [if_pos (by decide +kernel)]; kernel_rfl) | (rw [if_neg (by decide +kernel)]; exact ⟨rfl, rfl⟩))
    (fun os started H enc _ => lifted os started H enc)
theorem proved : Rows.PassesSharedSaid := over
#print axioms proved
end Go.Proofs.Ytnjdbbjhplebhaa.passesShared
namespace Go.Proofs.Ytnjdbbjhplebhaa
theorem passesShared_holds : Rows.PassesSharedSaid := passesShared.proved
end Go.Proofs.Ytnjdbbjhplebhaa
