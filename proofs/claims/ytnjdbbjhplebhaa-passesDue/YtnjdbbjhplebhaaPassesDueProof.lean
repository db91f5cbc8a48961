/-
  The proof of 'Rows.PassesDueSaid': the arguments by their shapes, the walk filled in.
-/
import Derived.Test.YtnjdbbjhplebhaaRows
import Derived.Test.YtnjdbbjhplebhaaPd10
import Derived.Test.YtnjdbbjhplebhaaPd13
import Derived.WalkKit
import Derived.ProofKit
import Derived.SizedLaws
import Derived.OpenShut
import Derived.ShutString
import Derived.ChangeOld
import Derived.Below
namespace Go.Proofs.Ytnjdbbjhplebhaa.passesDue
open Go.ChangeShapes Go.WideShapes Go.ChangeAt Go.RowKit
set_option linter.unusedVariables false

theorem own : ownKnob Try.prog.godebug = none := by kernel_rfl
theorem laidOut : laidOutB Try.prog = true := by kernel_rfl
abbrev S0 : Sh := (.slice 2 16 (.fcons 1 (.int .i64) (.fcons 1 (.int .i64) .fend)))
theorem shape0 : shapeOf Try.prog 12 37 = some S0 := by kernel_rfl
abbrev S1 : Sh := (.slice 2 16 (.fcons 1 (.int .i64) (.fcons 1 (.int .i64) .fend)))
theorem shape1 : shapeOf Try.prog 12 37 = some S1 := by kernel_rfl
abbrev S2 : Sh := (.slice 1 8 (.int .i64))
theorem shape2 : shapeOf Try.prog 12 24 = some S2 := by kernel_rfl
theorem walk (v0 v1 v2 : Value) (n0 n1 n2 : Nat) (w : World) (h0 : S0.shown w true v0 n0) (h1 : S1.shown w true v1 n1) (h2 : S2.shown w true v2 n2) :
    Calls Try.prog 4 #[v0, v1, v2] w fun e w' => e = .returned (.bool true) ∧ Below w.heap.size w w' := by
  obtain ⟨ra, rn, rc, K, rfl, hR⟩ := shown_turns h0
  obtain ⟨ma, mn, mc, M, rfl, hM⟩ := shown_turns h1
  obtain ⟨sa, sn, sc, L, rfl, hS⟩ := shown_intsR h2
  refine (due_walk ra ma sa rn rc mn mc sn sc K M L w hR hM hS).mono ?_
  rintro e w' ⟨he, hg⟩
  exact ⟨he, (Below.refl _ _).grown hg (Nat.le_refl _) (fun k hk => by cases hk)⟩

set_option maxRecDepth 100000 in
theorem lifted (os : Os) (started : os.Started) (H : Type) (enc : TypeId × Value → H) :
    ReturnsInHanded {} Try.checked os 4 .any (Rows.passesDueSpec.pre6 enc Try.prog Try.f4 Rows.passesDueRow.domain false) (Rows.passesDueSpec.post enc Try.prog Try.f4 false true false false) := by
  refine returnsInHanded_of_change_sized (C := Try.checked) own started (by kernel_rfl) Try.func4
    (ChangeSpec.witness6 (enc := enc) (C := Try.checked) false ⟨#[], #[.slice none 0 0, .slice none 0 0, .slice none 0 0], []⟩ 12 (by kernel_rfl) (by kernel_rfl) (by kernel_rfl) (by kernel_rfl)) ?_
  intro W base args ds gs before hval0 hW hcnd hsz0 _
  have hval : ∀ (j : Nat) t v, Try.f4.params[j]? = some t → args[j]? = some v → Value.okWide Try.prog W .any base t v := hval0
  have hW' := hW
  obtain ⟨p, q, hA0, hV, rfl, hfz, hnd⟩ := hW
  have hA : DataW.TrodAll enc Try.prog W 0 (fun _ => true) true Try.f4.params.toList args.toList ds p := hA0
  have hsz : (DataW.weightsEach Try.prog (Try.f4.params.toList ++ Rows.passesDueSpec.plain.varTypes Try.prog) (ds ++ gs)).all (· ≤ reachBytes) = true := hsz0
  rw [Try.params4] at hA hval hsz
  obtain ⟨v0, vs0, d0, ds0, p0, q0, hargs, rfl, rfl, h0, r0⟩ := trodAll_cons hA
  obtain ⟨v1, vs1, d1, ds1, p1, q1, rfl, rfl, rfl, h1, r1⟩ := trodAll_cons r0
  obtain ⟨v2, vs2, d2, ds2, p2, q2, rfl, rfl, rfl, h2, r2⟩ := trodAll_cons r1
  obtain ⟨rfl, rfl, rfl⟩ := trodAll_nil r2
  obtain rfl : args = #[v0, v1, v2] := by cases args; simp_all
  obtain ⟨rfl, rfl⟩ := trodVars_none hV
  have lt0 : ∀ x ∈ p0, x.block < W.heap.size := by obtain ⟨m, hm⟩ := h0; exact DataW.trod_lt m _ _ _ hm
  have s0 := shown_of (full := true) shape0 (hval 0 37 v0 rfl rfl) h0 (fun _ n hn => of_decide_eq_true (List.all_eq_true.1 hsz n (DataW.weights_mem_each (j := 0) rfl rfl n hn)))
  have lt1 : ∀ x ∈ p1, x.block < W.heap.size := by obtain ⟨m, hm⟩ := h1; exact DataW.trod_lt m _ _ _ hm
  have s1 := shown_of (full := true) shape1 (hval 1 37 v1 rfl rfl) h1 (fun _ n hn => of_decide_eq_true (List.all_eq_true.1 hsz n (DataW.weights_mem_each (j := 1) rfl rfl n hn)))
  have lt2 : ∀ x ∈ p2, x.block < W.heap.size := by obtain ⟨m, hm⟩ := h2; exact DataW.trod_lt m _ _ _ hm
  have s2 := shown_of (full := true) shape2 (hval 2 24 v2 rfl rfl) h2 (fun _ n hn => of_decide_eq_true (List.all_eq_true.1 hsz n (DataW.weights_mem_each (j := 2) rfl rfl n hn)))
  clear hA0 hval0
  refine (walk v0 v1 v2 _ _ _ W s0 s1 s2).mono fun e W' ⟨he, bel⟩ => ?_
  subst he
  exact ⟨_, rfl, _, _, _, [], _, [], hW', trodAll_mk1 (shut_bool Try.underlying4 _), (trodAll_cons_mk (Below.trod laidOut (by kernel_rfl) (of_decide_eq_true (by kernel_rfl)) h0 bel lt0) (trodAll_cons_mk (Below.trod laidOut (by kernel_rfl) (of_decide_eq_true (by kernel_rfl)) h1 bel lt1) (trodAll_cons_mk (Below.trod laidOut (by kernel_rfl) (of_decide_eq_true (by kernel_rfl)) h2 bel lt2) (trodAll_mk0)))), rfl, bel.frame _, fun h => by cases h⟩

theorem over : Rows.passesDueRow.holds Try.pinned (OpenSpec.ofChange Rows.passesDueSpec) :=
  OpenClaim.holds_of_wide 4 Try.f4 rfl rfl rfl rfl rfl rfl rfl ⟨rfl, rfl, rfl, rfl, rfl⟩ rfl rfl rfl rfl rfl (by kernel_rfl) Try.func4 (by kernel_rfl)
    (of_decide_eq_true (by kernel_rfl)) (by unfold Func.isWrapper; first | (rw [if_pos (by decide +kernel)]; kernel_rfl) | (rw [if_neg (by decide +kernel)]; exact ⟨rfl, rfl⟩))
    (fun os started H enc _ => lifted os started H enc)
theorem proved : Rows.PassesDueSaid := over
#print axioms proved
end Go.Proofs.Ytnjdbbjhplebhaa.passesDue
namespace Go.Proofs.Ytnjdbbjhplebhaa
theorem passesDue_holds : Rows.PassesDueSaid := passesDue.proved
end Go.Proofs.Ytnjdbbjhplebhaa
