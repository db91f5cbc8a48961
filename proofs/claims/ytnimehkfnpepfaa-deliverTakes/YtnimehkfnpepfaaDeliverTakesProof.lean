/-
  The proof of 'Rows.DeliverTakesSaid': the arguments by their shapes, the walk filled in.
-/
import Derived.Test.YtnimehkfnpepfaaRows
import Derived.Test.YtnimehkfnpepfaaTk1
import Derived.Test.YtnimehkfnpepfaaTk35
import Derived.WalkKit
import Derived.ProofKit
import Derived.SizedLaws
import Derived.OpenShut
import Derived.ShutString
import Derived.ChangeOld
import Derived.Below
namespace Go.Proofs.Ytnimehkfnpepfaa.deliverTakes
open Go.ChangeShapes Go.WideShapes Go.ChangeAt Go.RowKit
set_option linter.unusedVariables false

theorem own : ownKnob Try.prog.godebug = none := by kernel_rfl
theorem laidOut : laidOutB Try.prog = true := by kernel_rfl
abbrev S0 : Sh := (.fcons 1 (.int .i64) (.fcons 1 .bool (.fcons 1 .str (.fcons 1 (.int .i64) (.fcons 1 .bool (.fcons 1 (.int .i64) (.fcons 1 (.int .i64) (.fcons 1 (.slice 2 16 (.fcons 1 (.int .i64) (.fcons 1 (.int .i64) .fend))) (.fcons 1 (.slice 1 1 (.int .u8)) (.fcons 1 (.int .i64) (.fcons 1 (.int .i64) (.fcons 1 (.int .i64) (.fcons 1 (.int .i64) (.fcons 1 (.int .i64) .fend))))))))))))))
theorem shape0 : shapeOf Try.prog 12 48 = some S0 := by kernel_rfl
abbrev S1 : Sh := (.fcons 1 (.int .i64) (.fcons 1 (.int .i64) (.fcons 1 .str (.fcons 1 (.int .i64) (.fcons 1 (.int .i64) (.fcons 1 (.int .i64) (.fcons 1 (.slice 1 1 (.int .u8)) (.fcons 1 (.slice 2 16 (.fcons 1 (.int .i64) (.fcons 1 (.int .i64) .fend))) (.fcons 1 (.int .i64) (.fcons 1 (.int .i64) .fend))))))))))
theorem shape1 : shapeOf Try.prog 12 27 = some S1 := by kernel_rfl
theorem walk (v0 v1 : Value) (n0 n1 : Nat) (w : World) (h0 : S0.shown w true v0 n0) (h1 : S1.shown w true v1 n1) :
    Calls Try.prog 8 #[v0, v1] w fun e w' => e = .returned (.bool true) ∧ Below w.heap.size w w' := by
  obtain ⟨V, a, q, c, d, rfl, hL, hG, f1, f2⟩ := shown_taker h0
  obtain ⟨kd, id, nm, si, su, at', pa2, pn, pc, ga, gm, gd, o, co, D2, F2, rfl, hD, hF2, f3, f4⟩ := shown_note h1
  have hd := f4 rfl
  unfold reachBytes at hd
  have hle := hF2.le
  exact takes_walk V a q c d kd id nm si su at' pa2 pn pc ga gm gd o co D2 F2 w hL hG hD hF2 (f1 rfl) (f2 rfl) (Nat.le_trans hD.le (f3 rfl)) (by omega)

set_option maxRecDepth 100000 in
theorem lifted (os : Os) (started : os.Started) (H : Type) (enc : TypeId × Value → H) :
    ReturnsInHanded {} Try.checked os 8 .any (Rows.deliverTakesSpec.pre6 enc Try.prog Try.f8 Rows.deliverTakesRow.domain false) (Rows.deliverTakesSpec.post enc Try.prog Try.f8 false true false false) := by
  refine returnsInHanded_of_change_sized (C := Try.checked) own started (by kernel_rfl) Try.func8
    (ChangeSpec.witness6 (enc := enc) (C := Try.checked) false ⟨#[], #[.agg #[.int .i64 0, .bool false, .string ByteArray.empty, .int .i64 0, .bool false, .int .i64 0, .int .i64 0, .slice none 0 0, .slice none 0 0, .int .i64 0, .int .i64 0, .int .i64 0, .int .i64 0, .int .i64 0], .agg #[.int .i64 0, .int .i64 0, .string ByteArray.empty, .int .i64 0, .int .i64 0, .int .i64 0, .slice none 0 0, .slice none 0 0, .int .i64 0, .int .i64 0]], []⟩ 12 (by kernel_rfl) (by kernel_rfl) (by kernel_rfl) (by kernel_rfl)) ?_
  intro W base args ds gs before hval0 hW hcnd hsz0 _
  have hval : ∀ (j : Nat) t v, Try.f8.params[j]? = some t → args[j]? = some v → Value.okWide Try.prog W .any base t v := hval0
  have hW' := hW
  obtain ⟨p, q, hA0, hV, rfl, hfz, hnd⟩ := hW
  have hA : DataW.TrodAll enc Try.prog W 0 (fun _ => true) true Try.f8.params.toList args.toList ds p := hA0
  have hsz : (DataW.weightsEach Try.prog (Try.f8.params.toList ++ Rows.deliverTakesSpec.plain.varTypes Try.prog) (ds ++ gs)).all (· ≤ reachBytes) = true := hsz0
  rw [Try.params8] at hA hval hsz
  obtain ⟨v0, vs0, d0, ds0, p0, q0, hargs, rfl, rfl, h0, r0⟩ := trodAll_cons hA
  obtain ⟨v1, vs1, d1, ds1, p1, q1, rfl, rfl, rfl, h1, r1⟩ := trodAll_cons r0
  obtain ⟨rfl, rfl, rfl⟩ := trodAll_nil r1
  obtain rfl : args = #[v0, v1] := by cases args; simp_all
  obtain ⟨rfl, rfl⟩ := trodVars_none hV
  have lt0 : ∀ x ∈ p0, x.block < W.heap.size := by obtain ⟨m, hm⟩ := h0; exact DataW.trod_lt m _ _ _ hm
  have s0 := shown_of (full := true) shape0 (hval 0 48 v0 rfl rfl) h0 (fun _ n hn => of_decide_eq_true (List.all_eq_true.1 hsz n (DataW.weights_mem_each (j := 0) rfl rfl n hn)))
  have lt1 : ∀ x ∈ p1, x.block < W.heap.size := by obtain ⟨m, hm⟩ := h1; exact DataW.trod_lt m _ _ _ hm
  have s1 := shown_of (full := true) shape1 (hval 1 27 v1 rfl rfl) h1 (fun _ n hn => of_decide_eq_true (List.all_eq_true.1 hsz n (DataW.weights_mem_each (j := 1) rfl rfl n hn)))
  clear hA0 hval0
  refine (walk v0 v1 _ _ W s0 s1).mono fun e W' ⟨he, bel⟩ => ?_
  subst he
  exact ⟨_, rfl, _, _, _, [], _, [], hW', trodAll_mk1 (shut_bool Try.underlying4 _), (trodAll_cons_mk (Below.trod laidOut (by kernel_rfl) (of_decide_eq_true (by kernel_rfl)) h0 bel lt0) (trodAll_cons_mk (Below.trod laidOut (by kernel_rfl) (of_decide_eq_true (by kernel_rfl)) h1 bel lt1) (trodAll_mk0))), rfl, bel.frame _, fun h => by cases h⟩

theorem over : Rows.deliverTakesRow.holds Try.pinned (OpenSpec.ofChange Rows.deliverTakesSpec) :=
  OpenClaim.holds_of_wide 8 Try.f8 rfl rfl rfl rfl rfl rfl rfl ⟨rfl, rfl, rfl, rfl, rfl⟩ rfl rfl rfl rfl rfl (by kernel_rfl) Try.func8 (by kernel_rfl)
    (of_decide_eq_true (by kernel_rfl)) (by unfold Func.isWrapper; first | (rw [if_pos (by decide +kernel)]; kernel_rfl) | (rw [if_neg (by decide +kernel)]; exact ⟨rfl, rfl⟩))
    (fun os started H enc _ => lifted os started H enc)
theorem proved : Rows.DeliverTakesSaid := over
#print axioms proved
end Go.Proofs.Ytnimehkfnpepfaa.deliverTakes
namespace Go.Proofs.Ytnimehkfnpepfaa
theorem deliverTakes_holds : Rows.DeliverTakesSaid := deliverTakes.proved
end Go.Proofs.Ytnimehkfnpepfaa
