/-
  The proof of 'Rows.SolomonDecodesCardSaid': the arguments by their shapes, the walk filled in.
-/
import Derived.Test.YtdcfgaibppenaaaDoorRows
import Derived.Test.YtdcfgaibppenaaaDoorCards
import Derived.Test.YtdcfgaibppenaaaDoorTie
import Derived.Test.YtdcfgaibppenaaaDoorSd22
import Derived.WalkKit
import Derived.ProofKit
import Derived.SizedLaws
import Derived.Lay
import Derived.LaidOnce
import Derived.MakeChecks
import Derived.LaidMore
import Derived.SevenTiedAt
import Derived.OpenShut
import Derived.ShutString
import Derived.ChangeOld
import Derived.Below
namespace Go.Proofs.YtdcfgaibppenaaaDoor.solomonDecodes
open Go.ChangeShapes Go.WideShapes Go.ChangeAt Go.RowKit
set_option linter.unusedVariables false

theorem own : ownKnob Tryd.prog.godebug = none := by kernel_rfl
theorem laidOut : laidOutB Tryd.prog = true := by kernel_rfl
abbrev S0 : Sh := (.slice 1 1 (.int .u8))
theorem shape0 : shapeOf Tryd.prog 12 22 = some S0 := by kernel_rfl
abbrev S1 : Sh := (.int .i64)
theorem shape1 : shapeOf Tryd.prog 12 3 = some S1 := by kernel_rfl
abbrev S2 : Sh := (.slice 1 8 (.int .i64))
theorem shape2 : shapeOf Tryd.prog 12 23 = some S2 := by kernel_rfl
theorem walk (v0 v1 v2 : Value) (n0 n1 n2 : Nat) (w : World) (h0 : S0.shown w true v0 n0) (h1 : S1.shown w true v1 n1) (h2 : S2.shown w true v2 n2) (hL : laidMetH Tryd.prog Rows.solomonDecodesRow.laid w) :
    Calls Tryd.prog 3 #[v0, v1, v2] w fun e w' => e = .returned (.bool true) ∧ Below w.heap.size w w' := by
  letI : Add GF := ⟨fun a b => ⟨a.v ^^^ b.v, Fld.xor_lt a.h b.h⟩⟩
  letI : Mul GF := ⟨fun a b => ⟨Fld.mul a.v b.v, Fld.mul_lt _ a.h⟩⟩
  letI : OfNat GF 0 := ⟨⟨0, by decide⟩⟩
  letI : OfNat GF 1 := ⟨⟨1, by decide⟩⟩
  haveI : Nonempty GL := ⟨⟨fun _ _ => rfl, fun _ _ => rfl, rfl, rfl⟩⟩
  obtain ⟨a, n, cap, W, rfl, hW, hf, _⟩ := shown_bytes h0
  obtain ⟨ck, rfl, hk⟩ := shown_int h1
  obtain ⟨ah, m, ch, L, rfl, hH, hLm, hg⟩ := shown_holes h2
  have l1 := hW.le
  have l2 := hH.le
  refine (sdec_walk a n cap W ck ah m ch L w hW (by have := hf rfl; omega) hk hH hLm (by have := hg rfl; unfold reachBytes at *; omega)).mono ?_
  rintro e w' ⟨he, hg⟩
  exact ⟨he, (Below.refl _ _).grown hg (Nat.le_refl _) (fun k hk => by cases hk)⟩

set_option maxRecDepth 100000 in
theorem lifted (os : Os) (started : os.Started) (H : Type) (enc : TypeId × Value → H) :
    ReturnsInHanded {} Tryd.checked os 3 .any (fun w args => (Rows.solomonDecodesSpec.pre enc Tryd.prog Tryd.f3 [] false w args ∧ laidMetH Tryd.prog Rows.solomonDecodesRow.laid w) ∧ sizedMet enc Tryd.prog Tryd.f3 (OpenSpec.ofChange Rows.solomonDecodesSpec) false w args)
      (Rows.solomonDecodesSpec.post enc Tryd.prog Tryd.f3 false true false false) := by
  refine returnsInHanded_of_change_and (C := Tryd.checked) (X := fun w _ => laidMetH Tryd.prog Rows.solomonDecodesRow.laid w) (fun _ _ _ hh h => h.of_heap hh) own started (by kernel_rfl) Tryd.func3
    (ChangeSpec.witness_shaped (enc := enc) (C := Tryd.checked) (os := os) (X := fun w _ => laidMetH Tryd.prog Rows.solomonDecodesRow.laid w) false (World.laidAll Tryd.prog os Rows.solomonDecodesRow.laid) #[.slice none 0 0, .int .i64 0, .slice none 0 0] 12 (World.laidAll_os _ _ _)
      (World.shaped_of_ZipB (by kernel_rfl) (by kernel_rfl)) (by kernel_rfl) (by kernel_rfl) (by kernel_rfl)
      (by rw [MakeChecks.laidMetH_plain _ _ _ (by kernel_rfl)]; exact laidMet_laidAll _ (by kernel_rfl) (by kernel_rfl))) ?_
  intro W base args ds gs before hval0 hW hcnd hsz0 hL _
  have hval : ∀ (j : Nat) t v, Tryd.f3.params[j]? = some t → args[j]? = some v → Value.okWide Tryd.prog W .any base t v := hval0
  have hW' := hW
  obtain ⟨p, q, hA0, hV, rfl, hfz, hnd⟩ := hW
  have hA : DataW.TrodAll enc Tryd.prog W 0 (fun _ => true) true Tryd.f3.params.toList args.toList ds p := hA0
  have hsz : (DataW.weightsEach Tryd.prog (Tryd.f3.params.toList ++ Rows.solomonDecodesSpec.plain.varTypes Tryd.prog) (ds ++ gs)).all (· ≤ reachBytes) = true := hsz0
  rw [Tryd.params3] at hA hval hsz
  obtain ⟨v0, vs0, d0, ds0, p0, q0, hargs, rfl, rfl, h0, r0⟩ := trodAll_cons hA
  obtain ⟨v1, vs1, d1, ds1, p1, q1, rfl, rfl, rfl, h1, r1⟩ := trodAll_cons r0
  obtain ⟨v2, vs2, d2, ds2, p2, q2, rfl, rfl, rfl, h2, r2⟩ := trodAll_cons r1
  obtain ⟨rfl, rfl, rfl⟩ := trodAll_nil r2
  obtain rfl : args = #[v0, v1, v2] := by cases args; simp_all
  obtain ⟨rfl, rfl⟩ := trodVars_none hV
  have lt0 : ∀ x ∈ p0, x.block < W.heap.size := by obtain ⟨m, hm⟩ := h0; exact DataW.trod_lt m _ _ _ hm
  have s0 := shown_of (full := true) shape0 (hval 0 22 v0 rfl rfl) h0 (fun _ n hn => of_decide_eq_true (List.all_eq_true.1 hsz n (DataW.weights_mem_each (j := 0) rfl rfl n hn)))
  have lt1 : ∀ x ∈ p1, x.block < W.heap.size := by obtain ⟨m, hm⟩ := h1; exact DataW.trod_lt m _ _ _ hm
  have s1 := shown_of (full := true) shape1 (hval 1 3 v1 rfl rfl) h1 (fun _ n hn => of_decide_eq_true (List.all_eq_true.1 hsz n (DataW.weights_mem_each (j := 1) rfl rfl n hn)))
  have lt2 : ∀ x ∈ p2, x.block < W.heap.size := by obtain ⟨m, hm⟩ := h2; exact DataW.trod_lt m _ _ _ hm
  have s2 := shown_of (full := true) shape2 (hval 2 23 v2 rfl rfl) h2 (fun _ n hn => of_decide_eq_true (List.all_eq_true.1 hsz n (DataW.weights_mem_each (j := 2) rfl rfl n hn)))
  clear hA0 hval0
  refine (walk v0 v1 v2 _ _ _ W s0 s1 s2 hL).mono fun e W' ⟨he, bel⟩ => ?_
  subst he
  exact ⟨_, rfl, _, _, _, [], _, [], hW', trodAll_mk1 (shut_bool Tryd.underlying4 _), (trodAll_cons_mk (Below.trod laidOut (by kernel_rfl) (of_decide_eq_true (by kernel_rfl)) h0 bel lt0) (trodAll_cons_mk (Below.trod laidOut (by kernel_rfl) (of_decide_eq_true (by kernel_rfl)) h1 bel lt1) (trodAll_cons_mk (Below.trod laidOut (by kernel_rfl) (of_decide_eq_true (by kernel_rfl)) h2 bel lt2) (trodAll_mk0)))), rfl, bel.frame _, fun h => by cases h⟩

theorem over : Rows.solomonDecodesRow.holds Tryd.pinned (OpenSpec.ofChange Rows.solomonDecodesSpec) :=
  OpenClaim.holds_of_wide 3 Tryd.f3 rfl rfl rfl rfl rfl rfl rfl ⟨rfl, rfl, rfl, rfl, rfl⟩ rfl rfl rfl rfl rfl (by kernel_rfl) Tryd.func3 (by kernel_rfl)
    (of_decide_eq_true (by kernel_rfl)) (by unfold Func.isWrapper; first | (rw [if_pos (by decide +kernel)]; kernel_rfl) | (rw [if_neg (by decide +kernel)]; exact ⟨rfl, rfl⟩))
    (fun os started H enc _ => lifted os started H enc)
theorem proved : Rows.SolomonDecodesSaid := over
/-- THE TIED CARD -/
theorem card : Rows.SolomonDecodesCardSaid :=
  Claim7.holds_tied_plain_at .later [] [.data, .pinned] true (true, "e15283f4fd214f9098d2015bea827494ad37b1b28006193f1655e641b1f683f4") false
    proved (fun _ h => by cases h) (by kernel_rfl) (fun _ h => by cases h) solomonDecodes_row_tie rfl ⟨rfl, rfl⟩ (by kernel_rfl) rfl
    (fun f fn hf hfn => by
      obtain rfl : f = 3 := Option.some.inj ((show Tryd.prog.funcNamed "farhail/farhaillaw.SolomonDecodes" = some 3 by kernel_rfl).symm.trans hf) |>.symm
      obtain rfl : fn = Tryd.f3 := (Option.some.inj (Tryd.func3.symm.trans hfn)).symm
      exact ⟨by kernel_rfl, fun j t ht => by
        rw [Tryd.params3] at ht
        have hm : t ∈ [22, 3, 23] := by simpa using Array.mem_of_getElem? ht
        have hall : ([22, 3, 23].all fun u => !Tryd.prog.wantsStandIn u) = true := by kernel_rfl
        exact (show Tryd.prog.wantsStandIn t = false by simpa using List.all_eq_true.1 hall t hm)⟩)
    (by kernel_rfl)
#print axioms card
end Go.Proofs.YtdcfgaibppenaaaDoor.solomonDecodes
namespace Go.Proofs.YtdcfgaibppenaaaDoor
theorem solomonDecodes_holds : Rows.SolomonDecodesCardSaid := solomonDecodes.card
end Go.Proofs.YtdcfgaibppenaaaDoor
