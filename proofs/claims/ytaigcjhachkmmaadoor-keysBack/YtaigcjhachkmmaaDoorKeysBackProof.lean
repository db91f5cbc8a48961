/-
  The proof of 'Rows.KeysBackCardSaid': the arguments by their shapes, the walk filled in.
-/
import Derived.Test.YtaigcjhachkmmaaDoorRows
import Derived.Test.YtaigcjhachkmmaaDoorCards
import Derived.Test.YtaigcjhachkmmaaDoorTie
import Derived.Test.YtaigcjhachkmmaaDoorZSh
import Derived.Test.YtaigcjhachkmmaaDoorQX
import Derived.Test.YtaigcjhachkmmaaDoorYLn
import Derived.Test.YtaigcjhachkmmaaDoorYOp
import Derived.WalkKit
import Derived.ProofKit
import Derived.SizedLaws
import Derived.Lay
import Derived.LaidOnce
import Derived.MakeChecks
import Derived.LaidMore
import Derived.SevenTiedAt
import Derived.OpenShut
import Derived.ShutString
import Derived.ChangeOld
import Derived.Below
namespace Go.Proofs.YtaigcjhachkmmaaDoor.keysBack
open Go.ChangeShapes Go.WideShapes Go.ChangeAt Go.RowKit
set_option linter.unusedVariables false

theorem own : ownKnob Tryd.prog.godebug = none := by kernel_rfl
theorem laidOut : laidOutB Tryd.prog = true := by kernel_rfl
abbrev S0 : Sh := (.int .i64)
theorem shape0 : shapeOf Tryd.prog 12 3 = some S0 := by kernel_rfl
abbrev S1 : Sh := (.int .i64)
theorem shape1 : shapeOf Tryd.prog 12 3 = some S1 := by kernel_rfl
abbrev S2 : Sh := (.int .i64)
theorem shape2 : shapeOf Tryd.prog 12 3 = some S2 := by kernel_rfl
abbrev S3 : Sh := (.slice 1 1 (.int .u8))
theorem shape3 : shapeOf Tryd.prog 12 25 = some S3 := by kernel_rfl
abbrev S4 : Sh := (.int .i64)
theorem shape4 : shapeOf Tryd.prog 12 3 = some S4 := by kernel_rfl
abbrev S5 : Sh := (.int .i64)
theorem shape5 : shapeOf Tryd.prog 12 3 = some S5 := by kernel_rfl
theorem walk (v0 v1 v2 v3 v4 v5 : Value) (n0 n1 n2 n3 n4 n5 : Nat) (w : World) (h0 : S0.shown w true v0 n0) (h1 : S1.shown w true v1 n1) (h2 : S2.shown w true v2 n2) (h3 : S3.shown w true v3 n3) (h4 : S4.shown w true v4 n4) (h5 : S5.shown w true v5 n5) (hL : laidMetH Tryd.prog Rows.keysBackRow.laid w) :
    Calls Tryd.prog 4 #[v0, v1, v2, v3, v4, v5] w fun e w' => e = .returned (.bool true) ∧ Below w.heap.size w w' := by
  obtain ⟨id, rfl, hi⟩ := shown_int h0
  obtain ⟨seed, rfl, hs⟩ := shown_int h1
  obtain ⟨c, rfl, hc⟩ := shown_int h2
  obtain ⟨b, nb, cb, B, rfl, hB, hf, _⟩ := shown_bytes h3
  obtain ⟨a', rfl, ha⟩ := shown_int h4
  obtain ⟨b', rfl, hb⟩ := shown_int h5
  have hc2 := hf rfl
  have hle := hB.le
  exact back_walk id seed c a' b' b nb cb B w (lin_of hL rfl) hB (by omega) hi hs hc ha hb

set_option maxRecDepth 100000 in
theorem lifted (os : Os) (started : os.Started) (H : Type) (enc : TypeId × Value → H) :
    ReturnsInHanded {} Tryd.checked os 4 .any (fun w args => (Rows.keysBackSpec.pre enc Tryd.prog Tryd.f4 [] false w args ∧ laidMetH Tryd.prog Rows.keysBackRow.laid w) ∧ sizedMet enc Tryd.prog Tryd.f4 (OpenSpec.ofChange Rows.keysBackSpec) false w args)
      (Rows.keysBackSpec.post enc Tryd.prog Tryd.f4 false true false false) := by
  refine returnsInHanded_of_change_and (C := Tryd.checked) (X := fun w _ => laidMetH Tryd.prog Rows.keysBackRow.laid w) (fun _ _ _ hh h => h.of_heap hh) own started (by kernel_rfl) Tryd.func4
    (ChangeSpec.witness_shaped (enc := enc) (C := Tryd.checked) (os := os) (X := fun w _ => laidMetH Tryd.prog Rows.keysBackRow.laid w) false (World.laidAll Tryd.prog os Rows.keysBackRow.laid) #[.int .i64 0, .int .i64 0, .int .i64 0, .slice none 0 0, .int .i64 0, .int .i64 0] 12 (World.laidAll_os _ _ _)
      (World.shaped_of_ZipB (by kernel_rfl) (by kernel_rfl)) (by kernel_rfl) (by kernel_rfl) (by kernel_rfl)
      (by rw [MakeChecks.laidMetH_plain _ _ _ (by kernel_rfl)]; exact laidMet_laidAll _ (by kernel_rfl) (by kernel_rfl))) ?_
  intro W base args ds gs before hval0 hW hcnd hsz0 hL _
  have hval : ∀ (j : Nat) t v, Tryd.f4.params[j]? = some t → args[j]? = some v → Value.okWide Tryd.prog W .any base t v := hval0
  have hW' := hW
  obtain ⟨p, q, hA0, hV, rfl, hfz, hnd⟩ := hW
  have hA : DataW.TrodAll enc Tryd.prog W 0 (fun _ => true) true Tryd.f4.params.toList args.toList ds p := hA0
  have hsz : (DataW.weightsEach Tryd.prog (Tryd.f4.params.toList ++ Rows.keysBackSpec.plain.varTypes Tryd.prog) (ds ++ gs)).all (· ≤ reachBytes) = true := hsz0
  rw [Tryd.params4] at hA hval hsz
  obtain ⟨v0, vs0, d0, ds0, p0, q0, hargs, rfl, rfl, h0, r0⟩ := trodAll_cons hA
  obtain ⟨v1, vs1, d1, ds1, p1, q1, rfl, rfl, rfl, h1, r1⟩ := trodAll_cons r0
  obtain ⟨v2, vs2, d2, ds2, p2, q2, rfl, rfl, rfl, h2, r2⟩ := trodAll_cons r1
  obtain ⟨v3, vs3, d3, ds3, p3, q3, rfl, rfl, rfl, h3, r3⟩ := trodAll_cons r2
  obtain ⟨v4, vs4, d4, ds4, p4, q4, rfl, rfl, rfl, h4, r4⟩ := trodAll_cons r3
  obtain ⟨v5, vs5, d5, ds5, p5, q5, rfl, rfl, rfl, h5, r5⟩ := trodAll_cons r4
  obtain ⟨rfl, rfl, rfl⟩ := trodAll_nil r5
  obtain rfl : args = #[v0, v1, v2, v3, v4, v5] := by cases args; simp_all
  obtain ⟨rfl, rfl⟩ := trodVars_none hV
  have lt0 : ∀ x ∈ p0, x.block < W.heap.size := by obtain ⟨m, hm⟩ := h0; exact DataW.trod_lt m _ _ _ hm
  have s0 := shown_of (full := true) shape0 (hval 0 3 v0 rfl rfl) h0 (fun _ n hn => of_decide_eq_true (List.all_eq_true.1 hsz n (DataW.weights_mem_each (j := 0) rfl rfl n hn)))
  have lt1 : ∀ x ∈ p1, x.block < W.heap.size := by obtain ⟨m, hm⟩ := h1; exact DataW.trod_lt m _ _ _ hm
  have s1 := shown_of (full := true) shape1 (hval 1 3 v1 rfl rfl) h1 (fun _ n hn => of_decide_eq_true (List.all_eq_true.1 hsz n (DataW.weights_mem_each (j := 1) rfl rfl n hn)))
  have lt2 : ∀ x ∈ p2, x.block < W.heap.size := by obtain ⟨m, hm⟩ := h2; exact DataW.trod_lt m _ _ _ hm
  have s2 := shown_of (full := true) shape2 (hval 2 3 v2 rfl rfl) h2 (fun _ n hn => of_decide_eq_true (List.all_eq_true.1 hsz n (DataW.weights_mem_each (j := 2) rfl rfl n hn)))
  have lt3 : ∀ x ∈ p3, x.block < W.heap.size := by obtain ⟨m, hm⟩ := h3; exact DataW.trod_lt m _ _ _ hm
  have s3 := shown_of (full := true) shape3 (hval 3 25 v3 rfl rfl) h3 (fun _ n hn => of_decide_eq_true (List.all_eq_true.1 hsz n (DataW.weights_mem_each (j := 3) rfl rfl n hn)))
  have lt4 : ∀ x ∈ p4, x.block < W.heap.size := by obtain ⟨m, hm⟩ := h4; exact DataW.trod_lt m _ _ _ hm
  have s4 := shown_of (full := true) shape4 (hval 4 3 v4 rfl rfl) h4 (fun _ n hn => of_decide_eq_true (List.all_eq_true.1 hsz n (DataW.weights_mem_each (j := 4) rfl rfl n hn)))
  have lt5 : ∀ x ∈ p5, x.block < W.heap.size := by obtain ⟨m, hm⟩ := h5; exact DataW.trod_lt m _ _ _ hm
  have s5 := shown_of (full := true) shape5 (hval 5 3 v5 rfl rfl) h5 (fun _ n hn => of_decide_eq_true (List.all_eq_true.1 hsz n (DataW.weights_mem_each (j := 5) rfl rfl n hn)))
  clear hA0 hval0
  refine (walk v0 v1 v2 v3 v4 v5 _ _ _ _ _ _ W s0 s1 s2 s3 s4 s5 hL).mono fun e W' ⟨he, bel⟩ => ?_
  subst he
  exact ⟨_, rfl, _, _, _, [], _, [], hW', trodAll_mk1 (shut_bool Tryd.underlying4 _), (trodAll_cons_mk (Below.trod laidOut (by kernel_rfl) (of_decide_eq_true (by kernel_rfl)) h0 bel lt0) (trodAll_cons_mk (Below.trod laidOut (by kernel_rfl) (of_decide_eq_true (by kernel_rfl)) h1 bel lt1) (trodAll_cons_mk (Below.trod laidOut (by kernel_rfl) (of_decide_eq_true (by kernel_rfl)) h2 bel lt2) (trodAll_cons_mk (Below.trod laidOut (by kernel_rfl) (of_decide_eq_true (by kernel_rfl)) h3 bel lt3) (trodAll_cons_mk (Below.trod laidOut (by kernel_rfl) (of_decide_eq_true (by kernel_rfl)) h4 bel lt4) (trodAll_cons_mk (Below.trod laidOut (by kernel_rfl) (of_decide_eq_true (by kernel_rfl)) h5 bel lt5) (trodAll_mk0))))))), rfl, bel.frame _, fun h => by cases h⟩

theorem over : Rows.keysBackRow.holds Tryd.pinned (OpenSpec.ofChange Rows.keysBackSpec) :=
  OpenClaim.holds_of_wide 4 Tryd.f4 rfl rfl rfl rfl rfl rfl rfl ⟨rfl, rfl, rfl, rfl, rfl⟩ rfl rfl rfl rfl rfl (by kernel_rfl) Tryd.func4 (by kernel_rfl)
    (of_decide_eq_true (by kernel_rfl)) (by unfold Func.isWrapper; first | (rw [if_pos (by decide +kernel)]; kernel_rfl) | (rw [if_neg (by decide +kernel)]; exact ⟨rfl, rfl⟩))
    (fun os started H enc _ => lifted os started H enc)
theorem proved : Rows.KeysBackSaid := over
/-- THE TIED CARD -/
theorem card : Rows.KeysBackCardSaid :=
  Claim7.holds_tied_plain_at .later [] [.data] true (true, "54b08661cc66b9d6fc47afb1fcb7567a58f7ee059eda4022c97ddf91284d3cc2") false
    proved (fun _ h => by cases h) (by kernel_rfl) (fun _ h => by cases h) keysBack_row_tie rfl ⟨rfl, rfl⟩ (by kernel_rfl) rfl
    (fun f fn hf hfn => by
      obtain rfl : f = 4 := Option.some.inj ((show Tryd.prog.funcNamed "farhail/farhailkeep.KeysBack" = some 4 by kernel_rfl).symm.trans hf) |>.symm
      obtain rfl : fn = Tryd.f4 := (Option.some.inj (Tryd.func4.symm.trans hfn)).symm
      exact ⟨by kernel_rfl, fun j t ht => by
        rw [Tryd.params4] at ht
        have hm : t ∈ [3, 3, 3, 25, 3, 3] := by simpa using Array.mem_of_getElem? ht
        have hall : ([3, 3, 3, 25, 3, 3].all fun u => !Tryd.prog.wantsStandIn u) = true := by kernel_rfl
        exact (show Tryd.prog.wantsStandIn t = false by simpa using List.all_eq_true.1 hall t hm)⟩)
    (by kernel_rfl)
#print axioms card
end Go.Proofs.YtaigcjhachkmmaaDoor.keysBack
namespace Go.Proofs.YtaigcjhachkmmaaDoor
theorem keysBack_holds : Rows.KeysBackCardSaid := keysBack.card
end Go.Proofs.YtaigcjhachkmmaaDoor
