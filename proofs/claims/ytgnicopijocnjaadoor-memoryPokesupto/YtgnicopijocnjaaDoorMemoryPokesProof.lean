/-
  The proof of 'Rows.MemoryPokesUptoCardSaid': the arguments by their shapes, the walk filled in.
-/
import Derived.Test.YtgnicopijocnjaaDoorRows
import Derived.Test.YtgnicopijocnjaaDoorCards
import Derived.Test.YtgnicopijocnjaaDoorTie
import Derived.Test.YtgnicopijocnjaaDoorMk7
import Derived.Test.YtgnicopijocnjaaDoorMk15
import Derived.WalkKit
import Derived.ProofKit
import Derived.OpenShut
import Derived.SizedLaws
import Derived.JoinedCond
import Derived.Lay
import Derived.LaidOnce
import Derived.MakeChecks
import Derived.LaidMore
import Derived.LaidHandle
import Derived.SevenTiedAt
import Derived.ShutString
import Derived.ChangeOld
import Derived.Below
import Derived.Deep.DeepHandedRow
namespace Go.Proofs.YtgnicopijocnjaaDoor.memoryPokes
open Go.ChangeShapes Go.WideShapes Go.ChangeAt Go.RowKit
set_option linter.unusedVariables false

theorem own : ownKnob Tryd.prog.godebug = none := by kernel_rfl
theorem laidOut : laidOutB Tryd.prog = true := by kernel_rfl
abbrev S0 : Sh := (.int .i64)
theorem shape0 : shapeOf Tryd.prog 12 3 = some S0 := by kernel_rfl
abbrev S1 : Sh := (.slice 3 24 (.fcons 1 (.int .i64) (.fcons 1 (.int .i64) (.fcons 1 (.int .i64) .fend))))
theorem shape1 : shapeOf Tryd.prog 12 22 = some S1 := by kernel_rfl
theorem hdE_of {W : World} (h : laidMetH Tryd.prog Rows.memoryPokesUptoRow.laid W) : HdE W := by
  have h2 : handlesMet Tryd.prog [("errors.errorType", Rows.laid_errors_errorType)] W := (show _ ∧ _ from h).2
  obtain ⟨name, u, ty, e1, e2, e3, e4, e5⟩ := h2 _ (List.mem_singleton.2 rfl)
  have en : name = [101, 114, 114, 111, 114] := (Option.some.inj e1).symm
  subst en
  have eu : (Tryd.prog.cutTypes.find? (·.1 == "internal/reflectlite.rtype")).map (·.2) = some 84 := by kernel_rfl
  have e6 : u = 84 := Option.some.inj (e2.symm.trans eu)
  subst e6
  have e7 := err_row ty e3 e4
  subst e7
  have eg : Tryd.prog.globalNamed "errors.errorType" = some 0 := by kernel_rfl
  unfold World.var? at e5
  rw [show ("errors.errorType", Rows.laid_errors_errorType (H := Unit)).1 = "errors.errorType" from rfl, eg] at e5
  simp only [Option.bind_some] at e5
  unfold HdE World.cell?
  split at e5
  · rename_i cs t fz hh
    simp only [Option.some.injEq] at e5
    subst e5
    have hg : Tryd.prog.globals.size = 1 := by kernel_rfl
    simp [hh, typeHandle, hg]
  · cases e5
theorem walk (v0 v1 : Value) (n0 n1 : Nat) (w : World) (h0 : S0.shown w false v0 n0) (h1 : S1.shown w false v1 n1) (hL : laidMetH Tryd.prog Rows.memoryPokesUptoRow.laid w) (hn : n0 + (n1 + 0) ≤ 1048576) :
    Calls Tryd.prog 3 #[v0, v1] w fun e w' => e = .returned (.bool true) ∧ Below w.heap.size w w' := by
  obtain ⟨z, rfl, hz1, hz2⟩ := shown_int h0
  obtain ⟨la, ln, lc, F, rfl, hR, hle⟩ := shown_pokes h1
  have hw : Calls Tryd.prog 3 #[.int .i64 z, .slice la ln lc] w fun e w' => e = .returned (.bool true) ∧ w.grownBy w' none := by
    by_cases hb : z < 1 ∨ 4096 < z
    · exact pokes_bad z la ln lc F w hR (by omega) hb
    · obtain ⟨sz, rfl⟩ : ∃ k : Nat, z = (k : Int) := ⟨z.toNat, by omega⟩
      exact pokes_good sz la ln lc F w hR (by omega) (by omega) (by omega) (hdE_of hL)
  refine hw.mono ?_
  rintro e w' ⟨he, hg⟩
  exact ⟨he, (Below.refl _ _).grown hg (Nat.le_refl _) (fun k hk => by cases hk)⟩
theorem laid_met (os : Os) : laidMetH Tryd.prog Rows.memoryPokesUptoRow.laid (({ World.holding Tryd.prog os ⟨#[], #[], []⟩ with heap := (World.holding Tryd.prog os ⟨#[], #[], []⟩).heap.modify 0 fun | .cells _ t frozen => .cells #[.iface 84 (.agg #[.pointer (some ⟨1, 40, none⟩)])] t frozen | o => o } : World).forCall (fun _ _ => 0) ⟨#[], #[.int .i64 0, .slice none 0 0], []⟩).memory :=
  laidMetH_of_parts (laidMet_nil _ _) (by kernel_rfl)
theorem reads (os : Os) {H : Type} (enc : TypeId × Value → H) : ∃ places, DataW.whole enc Tryd.prog (({ World.holding Tryd.prog os ⟨#[], #[], []⟩ with heap := (World.holding Tryd.prog os ⟨#[], #[], []⟩).heap.modify 0 fun | .cells _ t frozen => .cells #[.iface 84 (.agg #[.pointer (some ⟨1, 40, none⟩)])] t frozen | o => o } : World).forCall (fun _ _ => 0) ⟨#[], #[.int .i64 0, .slice none 0 0], []⟩).memory Tryd.f3.params.toList Rows.memoryPokesSpec.vars false #[(.int .i64 0 : Value), (.slice none 0 0 : Value)].toList 12 = some ([.lit (.int .i64 0), .nil], [], places) :=
  ⟨[], by kernel_rfl⟩

set_option maxRecDepth 100000 in
theorem lifted (os : Os) (started : os.Started) (H : Type) (enc : TypeId × Value → H) (F : Stop.Interp) :
    ReturnsInHanded {} Tryd.checked os 3 .any ((Rows.OpenSpec.upto Rows.memoryPokesSpec).preRow enc Tryd.prog Tryd.f3 Rows.memoryPokesUptoRow.domain false Rows.memoryPokesUptoRow.laid) (((Rows.OpenSpec.upto Rows.memoryPokesSpec).at F).post enc Tryd.prog Tryd.f3 false true false false) := by
  obtain ⟨places, hx⟩ := reads os enc
  refine returnsInHanded_of_row (C := Tryd.checked) (s := Rows.OpenSpec.upto Rows.memoryPokesSpec) own started (by kernel_rfl) Tryd.func3
    (witness_row_at (enc := enc) (C := Tryd.checked) false ({ World.holding Tryd.prog os ⟨#[], #[], []⟩ with heap := (World.holding Tryd.prog os ⟨#[], #[], []⟩).heap.modify 0 fun | .cells _ t frozen => .cells #[.iface 84 (.agg #[.pointer (some ⟨1, 40, none⟩)])] t frozen | o => o } : World) #[.int .i64 0, .slice none 0 0] rfl (by kernel_rfl) (by kernel_rfl) (by kernel_rfl)
      (OpenSpec.preRow_of_cond 12 hx (by kernel_rfl) (fun k hk => by cases hk; kernel_rfl) (by kernel_rfl) (laid_met os))) ?_
  intro W base args ds gs before hval0 hW _ hcnd _ hL _ _
  have hsz : Rows.uptoBulkAll (ds ++ gs) ≤ 1048576 := of_decide_eq_true (hcnd _ rfl)
  have hval : ∀ (j : Nat) t v, Tryd.f3.params[j]? = some t → args[j]? = some v → Value.okWide Tryd.prog W .any base t v := hval0
  have hW' := hW
  obtain ⟨p, q, hA0, hV, rfl, hfz, hnd⟩ := hW
  have hA : DataW.TrodAll enc Tryd.prog W 0 (fun _ => true) true Tryd.f3.params.toList args.toList ds p := hA0
  rw [Tryd.params3] at hA hval
  obtain ⟨v0, vs0, d0, ds0, p0, q0, hargs, rfl, rfl, h0, r0⟩ := trodAll_cons hA
  obtain ⟨v1, vs1, d1, ds1, p1, q1, rfl, rfl, rfl, h1, r1⟩ := trodAll_cons r0
  obtain ⟨rfl, rfl, rfl⟩ := trodAll_nil r1
  obtain rfl : args = #[v0, v1] := by cases args; simp_all
  obtain ⟨rfl, rfl⟩ := trodVars_none hV
  have lt0 : ∀ x ∈ p0, x.block < W.heap.size := by obtain ⟨m, hm⟩ := h0; exact DataW.trod_lt m _ _ _ hm
  have s0 := shown_of (full := false) shape0 (hval 0 3 v0 rfl rfl) h0 (fun h => by cases h)
  have lt1 : ∀ x ∈ p1, x.block < W.heap.size := by obtain ⟨m, hm⟩ := h1; exact DataW.trod_lt m _ _ _ hm
  have s1 := shown_of (full := false) shape1 (hval 1 22 v1 rfl rfl) h1 (fun h => by cases h)
  clear hA0 hval0
  refine (walk v0 v1 _ _ W s0 s1 hL hsz).mono fun e W' ⟨he, bel⟩ => ?_
  subst he
  exact ⟨_, rfl, _, _, _, [], _, [], hW', trodAll_mk1 (shut_bool Tryd.underlying4 _), (trodAll_cons_mk (Below.trod laidOut (by kernel_rfl) (of_decide_eq_true (by kernel_rfl)) h0 bel lt0) (trodAll_cons_mk (Below.trod laidOut (by kernel_rfl) (of_decide_eq_true (by kernel_rfl)) h1 bel lt1) (trodAll_mk0))), rfl, bel.frame _, fun h => by cases h⟩

theorem proved : Rows.MemoryPokesUptoSaid :=
  OpenClaim.holds_of_cond 3 Tryd.f3 rfl rfl rfl rfl rfl rfl rfl ⟨rfl, rfl, rfl, rfl, rfl⟩ rfl rfl rfl rfl rfl (by kernel_rfl) Tryd.func3 (by kernel_rfl)
    (of_decide_eq_true (by kernel_rfl)) (by unfold Func.isWrapper; first | (rw [if_pos (by decide +kernel)]; kernel_rfl) | (rw [if_neg (by decide +kernel)]; exact ⟨rfl, rfl⟩))
    (fun os started H enc _ F => by rw [OpenClaim.pre_eq_preRow]; exact lifted os started H enc F)
/-- No parameter wants a stand-in; the program's own looks are off. -/
theorem plain (f : FuncId) (fn : Func) (hf : Tryd.pinned.checked.prog.funcNamed "farhail/farhaillaw.MemoryPokes" = some f) (hfn : Tryd.pinned.checked.prog.funcs[f]? = some fn) :
    true = Tryd.pinned.checked.prog.looks [] ∧ ∀ (j : Nat) t, fn.params[j]? = some t → Tryd.pinned.checked.prog.wantsStandIn t = false := by
  obtain rfl : f = 3 := Option.some.inj ((show Tryd.prog.funcNamed "farhail/farhaillaw.MemoryPokes" = some 3 by kernel_rfl).symm.trans hf) |>.symm
  obtain rfl : fn = Tryd.f3 := (Option.some.inj (Tryd.func3.symm.trans hfn)).symm
  refine ⟨by kernel_rfl, fun j t ht => ?_⟩
  rw [Tryd.params3] at ht
  have hm : t ∈ [3, 22] := by simpa using Array.mem_of_getElem? ht
  have hall : ([3, 22].all fun u => !Tryd.prog.wantsStandIn u) = true := by kernel_rfl
  exact (show Tryd.prog.wantsStandIn t = false by simpa using List.all_eq_true.1 hall t hm)
/-- THE TIED CARD, THE SECOND FORM -/
theorem card : Rows.MemoryPokesUptoCardSaid :=
  Claim7.holds_tied_plain_at .later [] _ _ _ _ proved (fun _ h => by cases h) (by kernel_rfl) (fun _ h => by cases h) memoryPokesUpto_row_tie rfl ⟨rfl, rfl⟩ (by kernel_rfl) rfl plain (by kernel_rfl)
#print axioms card
end Go.Proofs.YtgnicopijocnjaaDoor.memoryPokes
namespace Go.Proofs.YtgnicopijocnjaaDoor
theorem memoryPokesUpto_holds : Rows.MemoryPokesUptoCardSaid := memoryPokes.card
end Go.Proofs.YtgnicopijocnjaaDoor
