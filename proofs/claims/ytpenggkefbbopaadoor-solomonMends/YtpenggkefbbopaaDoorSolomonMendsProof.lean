/-
  The proof of 'Rows.SolomonMendsCardSaid': the kit's frame over listed variables, turned to slices of pairs, the walk filled in.
-/
import Derived.Test.YtpenggkefbbopaaDoorRows
import Derived.Test.YtpenggkefbbopaaDoorCards
import Derived.Test.YtpenggkefbbopaaDoorTie
import Derived.Test.YtpenggkefbbopaaDoorNSMen
import Derived.Test.YtpenggkefbbopaaDoorFRow
import Derived.WalkKit
import Derived.ProofKit
import Derived.Lay
import Derived.LaidOnce
import Derived.MakeChecks
import Derived.LaidMore
import Derived.SevenTiedAt
import Derived.SizedLaws
import Derived.OpenShut
import Derived.ShutString
import Derived.ChangeOld
import Derived.Below
import Derived.Deep.SlicePairs
namespace Go.Proofs.YtpenggkefbbopaaDoor.solomonMends
open Go.ChangeShapes Go.WideShapes Go.ChangeAt Go.RowKit
open Go.ChangeMaps (open_string shut_string)
set_option linter.unusedVariables false

theorem own : ownKnob Tryd.prog.godebug = none := by kernel_rfl
theorem laidOut : laidOutB Tryd.prog = true := by kernel_rfl
def IsRow (k : IntKind) (w : World) (a : Option Addr) (len cap : Nat) (zs : List Int) : Prop :=
  (a = none ∧ len = 0 ∧ cap = 0 ∧ zs = []) ∨
  ∃ x, a = some x ∧ len ≤ cap ∧ cap ≤ maxLen ∧ zs.length = cap ∧ (∀ i, i < zs.length → w.cell? (x.add i) = some (.int k (zs.getD i 0))) ∧ ∀ n ∈ zs, (Lit.int k n).wf = true
theorem rdT_nil [Add GF] [Mul GF] [OfNat GF 0] [OfNat GF 1] [LGL : Nonempty GL] (w : World) : RdT w none 0 0 [] := ⟨rfl, Nat.le_refl _, Nat.zero_le _, fun i => (tGood_nil i).1, fun i => (tGood_nil i).2, fun h => by omega⟩
theorem rdT_of [Add GF] [Mul GF] [OfNat GF 0] [OfNat GF 1] [LGL : Nonempty GL] {w : World} {x : Addr} {len cap : Nat} (hl : len ≤ cap) (hm : cap ≤ maxLen) (h : ∀ i, i < len → ∃ z0 z1, w.cell? (x.add (i * 2)) = some (.int .i64 z0) ∧ w.cell? (x.add (i * 2 + 1)) = some (.int .i64 z1) ∧ inI z0 ∧ inI z1) :
    RdT w (some x) len cap ((List.range len).map fun i => if hi : i < len then ((h i hi).choose, (h i hi).choose_spec.choose) else (0, 0)) := by
  have hz : inI 0 := ⟨by decide, by decide⟩
  have hget : ∀ i (hi : i < len), ((List.range len).map fun i => if hi : i < len then ((h i hi).choose, (h i hi).choose_spec.choose) else (0, 0)).getD i (0, 0) = ((h i hi).choose, (h i hi).choose_spec.choose) := by
    intro i hi
    rw [List.getD_eq_getElem?_getD, List.getElem?_map, List.getElem?_range hi]
    simp [hi]
  have hout : ∀ i, ¬ i < len → ((List.range len).map fun i => if hi : i < len then ((h i hi).choose, (h i hi).choose_spec.choose) else (0, 0)).getD i (0, 0) = (0, 0) := by
    intro i hi
    rw [List.getD_eq_getElem?_getD, List.getElem?_eq_none (by simp; omega)]; rfl
  refine ⟨by simp, hl, hm, fun i => ?_, fun i => ?_, fun h0 => ?_⟩
  · unfold tA
    by_cases hi : i < len
    · rw [hget i hi]; exact (h i hi).choose_spec.choose_spec.2.2.1
    · rw [hout i hi]; exact hz
  · unfold tB
    by_cases hi : i < len
    · rw [hget i hi]; exact (h i hi).choose_spec.choose_spec.2.2.2
    · rw [hout i hi]; exact hz
  · obtain ⟨z0, z1, c0, _, _⟩ := h 0 h0
    obtain ⟨b, off, spot⟩ := x
    have hspot : spot = none := by simpa [Addr.add] using World.cell?_spot c0
    subst hspot
    refine ⟨b, off, rfl, World.block_lt_of_cell? w _ c0, fun i hi => ?_⟩
    have hs := (h i hi).choose_spec.choose_spec
    have hs1 := (congrArg w.cell? (addr_add b off (i * 2))).symm.trans hs.1
    have hs2 := (congrArg w.cell? (addr_add b off (i * 2 + 1))).symm.trans hs.2.1
    unfold tA tB
    rw [hget i hi]
    exact ⟨hs1, hs2⟩
theorem walk [Add GF] [Mul GF] [OfNat GF 0] [OfNat GF 1] [LGL : Nonempty GL] (a0 : Option Addr) (len0 cap0 : Nat) (z0 : List Int) (a1 : Int) (a2 : Option Addr) (len2 cap2 : Nat) (T2 : List (Int × Int)) (a3 : Option Addr) (len3 cap3 : Nat) (T3 : List (Int × Int)) (w : World)
    (w0 : IsRow .u8 w a0 len0 cap0 z0 ∧ cap0 ≤ 140737488351232) (w1 : (Lit.int .i64 a1).wf = true) (w2 : RdT w a2 len2 cap2 T2) (w3 : RdT w a3 len3 cap3 T3 ∧ len3 * 16 ≤ 140737488351232) :
    Calls Tryd.prog 3 #[.slice a0 len0 cap0, .int .i64 a1, .slice a2 len2 cap2, .slice a3 len3 cap3] w fun e w' => e = .returned (.bool true) ∧ Below w.heap.size w w' := by
  obtain ⟨r0, s0⟩ := w0
  obtain ⟨L, hL, l0⟩ := rd_of_row r0
  obtain ⟨p1, q1⟩ := bounds_i64 w1
  exact mends_walk a0 a2 a3 len0 cap0 len2 cap2 len3 cap3 _ L T2 T3 w hL w2 w3.1 (by omega) (by omega) (by omega) (by omega)

set_option maxRecDepth 100000 in
set_option maxHeartbeats 8000000 in
theorem lifted (os : Os) (started : os.Started) (H : Type) (enc : TypeId × Value → H) :
    ReturnsInHanded {} Tryd.checked os 3 .any (fun w args => (Rows.solomonMendsSpec.pre enc Tryd.prog Tryd.f3 [] false w args ∧ laidMetH Tryd.prog Rows.solomonMendsRow.laid w) ∧ sizedMet enc Tryd.prog Tryd.f3 (OpenSpec.ofChange Rows.solomonMendsSpec) false w args)
      (Rows.solomonMendsSpec.post enc Tryd.prog Tryd.f3 false true false false) := by
  refine returnsInHanded_of_change_and (C := Tryd.checked) (X := fun w _ => laidMetH Tryd.prog Rows.solomonMendsRow.laid w) (fun _ _ _ hh h => h.of_heap hh) own started (by kernel_rfl) Tryd.func3
    (ChangeSpec.witness_shaped (enc := enc) (C := Tryd.checked) (os := os) (X := fun w _ => laidMetH Tryd.prog Rows.solomonMendsRow.laid w) false (World.laidAll Tryd.prog os Rows.solomonMendsRow.laid) #[.slice none 0 0, .int .i64 0, .slice none 0 0, .slice none 0 0] 8 (World.laidAll_os _ _ _)
      (World.shaped_of_ZipB (by kernel_rfl) (by kernel_rfl)) (by kernel_rfl) (by kernel_rfl) (by kernel_rfl)
      (by rw [MakeChecks.laidMetH_plain _ _ _ (by kernel_rfl)]; exact laidMet_laidAll _ (by kernel_rfl) (by kernel_rfl))) ?_
  intro W base args ds gs before hval0 hW _ hsz0 hL _
  letI : Add GF := ⟨fun a b => ⟨a.v ^^^ b.v, Fld.xor_lt a.h b.h⟩⟩
  letI : Mul GF := ⟨fun a b => ⟨Fld.mul a.v b.v, Fld.mul_lt _ a.h⟩⟩
  letI : OfNat GF 0 := ⟨⟨0, by decide⟩⟩
  letI : OfNat GF 1 := ⟨⟨1, by decide⟩⟩
  haveI : Nonempty GL := ⟨⟨fun _ _ => rfl, fun _ _ => rfl, rfl, rfl⟩⟩
  have hval : ∀ (j : Nat) t v, Tryd.f3.params[j]? = some t → args[j]? = some v → Value.okWide Tryd.prog W .any base t v := hval0
  have hW' := hW
  obtain ⟨p, q, hA0, hV, rfl, hfz, hnd⟩ := hW
  have hA : DataW.TrodAll enc Tryd.prog W 0 (fun _ => true) true Tryd.f3.params.toList args.toList ds p := hA0
  have hsz : (DataW.weightsEach Tryd.prog (Tryd.f3.params.toList ++ Rows.solomonMendsSpec.plain.varTypes Tryd.prog) (ds ++ gs)).all (· ≤ reachBytes) = true := hsz0
  rw [Tryd.params3] at hA hval hsz
  obtain ⟨v0, vs0, d0, ds0, p0, q0, hargs, rfl, rfl, h0, r0⟩ := trodAll_cons hA
  obtain ⟨v1, vs1, d1, ds1, p1, q1, rfl, rfl, rfl, h1, r1⟩ := trodAll_cons r0
  obtain ⟨v2, vs2, d2, ds2, p2, q2, rfl, rfl, rfl, h2, r2⟩ := trodAll_cons r1
  obtain ⟨v3, vs3, d3, ds3, p3, q3, rfl, rfl, rfl, h3, r3⟩ := trodAll_cons r2
  obtain ⟨rfl, rfl, rfl⟩ := trodAll_nil r3
  obtain rfl : args = #[v0, v1, v2, v3] := by cases args; simp_all
  obtain ⟨rfl, rfl⟩ := trodVars_none hV
  obtain ⟨a0, len0, cap0, rfl⟩ := okWide_slice Tryd.underlying22 (hval 0 22 v0 rfl rfl)
  have k0 := h0
  have lt0 : ∀ x ∈ p0, x.block < W.heap.size := by obtain ⟨m, hm⟩ := k0; exact DataW.trod_lt m _ _ _ hm
  obtain ⟨z0, w0⟩ : ∃ zs, IsRow .u8 W a0 len0 cap0 zs ∧ cap0 ≤ 140737488351232 := by
    obtain ⟨fuel, hf⟩ := h0
    rcases open_ints Tryd.underlying22 Tryd.underlying5 (by kernel_rfl) hf with ⟨hcs, _⟩ | ⟨x, l, c, zs, hcs, _, hl, hm, hz, hx, hcell, hwz⟩
    · simp [Value.cells] at hcs
      obtain ⟨rfl, rfl, rfl⟩ := hcs
      exact ⟨[], .inl ⟨rfl, rfl, rfl, rfl⟩, by decide⟩
    · simp [Value.cells] at hcs
      obtain ⟨rfl, rfl, rfl⟩ := hcs
      simp only [Prod.mk.injEq] at hx
      obtain ⟨rfl, _⟩ := hx
      have hby : Tryd.prog.bytesOf 5 = 1 := by kernel_rfl
      have hsl := sized_slice hsz (j := 0) (t := 22) (e := 5) rfl rfl Tryd.underlying22
      rw [hby] at hsl
      simp only [lits, List.length_map, List.length_take, List.length_drop, reachBytes] at hsl
      have hz2 : zs.length = cap0 := by simpa using hz
      exact ⟨zs, .inr ⟨_, rfl, hl, hm, hz2, hcell, hwz⟩, by omega⟩
  obtain ⟨a1, rfl, rfl, rfl, w1⟩ := open_int Tryd.underlying3 (hval 1 3 v1 rfl rfl) h1
  obtain ⟨a2, len2, cap2, rfl⟩ := okWide_slice Tryd.underlying23 (hval 2 23 v2 rfl rfl)
  have k2 := h2
  have lt2 : ∀ x ∈ p2, x.block < W.heap.size := by obtain ⟨m, hm⟩ := k2; exact DataW.trod_lt m _ _ _ hm
  obtain ⟨T2, w2⟩ : ∃ T, RdT W a2 len2 cap2 T ∧ len2 * 16 ≤ 140737488351232 := by
    obtain ⟨fuel, hf⟩ := h2
    rcases Go.Deep.open_slice_pairs Tryd.underlying23 Tryd.underlying32 (by kernel_rfl) rfl rfl (by kernel_rfl) (by kernel_rfl) hf with ⟨hcs, _⟩ | ⟨x, l, c, m, n, V0, V1, D0, D1, P0, P1, hcs, _, hl, hm, hmm, hx, hcell⟩
    · simp [Value.cells] at hcs
      obtain ⟨rfl, rfl, rfl⟩ := hcs
      exact ⟨[], rdT_nil W, by decide⟩
    · simp [Value.cells] at hcs
      obtain ⟨rfl, rfl, rfl⟩ := hcs
      simp only [Prod.mk.injEq] at hx
      obtain ⟨rfl, _⟩ := hx
      have hby : Tryd.prog.bytesOf 32 = 16 := by kernel_rfl
      have hsl := sized_slice hsz (j := 2) (t := 23) (e := 32) rfl rfl Tryd.underlying23
      rw [hby] at hsl
      simp only [List.length_map, List.length_range, reachBytes] at hsl
      have hmc : m = cap2 := by rw [hmm]; rfl
      refine ⟨_, rdT_of hl hm (fun i hi => ?_), by omega⟩
      obtain ⟨c0, c1, t0, t1⟩ := hcell i (by omega)
      obtain ⟨z0, e0, _, f0⟩ := DataW.trod_int Tryd.underlying3 t0
      obtain ⟨z1, e1, _, f1⟩ := DataW.trod_int Tryd.underlying3 t1
      simp at e0 e1
      rw [e0] at c0
      rw [e1] at c1
      exact ⟨z0, z1, c0, c1, bounds_i64 f0, bounds_i64 f1⟩
  obtain ⟨a3, len3, cap3, rfl⟩ := okWide_slice Tryd.underlying23 (hval 3 23 v3 rfl rfl)
  have k3 := h3
  have lt3 : ∀ x ∈ p3, x.block < W.heap.size := by obtain ⟨m, hm⟩ := k3; exact DataW.trod_lt m _ _ _ hm
  obtain ⟨T3, w3⟩ : ∃ T, RdT W a3 len3 cap3 T ∧ len3 * 16 ≤ 140737488351232 := by
    obtain ⟨fuel, hf⟩ := h3
    rcases Go.Deep.open_slice_pairs Tryd.underlying23 Tryd.underlying32 (by kernel_rfl) rfl rfl (by kernel_rfl) (by kernel_rfl) hf with ⟨hcs, _⟩ | ⟨x, l, c, m, n, V0, V1, D0, D1, P0, P1, hcs, _, hl, hm, hmm, hx, hcell⟩
    · simp [Value.cells] at hcs
      obtain ⟨rfl, rfl, rfl⟩ := hcs
      exact ⟨[], rdT_nil W, by decide⟩
    · simp [Value.cells] at hcs
      obtain ⟨rfl, rfl, rfl⟩ := hcs
      simp only [Prod.mk.injEq] at hx
      obtain ⟨rfl, _⟩ := hx
      have hby : Tryd.prog.bytesOf 32 = 16 := by kernel_rfl
      have hsl := sized_slice hsz (j := 3) (t := 23) (e := 32) rfl rfl Tryd.underlying23
      rw [hby] at hsl
      simp only [List.length_map, List.length_range, reachBytes] at hsl
      have hmc : m = cap3 := by rw [hmm]; rfl
      refine ⟨_, rdT_of hl hm (fun i hi => ?_), by omega⟩
      obtain ⟨c0, c1, t0, t1⟩ := hcell i (by omega)
      obtain ⟨z0, e0, _, f0⟩ := DataW.trod_int Tryd.underlying3 t0
      obtain ⟨z1, e1, _, f1⟩ := DataW.trod_int Tryd.underlying3 t1
      simp at e0 e1
      rw [e0] at c0
      rw [e1] at c1
      exact ⟨z0, z1, c0, c1, bounds_i64 f0, bounds_i64 f1⟩
  simp only [List.append_nil] at hW'
  clear hA0 hval0
  have HW := walk a0 len0 cap0 z0 a1 a2 len2 cap2 T2 a3 len3 cap3 T3 W w0 w1 w2.1 w3
  refine HW.mono fun e W' ⟨he, bel⟩ => ?_
  subst he
  exact ⟨_, rfl, _, _, _, [], _, [], hW', trodAll_mk1 (shut_bool Tryd.underlying4 _), (trodAll_cons_mk (Below.trod laidOut (by kernel_rfl) (of_decide_eq_true (by kernel_rfl)) k0 bel lt0) (trodAll_cons_mk (shut_int Tryd.underlying3 w1) (trodAll_cons_mk (Below.trod laidOut (by kernel_rfl) (of_decide_eq_true (by kernel_rfl)) k2 bel lt2) (trodAll_cons_mk (Below.trod laidOut (by kernel_rfl) (of_decide_eq_true (by kernel_rfl)) k3 bel lt3) trodAll_mk0)))), rfl, bel.frame _, fun h => by cases h⟩

theorem over : Rows.solomonMendsRow.holds Tryd.pinned (OpenSpec.ofChange Rows.solomonMendsSpec) :=
  OpenClaim.holds_of_wide 3 Tryd.f3 rfl rfl rfl rfl rfl rfl rfl ⟨rfl, rfl, rfl, rfl, rfl⟩ rfl rfl rfl rfl rfl (by kernel_rfl) Tryd.func3 (by kernel_rfl)
    (of_decide_eq_true (by kernel_rfl)) (by unfold Func.isWrapper; first | (rw [if_pos (by decide +kernel)]; kernel_rfl) | (rw [if_neg (by decide +kernel)]; exact ⟨rfl, rfl⟩))
    (fun os started H enc _ => lifted os started H enc)
theorem proved : Rows.SolomonMendsSaid := over
/-- THE TIED CARD -/
theorem card : Rows.SolomonMendsCardSaid :=
  Claim7.holds_tied_plain_at .later [] [.data, .pinned] true (true, "f5baa71f29a95d931efbc5a9cd349025148c8c9fb13ff6895adb61e471aa49ea") false
    proved (fun _ h => by cases h) (by kernel_rfl) (fun _ h => by cases h) solomonMends_row_tie rfl ⟨rfl, rfl⟩ (by kernel_rfl) rfl
    (fun f fn hf hfn => by
      obtain rfl : f = 3 := Option.some.inj ((show Tryd.prog.funcNamed "farhail/farhailkeep.SolomonMends" = some 3 by kernel_rfl).symm.trans hf) |>.symm
      obtain rfl : fn = Tryd.f3 := (Option.some.inj (Tryd.func3.symm.trans hfn)).symm
      exact ⟨by kernel_rfl, fun j t ht => by
        rw [Tryd.params3] at ht
        have hm : t ∈ [22, 3, 23, 23] := by simpa using Array.mem_of_getElem? ht
        have hall : ([22, 3, 23, 23].all fun u => !Tryd.prog.wantsStandIn u) = true := by kernel_rfl
        exact (show Tryd.prog.wantsStandIn t = false by simpa using List.all_eq_true.1 hall t hm)⟩)
    (by kernel_rfl)
#print axioms card
end Go.Proofs.YtpenggkefbbopaaDoor.solomonMends
namespace Go.Proofs.YtpenggkefbbopaaDoor
theorem solomonMends_holds : Rows.SolomonMendsCardSaid := solomonMends.card
end Go.Proofs.YtpenggkefbbopaaDoor
