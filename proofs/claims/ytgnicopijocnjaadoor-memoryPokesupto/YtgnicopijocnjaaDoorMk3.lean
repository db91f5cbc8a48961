import Derived.Test.YtgnicopijocnjaaDoorMk0
import Derived.Test.YtgnicopijocnjaaDoorMk2
import Derived.Test.YtgnicopijocnjaaDoorProg
import Derived.WalkKit
import Derived.Deep.RegionHeld3
namespace Go.Proofs.YtgnicopijocnjaaDoor
open Go.RowKit
set_option maxRecDepth 100000
set_option linter.unusedVariables false
set_option linter.unusedSimpArgs false

section
open Go.RowKit Go.Extern.Stop Go.Stop Go.Extern


/-- the handle of the type 'error' lies in the program's own variable -/
def HdE (w : World) : Prop := w.cell? ⟨0, 0, none⟩ = some (.iface 84 (.agg #[.pointer (some ⟨1, 40, none⟩)]))
theorem HdE.keep {w w' : World} {r : Option Nat} (h : HdE w) (hg : w.grownBy w' r) (hr : r ≠ some 0) : HdE w' := by
  have hb : 0 < w.heap.size := by
    refine Nat.pos_of_ne_zero fun e => ?_
    have hn : w.heap[0]? = none := Array.getElem?_eq_none (by omega)
    unfold HdE at h
    simp [World.cell?, hn] at h
  unfold HdE
  rw [World.cell?_of_block (w := w) (hg.block 0 hb (fun e => hr e.symm))]
  exact h
theorem asE_errno (x : Int) (pt : Addr) (a : Addr) (w : World) :
    Calls Tryd.prog 29 #[.iface 24 (.int .i64 x), .iface 54 (.pointer (some pt)), .agg #[.pointer (some ⟨1, 54, none⟩), .pointer (some a), .int .u64 150], .iface 84 (.agg #[.pointer (some ⟨1, 52, none⟩)])] w fun e w' => e = .returned (.bool false) ∧ w.grownBy w' none := by
  obtain ⟨fV, hfV, hV1, hV2⟩ := Tryd.aValueOf
  have hV := @run_callFunc_extern Tryd.prog 26 _ fV Tryd.func26 (by kernel_rfl) (by kernel_rfl) (by kernel_rfl) hfV
  obtain ⟨fT, hfT, hT1⟩ := Tryd.aType
  have hT := @run_callFunc_extern Tryd.prog 27 _ fT Tryd.func27 (by kernel_rfl) (by kernel_rfl) (by kernel_rfl) hfT
  obtain ⟨fN, hfN, hN1⟩ := Tryd.aIsNil
  have hN := @run_callFunc_extern Tryd.prog 28 _ fN Tryd.func28 (by kernel_rfl) (by kernel_rfl) (by kernel_rfl) hfN
  obtain ⟨fE, hfE, hE1⟩ := Tryd.aElemV
  have hE := @run_callFunc_extern Tryd.prog 36 _ fE Tryd.func36 (by kernel_rfl) (by kernel_rfl) (by kernel_rfl) hfE
  obtain ⟨fL, hfL, hL1⟩ := Tryd.aElem
  have hL := @run_callFunc_extern Tryd.prog 67 _ fL Tryd.func67 (by kernel_rfl) (by kernel_rfl) (by kernel_rfl) hfL
  obtain ⟨fI, hfI, hI1⟩ := Tryd.aImpl
  have hI := @run_callFunc_extern Tryd.prog 68 _ fI Tryd.func68 (by kernel_rfl) (by kernel_rfl) (by kernel_rfl) hfI
  obtain ⟨fA, hfA, hA1, hA2⟩ := Tryd.aAss
  have hA := @run_callFunc_extern Tryd.prog 65 _ fA Tryd.func65 (by kernel_rfl) (by kernel_rfl) (by kernel_rfl) hfA
  obtain ⟨fK, hfK, hK1, hK2⟩ := Tryd.aKind
  have hK := @run_callFunc_extern Tryd.prog 55 _ fK Tryd.func55 (by kernel_rfl) (by kernel_rfl) (by kernel_rfl) hfK
  obtain ⟨fS, hfS, hS1⟩ := Tryd.aSet
  have hS := @run_callFunc_extern Tryd.prog 37 _ fS Tryd.func37 (by kernel_rfl) (by kernel_rfl) (by kernel_rfl) hfS
  have hTo := @run_callFunc_extern Tryd.prog 30 _ Extern.ReflectliteType.typeOf Tryd.func30 (by kernel_rfl) (by kernel_rfl) (by kernel_rfl) (by kernel_rfl)
  have m1 := Tryd.mElem
  have m2 := Tryd.mImplements
  have m3 := Tryd.mAssignableTo
  have m4 := Tryd.mKind
  have tT := Tryd.isTypeOf
  have tL := Tryd.lsTypeOf
  have nA := Tryd.noAs
  have uE := Tryd.noUnwrap
  have vE := Tryd.noUnwraps
  have gA := World.grownBy_alloc w (.cells #[.pointer (some ⟨1, 54, none⟩), .pointer (some a), .int .u64 150] 71) none
  go_enter Tryd.func29, Tryd.ntmps29
  go_wp2
  refine wp_loop_rounds 1 ?_
  rw [rounds_succ]
  go_wp2
  go_ret
  exact ⟨rfl, gA⟩
theorem asE_lost (q : Option Addr) (gt ga : Nat) (w : World) (hb : BxS w ga 54 #[.pointer (some ⟨gt, 0, none⟩)]) (ht : BxS w gt 52 #[.pointer none]) :
    Calls Tryd.prog 29 #[.iface 52 (.pointer q), .iface 54 (.pointer (some ⟨gt, 0, none⟩)), .agg #[.pointer (some ⟨1, 54, none⟩), .pointer (some ⟨ga, 0, none⟩), .int .u64 150], .iface 84 (.agg #[.pointer (some ⟨1, 52, none⟩)])] w fun e w' => e = .returned (.bool true) ∧ BxS w' gt 52 #[.pointer q] ∧ w.grownBy w' (some gt) := by
  obtain ⟨fV, hfV, hV1, hV2⟩ := Tryd.aValueOf
  have hV := @run_callFunc_extern Tryd.prog 26 _ fV Tryd.func26 (by kernel_rfl) (by kernel_rfl) (by kernel_rfl) hfV
  obtain ⟨fT, hfT, hT1⟩ := Tryd.aType
  have hT := @run_callFunc_extern Tryd.prog 27 _ fT Tryd.func27 (by kernel_rfl) (by kernel_rfl) (by kernel_rfl) hfT
  obtain ⟨fN, hfN, hN1⟩ := Tryd.aIsNil
  have hN := @run_callFunc_extern Tryd.prog 28 _ fN Tryd.func28 (by kernel_rfl) (by kernel_rfl) (by kernel_rfl) hfN
  obtain ⟨fE, hfE, hE1⟩ := Tryd.aElemV
  have hE := @run_callFunc_extern Tryd.prog 36 _ fE Tryd.func36 (by kernel_rfl) (by kernel_rfl) (by kernel_rfl) hfE
  obtain ⟨fL, hfL, hL1⟩ := Tryd.aElem
  have hL := @run_callFunc_extern Tryd.prog 67 _ fL Tryd.func67 (by kernel_rfl) (by kernel_rfl) (by kernel_rfl) hfL
  obtain ⟨fI, hfI, hI1⟩ := Tryd.aImpl
  have hI := @run_callFunc_extern Tryd.prog 68 _ fI Tryd.func68 (by kernel_rfl) (by kernel_rfl) (by kernel_rfl) hfI
  obtain ⟨fA, hfA, hA1, hA2⟩ := Tryd.aAss
  have hA := @run_callFunc_extern Tryd.prog 65 _ fA Tryd.func65 (by kernel_rfl) (by kernel_rfl) (by kernel_rfl) hfA
  obtain ⟨fK, hfK, hK1, hK2⟩ := Tryd.aKind
  have hK := @run_callFunc_extern Tryd.prog 55 _ fK Tryd.func55 (by kernel_rfl) (by kernel_rfl) (by kernel_rfl) hfK
  obtain ⟨fS, hfS, hS1⟩ := Tryd.aSet
  have hS := @run_callFunc_extern Tryd.prog 37 _ fS Tryd.func37 (by kernel_rfl) (by kernel_rfl) (by kernel_rfl) hfS
  have hTo := @run_callFunc_extern Tryd.prog 30 _ Extern.ReflectliteType.typeOf Tryd.func30 (by kernel_rfl) (by kernel_rfl) (by kernel_rfl) (by kernel_rfl)
  have m1 := Tryd.mElem
  have m2 := Tryd.mImplements
  have m3 := Tryd.mAssignableTo
  have m4 := Tryd.mKind
  have tT := Tryd.isTypeOf
  have tL := Tryd.lsTypeOf
  have nA := Tryd.noAs
  have uE := Tryd.noUnwrap
  have vE := Tryd.noUnwraps
  have gA := World.grownBy_alloc w (.cells #[.pointer (some ⟨1, 54, none⟩), .pointer (some ⟨ga, 0, none⟩), .int .u64 150] 71) none
  have ca : (w.alloc (.cells #[.pointer (some ⟨1, 54, none⟩), .pointer (some ⟨ga, 0, none⟩), .int .u64 150] 71)).cell? ⟨ga, 0, none⟩ = some (.pointer (some ⟨gt, 0, none⟩)) := (hb.keep gA (by simp)).cell 0 (by simp)
  have hE2 := hE1 ⟨gt, 0, none⟩ ⟨ga, 0, none⟩ _ ca
  have ht1 := ht.keep gA (by simp)
  have gB := World.grownBy_alloc (w.alloc (.cells #[.pointer (some ⟨1, 54, none⟩), .pointer (some ⟨ga, 0, none⟩), .int .u64 150] 71)) (.cells #[.pointer q] 52) none
  have ht2 := ht1.keep gB (by simp)
  have bB := BxS.new (w.alloc (.cells #[.pointer (some ⟨1, 54, none⟩), .pointer (some ⟨ga, 0, none⟩), .int .u64 150] 71)) 52 #[.pointer q]
  rw [World.size_alloc] at bB
  have cb : ((w.alloc (.cells #[.pointer (some ⟨1, 54, none⟩), .pointer (some ⟨ga, 0, none⟩), .int .u64 150] 71)).alloc (.cells #[.pointer q] 52)).cell? ⟨w.heap.size + 1, 0, none⟩ = some (.pointer q) := bB.cell 0 (by simp)
  have hS2 := hS1 ⟨gt, 0, none⟩ ⟨w.heap.size + 1, 0, none⟩ q (.pointer none) _ cb (ht2.cell 0 (by simp)) (ht2.free 0)
  have ht3 := ht2.set 0 (.pointer q)
  have gC := grown_set ((w.alloc (.cells #[.pointer (some ⟨1, 54, none⟩), .pointer (some ⟨ga, 0, none⟩), .int .u64 150] 71)).alloc (.cells #[.pointer q] 52)) gt 0 (.pointer q)
  clear hb ht cb ca hE1 hS1
  go_enter Tryd.func29, Tryd.ntmps29
  go_wp2
  refine wp_loop_rounds 1 ?_
  rw [rounds_succ]
  go_wp2
  go_ret
  exact ⟨rfl, ht3, grown_trans (grown_trans (grown_weak gA _) (grown_weak gB _)) gC⟩
end

section
open Go.RowKit Go.Extern.Stop Go.Stop Go.Extern


set_option maxHeartbeats 4000000 in
theorem as_errno (x : Int) (gt : Nat) (w : World) (hG : HdE w) :
    Calls Tryd.prog 16 #[.iface 24 (.int .i64 x), .iface 54 (.pointer (some ⟨gt, 0, none⟩))] w fun e w' => e = .returned (.bool false) ∧ w.grownBy w' none := by
  obtain ⟨fV, hfV, hV1, hV2⟩ := Tryd.aValueOf
  have hV := @run_callFunc_extern Tryd.prog 26 _ fV Tryd.func26 (by kernel_rfl) (by kernel_rfl) (by kernel_rfl) hfV
  obtain ⟨fT, hfT, hT1⟩ := Tryd.aType
  have hT := @run_callFunc_extern Tryd.prog 27 _ fT Tryd.func27 (by kernel_rfl) (by kernel_rfl) (by kernel_rfl) hfT
  obtain ⟨fN, hfN, hN1⟩ := Tryd.aIsNil
  have hN := @run_callFunc_extern Tryd.prog 28 _ fN Tryd.func28 (by kernel_rfl) (by kernel_rfl) (by kernel_rfl) hfN
  obtain ⟨fE, hfE, hE1⟩ := Tryd.aElemV
  have hE := @run_callFunc_extern Tryd.prog 36 _ fE Tryd.func36 (by kernel_rfl) (by kernel_rfl) (by kernel_rfl) hfE
  obtain ⟨fL, hfL, hL1⟩ := Tryd.aElem
  have hL := @run_callFunc_extern Tryd.prog 67 _ fL Tryd.func67 (by kernel_rfl) (by kernel_rfl) (by kernel_rfl) hfL
  obtain ⟨fI, hfI, hI1⟩ := Tryd.aImpl
  have hI := @run_callFunc_extern Tryd.prog 68 _ fI Tryd.func68 (by kernel_rfl) (by kernel_rfl) (by kernel_rfl) hfI
  obtain ⟨fA, hfA, hA1, hA2⟩ := Tryd.aAss
  have hA := @run_callFunc_extern Tryd.prog 65 _ fA Tryd.func65 (by kernel_rfl) (by kernel_rfl) (by kernel_rfl) hfA
  obtain ⟨fK, hfK, hK1, hK2⟩ := Tryd.aKind
  have hK := @run_callFunc_extern Tryd.prog 55 _ fK Tryd.func55 (by kernel_rfl) (by kernel_rfl) (by kernel_rfl) hfK
  obtain ⟨fS, hfS, hS1⟩ := Tryd.aSet
  have hS := @run_callFunc_extern Tryd.prog 37 _ fS Tryd.func37 (by kernel_rfl) (by kernel_rfl) (by kernel_rfl) hfS
  have hTo := @run_callFunc_extern Tryd.prog 30 _ Extern.ReflectliteType.typeOf Tryd.func30 (by kernel_rfl) (by kernel_rfl) (by kernel_rfl) (by kernel_rfl)
  have m1 := Tryd.mElem
  have m2 := Tryd.mImplements
  have m3 := Tryd.mAssignableTo
  have m4 := Tryd.mKind
  have tT := Tryd.isTypeOf
  have tL := Tryd.lsTypeOf
  have nA := Tryd.noAs
  have uE := Tryd.noUnwrap
  have vE := Tryd.noUnwraps
  have gA := World.grownBy_alloc w (.cells #[.pointer (some ⟨gt, 0, none⟩)] 54) none
  have bA := BxS.new w 54 #[.pointer (some ⟨gt, 0, none⟩)]
  have G1 := hG.keep gA (by simp)
  have gB := World.grownBy_alloc (w.alloc (.cells #[.pointer (some ⟨gt, 0, none⟩)] 54)) (.cells #[.pointer (some ⟨1, 54, none⟩), .pointer (some ⟨w.heap.size, 0, none⟩), .int .u64 150] 71) none
  have G2 : ((w.alloc (.cells #[.pointer (some ⟨gt, 0, none⟩)] 54)).alloc (.cells #[.pointer (some ⟨1, 54, none⟩), .pointer (some ⟨w.heap.size, 0, none⟩), .int .u64 150] 71)).cell? ⟨0, 0, none⟩ = some (.iface 84 (.agg #[.pointer (some ⟨1, 40, none⟩)])) := G1.keep gB (by simp)
  clear G1 hG
  have HA := fun a wz => asE_errno x ⟨gt, 0, none⟩ a wz
  go_enter Tryd.func16, Tryd.ntmps16
  go_wp2_with (go_at_call 29; refine (HA _ _).mono ?_; rintro e w1 ⟨rfl, g1⟩)
  go_ret
  exact ⟨rfl, grown_trans (grown_trans gA gB) g1⟩
set_option maxHeartbeats 4000000 in
theorem as_lost (q : Option Addr) (gt : Nat) (w : World) (hG : HdE w) (ht : BxS w gt 52 #[.pointer none]) :
    Calls Tryd.prog 16 #[.iface 52 (.pointer q), .iface 54 (.pointer (some ⟨gt, 0, none⟩))] w fun e w' => e = .returned (.bool true) ∧ BxS w' gt 52 #[.pointer q] ∧ w.grownBy w' (some gt) := by
  obtain ⟨fV, hfV, hV1, hV2⟩ := Tryd.aValueOf
  have hV := @run_callFunc_extern Tryd.prog 26 _ fV Tryd.func26 (by kernel_rfl) (by kernel_rfl) (by kernel_rfl) hfV
  obtain ⟨fT, hfT, hT1⟩ := Tryd.aType
  have hT := @run_callFunc_extern Tryd.prog 27 _ fT Tryd.func27 (by kernel_rfl) (by kernel_rfl) (by kernel_rfl) hfT
  obtain ⟨fN, hfN, hN1⟩ := Tryd.aIsNil
  have hN := @run_callFunc_extern Tryd.prog 28 _ fN Tryd.func28 (by kernel_rfl) (by kernel_rfl) (by kernel_rfl) hfN
  obtain ⟨fE, hfE, hE1⟩ := Tryd.aElemV
  have hE := @run_callFunc_extern Tryd.prog 36 _ fE Tryd.func36 (by kernel_rfl) (by kernel_rfl) (by kernel_rfl) hfE
  obtain ⟨fL, hfL, hL1⟩ := Tryd.aElem
  have hL := @run_callFunc_extern Tryd.prog 67 _ fL Tryd.func67 (by kernel_rfl) (by kernel_rfl) (by kernel_rfl) hfL
  obtain ⟨fI, hfI, hI1⟩ := Tryd.aImpl
  have hI := @run_callFunc_extern Tryd.prog 68 _ fI Tryd.func68 (by kernel_rfl) (by kernel_rfl) (by kernel_rfl) hfI
  obtain ⟨fA, hfA, hA1, hA2⟩ := Tryd.aAss
  have hA := @run_callFunc_extern Tryd.prog 65 _ fA Tryd.func65 (by kernel_rfl) (by kernel_rfl) (by kernel_rfl) hfA
  obtain ⟨fK, hfK, hK1, hK2⟩ := Tryd.aKind
  have hK := @run_callFunc_extern Tryd.prog 55 _ fK Tryd.func55 (by kernel_rfl) (by kernel_rfl) (by kernel_rfl) hfK
  obtain ⟨fS, hfS, hS1⟩ := Tryd.aSet
  have hS := @run_callFunc_extern Tryd.prog 37 _ fS Tryd.func37 (by kernel_rfl) (by kernel_rfl) (by kernel_rfl) hfS
  have hTo := @run_callFunc_extern Tryd.prog 30 _ Extern.ReflectliteType.typeOf Tryd.func30 (by kernel_rfl) (by kernel_rfl) (by kernel_rfl) (by kernel_rfl)
  have m1 := Tryd.mElem
  have m2 := Tryd.mImplements
  have m3 := Tryd.mAssignableTo
  have m4 := Tryd.mKind
  have tT := Tryd.isTypeOf
  have tL := Tryd.lsTypeOf
  have nA := Tryd.noAs
  have uE := Tryd.noUnwrap
  have vE := Tryd.noUnwraps
  have gA := World.grownBy_alloc w (.cells #[.pointer (some ⟨gt, 0, none⟩)] 54) none
  have bA := BxS.new w 54 #[.pointer (some ⟨gt, 0, none⟩)]
  have G1 := hG.keep gA (by simp)
  have gB := World.grownBy_alloc (w.alloc (.cells #[.pointer (some ⟨gt, 0, none⟩)] 54)) (.cells #[.pointer (some ⟨1, 54, none⟩), .pointer (some ⟨w.heap.size, 0, none⟩), .int .u64 150] 71) none
  have G2 : ((w.alloc (.cells #[.pointer (some ⟨gt, 0, none⟩)] 54)).alloc (.cells #[.pointer (some ⟨1, 54, none⟩), .pointer (some ⟨w.heap.size, 0, none⟩), .int .u64 150] 71)).cell? ⟨0, 0, none⟩ = some (.iface 84 (.agg #[.pointer (some ⟨1, 40, none⟩)])) := G1.keep gB (by simp)
  clear G1 hG
  have HA := asE_lost q gt w.heap.size _ (bA.keep gB (by simp)) ((ht.keep gA (by simp)).keep gB (by simp))
  clear ht
  go_enter Tryd.func16, Tryd.ntmps16
  go_wp2_with (go_at_call 29; refine HA.mono ?_; rintro e w1 ⟨rfl, hB1, g1⟩)
  go_ret
  exact ⟨rfl, hB1, grown_trans (grown_weak (grown_trans gA gB) _) g1⟩
end

section
theorem tell_nil (w : World) : Calls Tryd.prog 10 #[.nilIface] w fun e w' => e = .returned (.int .i64 0) ∧ w' = w := by
  go_enter Tryd.func10, Tryd.ntmps10
  go_wp2
  go_ret
  exact ⟨rfl, rfl⟩
theorem as_nil (v : Value) (w : World) : Calls Tryd.prog 16 #[.nilIface, v] w fun e w' => e = .returned (.bool false) ∧ w' = w := by
  go_enter Tryd.func16, Tryd.ntmps16
  go_wp2
  go_ret
  exact ⟨rfl, rfl⟩
/-- 'make([]int, n)' -/
theorem wpList_mkN (w : World) {ops : Array Oper} {rest : List Oper} {o : Oper} {a : Act} {Q : Exit → Act → World → Prop} (hg : o.guard = none) (l c : Operand)
    (hop : o.op = Op.makeSlice 27 l c) (L C : Int) (n : Nat) (hl : a.eval l = .int .i64 L) (hc : a.eval c = .int .i64 C) (hL : L = n) (hC : C = n) (hn : n ≤ 17592186044416)
    (hK : ∀ w', BlZ w' w.heap.size (List.replicate n 0) → w.grownBy w' none → wpList Tryd.prog ops Q rest (a.put o.dst (.slice (some ⟨w.heap.size, 0, none⟩) n n)) w') :
    wpList Tryd.prog ops Q (o :: rest) a w := by
  obtain ⟨i0, hi, hz0, hz1, hz2⟩ := info_parts Tryd.info_int
  refine wpList_make_full w hg l c 27 hop w.heap.size 3 i0 (.int .i64 0) 1 Tryd.underlying27 hi hz0 hz1 .i64 .i64 L C n hl hc hL hC (by rw [hz2]; omega) (by unfold maxLen; omega) (Nat.le_refl _) ?_
  intro w' hown hgr
  refine hK w' ?_ hgr
  rcases hown.2 with ⟨h, _⟩ | ⟨g, cap, cur, hv, _, hh, h1, _, h3, h4⟩
  · simp at h
  · simp only [Value.slice.injEq, Option.some.injEq, Addr.mk.injEq] at hv
    obtain ⟨⟨hgg, _⟩, _, hcap⟩ := hv
    subst hgg; subst hcap
    unfold BlZ
    rw [hh]
    have e1 : cur.toList = (List.replicate n 0).map (fun (n : Nat) => Value.int .i64 (n : Int)) := by
      have e0 : (List.replicate n 0).map (fun (n : Nat) => Value.int .i64 (n : Int)) = List.replicate n (Value.int .i64 0) := by simp
      rw [e0]
      have e2 : (madeCells (Value.int .i64 0).cells (n * 1)).toList = List.replicate n (Value.int .i64 0) := by
        rw [Nat.mul_one]; exact toList_madeCells_one _ _
      rw [← e2, ← h4, List.take_of_length_le (by simp; omega)]
    rw [← e1]
theorem nth_rep (n i : Nat) : nth (List.replicate n 0) i = 0 := by
  unfold nth
  rw [List.getD_eq_getElem?_getD, List.getElem?_replicate]
  split <;> rfl
theorem mnew_ok (n : Nat) (w : World) (h1 : 1 ≤ n) (h2 : n ≤ 4096) : Calls Tryd.prog 9 #[.int .i64 n] w fun e w' => ∃ gm gc, e = .returned (.tuple #[.pointer (some ⟨gm, 0, none⟩), .nilIface]) ∧ Mem w' gm gc 0 (List.replicate n 0) ∧ w.grownBy w' none ∧ w.heap.size ≤ gm ∧ w.heap.size ≤ gc := by
  have hi1 : ¬ (n : Int) < 1 := by omega
  have hi2 : ¬ (4096 : Int) < (n : Int) := by omega
  go_enter Tryd.func9, Tryd.ntmps9
  go_wp2_with (first | (at_make; refine wpList_mkN w rfl (.tmp 11) (.tmp 11) rfl _ _ n rfl rfl rfl rfl (by omega) ?_; intro w1 hB1 g1))
  have b0 := BxS.new w1 61 #[.slice (some ⟨w.heap.size, 0, none⟩) n n, .int .i64 0]
  have g2 := World.grownBy_alloc w1 (.cells #[.slice (some ⟨w.heap.size, 0, none⟩) n n, .int .i64 0] 61) none
  go_ret2
  refine ⟨w1.heap.size, rfl, w.heap.size, ⟨by rw [List.length_replicate]; exact b0, hB1.grown g2 (by simp), Nat.ne_of_gt hB1.lt, fun k _ => by rw [nth_rep]; omega, by rw [List.length_replicate]; exact h1, by rw [List.length_replicate]; exact h2, by rw [List.length_replicate]; exact h1⟩, grown_trans g1 g2, g1.size, Nat.le_refl _⟩
end

section
/-- the number of the first region of a piece of code (0: none; n + 1: region n) -/
def fstR : Code → Nat
  | .region id _ _ => id + 1
  | .seq a _ => fstR a
  | .block _ b => fstR b
  | .loop b => fstR b
  | _ => 0
/-- the piece of code that begins with region n, as long as can be -/
def tailR (n : Nat) : Code → Code
  | .seq a b => if fstR a = n + 1 then .seq a b else match tailR n a with
    | .skip => tailR n b
    | c => c
  | .cond _ t e => match tailR n t with
    | .skip => tailR n e
    | c => c
  | .block _ b => tailR n b
  | .loop b => tailR n b
  | .region id o d => if id = n then .region id o d else .skip
  | _ => .skip
end

section
theorem mwr_le (c : Nat) : wrW c ≤ 2 := by
  unfold wrW
  repeat' split
  all_goals omega
/-- a code behind a visit -/
def viW (c : Nat) : Nat := if wrW c = 2 then c else riW c
theorem set_nth (C : List Nat) (k : Nat) : C.set k (nth C k) = C := by
  by_cases hk : k < C.length
  · unfold nth
    rw [List.getD_eq_getElem?_getD, List.getElem?_eq_getElem hk]
    simp
  · rw [List.set_eq_of_length_le (by omega)]
theorem visit_any (gm gc nx k : Nat) (C : List Nat) (w : World) (h : Mem w gm gc nx C) (hk : k < C.length) :
    Calls Tryd.prog 20 #[.pointer (some ⟨gm, 0, none⟩), .int .i64 k] w fun e w' => e = .returned (.tuple #[.bool (wrW (nth C k) == 1), .int .i64 (riE (nth C k) : Nat)]) ∧ Mem w' gm gc nx (C.set k (viW (nth C k))) ∧ w.grownBy w' (some gc) := by
  by_cases hw : wrW (nth C k) = 2
  · have hv : viW (nth C k) = nth C k := by unfold viW; rw [if_pos hw]
    rw [hv, set_nth]
    have c0 := h.box.cell 0 (by simp)
    simp at c0
    have hc := h.row.cell k hk
    have hm := h.most
    have hxc := h.code k hk
    have H1 := fun wz => righted_any (nth C k) hxc wz
    have e : riE (nth C k) = 18 := by unfold riE; rw [if_pos hw]
    rw [e] at H1 ⊢
    have hki : (k : Int) < (C.length : Int) := by omega
    generalize riW (nth C k) = x at H1
    generalize (wrW (nth C k) == 1) = b at H1 ⊢
    clear e hv hw
    generalize nth C k = y at H1 hc hxc
    go_enter Tryd.func20, Tryd.ntmps20
    go_wp2_with (first
      | (go_at_call 32; refine (H1 _).mono ?_; rintro e w' ⟨rfl, hw⟩; have hw := hw.symm; subst hw))
    go_ret2
    exact ⟨rfl, h, World.grownBy.refl _ _⟩
  · have hle := mwr_le (nth C k)
    have hv : viW (nth C k) = riW (nth C k) := by unfold viW; rw [if_neg hw]
    rw [hv, wr_one (by omega)]
    exact visit_ok gm gc nx k C w h hk (by omega)
/-- a place that is there -/
def inC (C : List Nat) (z : Int) : Prop := 0 ≤ z ∧ z ≤ (C.length : Int) - 1
theorem mload_bad (gm gc nx : Nat) (C : List Nat) (z : Int) (w : World) (h : Mem w gm gc nx C) (hz : ¬ inC C z) :
    Calls Tryd.prog 11 #[.pointer (some ⟨gm, 0, none⟩), .int .i64 z] w fun e w' => e = .returned (.tuple #[.int .i64 0, .iface 24 (.int .i64 2)]) ∧ w' = w := by
  have H2 := has_any gm gc nx C z w h
  rw [inN_f hz] at H2
  go_enter Tryd.func11, Tryd.ntmps11
  go_wp2_with (first
    | (go_at_call 19; refine H2.mono ?_; rintro e w' ⟨rfl, hw⟩; have hw := hw.symm; subst hw))
  go_ret2
  exact ⟨rfl, rfl⟩
theorem mload_lost (gm gc nx k : Nat) (C : List Nat) (w : World) (h : Mem w gm gc nx C) (hk : k < C.length) (hw : wrW (nth C k) = 2) :
    Calls Tryd.prog 11 #[.pointer (some ⟨gm, 0, none⟩), .int .i64 k] w fun e w' => ∃ gl, e = .returned (.tuple #[.int .i64 0, .iface 52 (.pointer (some ⟨gl, 0, none⟩))]) ∧ BxS w' gl 56 #[.int .i64 (k : Int)] ∧ w.heap.size ≤ gl ∧ Mem w' gm gc nx C ∧ w.grownBy w' (some gc) := by
  have hm := h.most
  have H2 := has_any gm gc nx C (k : Int) w h
  rw [inN_t ⟨by omega, by omega⟩] at H2
  have H1 := visit_any gm gc nx k C w h hk
  have hv : viW (nth C k) = nth C k := by unfold viW; rw [if_pos hw]
  rw [hv, set_nth, show riE (nth C k) = 18 from by unfold riE; rw [if_pos hw]] at H1
  generalize (wrW (nth C k) == 1) = b at H1
  go_enter Tryd.func11, Tryd.ntmps11
  go_wp2_with (first
    | (go_at_call 19; refine H2.mono ?_; rintro e w' ⟨rfl, hw⟩; have hw := hw.symm; subst hw)
    | (go_at_call 20; refine H1.mono ?_; rintro e w1 ⟨rfl, hM, hG⟩))
  have gA := World.grownBy_alloc w1 (.cells #[.int .i64 (k : Int)] 56) none
  go_ret2
  exact ⟨_, rfl, BxS.new w1 _ _, hG.size, hM.grown gA (by simp) (by simp), grown_trans hG (grown_weak gA _)⟩
theorem mstore_bad (gm gc nx : Nat) (C : List Nat) (z n : Int) (w : World) (h : Mem w gm gc nx C) (hz : ¬ (inC C z ∧ (0 ≤ n ∧ n ≤ 4294967295))) :
    Calls Tryd.prog 12 #[.pointer (some ⟨gm, 0, none⟩), .int .i64 z, .int .i64 n] w fun e w' => e = .returned (.iface 24 (.int .i64 2)) ∧ w' = w := by
  have H1 := fun wz => code_any n wz
  have H2 := has_any gm gc nx C z w h
  by_cases hc : inC C z
  · have hn : ¬ (0 ≤ n ∧ n ≤ 4294967295) := fun k => hz ⟨hc, k⟩
    rw [inN_t hc] at H2
    have e : cdV n = 0 ∧ cdE n = 2 := by unfold cdV cdE; rw [inN_f hn]; exact ⟨rfl, rfl⟩
    rw [e.1, e.2] at H1
    go_enter Tryd.func12, Tryd.ntmps12
    go_wp2_with (first
      | (go_at_call 22; refine (H1 _).mono ?_; rintro e w' ⟨rfl, hw⟩; have hw := hw.symm; subst hw)
      | (go_at_call 19; refine H2.mono ?_; rintro e w' ⟨rfl, hw⟩; have hw := hw.symm; subst hw))
    go_ret
    exact ⟨rfl, rfl⟩
  · rw [inN_f hc] at H2
    generalize cdV n = a at H1
    generalize cdE n = b at H1
    go_enter Tryd.func12, Tryd.ntmps12
    go_wp2_with (first
      | (go_at_call 22; refine (H1 _).mono ?_; rintro e w' ⟨rfl, hw⟩; have hw := hw.symm; subst hw)
      | (go_at_call 19; refine H2.mono ?_; rintro e w' ⟨rfl, hw⟩; have hw := hw.symm; subst hw))
    go_ret
    exact ⟨rfl, rfl⟩
theorem mturn_bad (gm gc nx : Nat) (C : List Nat) (z n : Int) (w : World) (h : Mem w gm gc nx C) (hz : ¬ (inC C z ∧ (0 ≤ n ∧ n ≤ 38))) :
    Calls Tryd.prog 13 #[.pointer (some ⟨gm, 0, none⟩), .int .i64 z, .int .i64 n] w fun e w' => e = .returned (.iface 24 (.int .i64 2)) ∧ w' = w := by
  have H1 := fun wz => mwithin_any n 38 wz
  have H2 := has_any gm gc nx C z w h
  by_cases hc : inC C z
  · have hn : ¬ (0 ≤ n ∧ n ≤ 38) := fun k => hz ⟨hc, k⟩
    rw [inN_t hc] at H2
    rw [inN_f hn] at H1
    go_enter Tryd.func13, Tryd.ntmps13
    go_wp2_with (first
      | (go_at_call 19; refine H2.mono ?_; rintro e w' ⟨rfl, hw⟩; have hw := hw.symm; subst hw)
      | (go_at_call 23; refine (H1 _).mono ?_; rintro e w' ⟨rfl, hw⟩; have hw := hw.symm; subst hw))
    go_ret
    exact ⟨rfl, rfl⟩
  · rw [inN_f hc] at H2
    go_enter Tryd.func13, Tryd.ntmps13
    go_wp2_with (first
      | (go_at_call 19; refine H2.mono ?_; rintro e w' ⟨rfl, hw⟩; have hw := hw.symm; subst hw))
    go_ret
    exact ⟨rfl, rfl⟩
/-- the codes behind j visits from place nx on -/
def mgC (C : List Nat) (nx : Nat) : Nat → List Nat
  | 0 => C
  | j + 1 => (mgC C nx j).set ((nx + j) % C.length) (viW (nth (mgC C nx j) ((nx + j) % C.length)))
/-- how many of them had a wrong bit -/
def mgN (C : List Nat) (nx : Nat) : Nat → Nat
  | 0 => 0
  | j + 1 => if wrW (nth (mgC C nx j) ((nx + j) % C.length)) == 1 then mgN C nx j + 1 else mgN C nx j
/-- which of them are lost -/
def mgL (C : List Nat) (nx : Nat) : Nat → List Int
  | 0 => []
  | j + 1 => if wrW (nth (mgC C nx j) ((nx + j) % C.length)) = 2 then mgL C nx j ++ [(((nx + j) % C.length : Nat) : Int)] else mgL C nx j
theorem mgC_len (C : List Nat) (nx j : Nat) : (mgC C nx j).length = C.length := by
  induction j with
  | zero => rfl
  | succ j ih => rw [mgC, List.length_set]; exact ih
theorem mgN_le (C : List Nat) (nx j : Nat) : mgN C nx j ≤ j := by
  induction j with
  | zero => exact Nat.le_refl _
  | succ j ih => rw [mgN]; split <;> omega
theorem mgL_le (C : List Nat) (nx j : Nat) : (mgL C nx j).length ≤ j := by
  induction j with
  | zero => exact Nat.le_refl _
  | succ j ih =>
    rw [mgL]
    split
    · rw [List.length_append, List.length_singleton]; omega
    · omega
theorem scrub_bad (gm gc nx : Nat) (C : List Nat) (z : Int) (w : World) (h : Mem w gm gc nx C) (hz : ¬ (0 ≤ z ∧ z ≤ (C.length : Int))) :
    Calls Tryd.prog 14 #[.pointer (some ⟨gm, 0, none⟩), .int .i64 z] w fun e w' => e = .returned (.tuple #[.int .i64 0, .slice none 0 0, .iface 24 (.int .i64 2)]) ∧ w' = w := by
  have c0 := h.box.cell 0 (by simp)
  simp at c0
  have H1 := fun wz => mwithin_any z (C.length : Int) wz
  rw [inN_f hz] at H1
  go_enter Tryd.func14, Tryd.ntmps14
  go_wp2_with (first
    | (go_at_call 23; refine (H1 _).mono ?_; rintro e w' ⟨rfl, hww⟩; have hww := hww.symm; subst hww))
  go_ret3
  exact ⟨rfl, rfl⟩
end

section
section
variable {P : Program} {ops : Array Oper} {Q : Exit → Act → World → Prop} {md : Region.Mode} {S : World → Prop}
/-- those of C have not come up, and none of them can ahead of i -/
def waitZ (md : Region.Mode) (ops : Array Oper) (listed : Array Bool) (i : Nat) (C : List Nat) : Bool :=
  C.all fun c => !(listed.getD c true) && match ops[c]? with | some oc => oc.after.any (fun e => Region.binds md e && (e.on == i || C.contains e.on)) | none => false
theorem waitZ_no {listed : Array Bool} {i : Nat} {C : List Nat} (h : waitZ md ops listed i C = true) (hi : i ∈ Region.ready md ops listed) {j : Nat} (hj : j ∈ Region.ready md ops listed) : j ∉ C := by
  intro hc
  have h1 := List.all_eq_true.1 h j hc
  obtain ⟨hjun, oj, hoj, hall⟩ := mem_ready.1 hj
  simp only [hoj, Bool.and_eq_true, Bool.not_eq_true'] at h1
  obtain ⟨e, he, hb⟩ := Array.any_eq_true'.1 h1.2
  simp only [Bool.and_eq_true, Bool.or_eq_true, beq_iff_eq, List.contains_iff_mem] at hb
  have hd := hall e he hb.1
  have hun : listed.getD e.on true = false := by
    rcases hb.2 with h2 | h2
    · rw [h2]; exact (mem_ready.1 hi).1
    · have := List.all_eq_true.1 h e.on h2
      simp only [Bool.and_eq_true, Bool.not_eq_true'] at this
      exact this.1
  rcases Nat.lt_or_ge e.on listed.size with h' | h'
  · simp [h'] at hun hd; rw [hun] at hd; cases hd
  · simp [Array.getElem?_eq_none h'] at hun
theorem waitZ_step {listed : Array Bool} {i : Nat} {C : List Nat} (h : waitZ md ops listed i C = true) {j : Nat} (hj : j ∉ C) : waitZ md ops (listed.setIfInBounds j true) i C = true := by
  unfold waitZ at *
  rw [List.all_eq_true] at *
  intro c hc
  have h1 := h c hc
  have : j ≠ c := fun e => hj (e ▸ hc)
  rw [getD_set_ne true this]
  exact h1
end

section
variable {P : Program} {ops : Array Oper} {Q : Exit → Act → World → Prop} {md : Region.Mode} {S : World → Prop}
end
end

section
section
variable {P : Program} {ops : Array Oper} {Q : Exit → Act → World → Prop} {md : Region.Mode} {S : World → Prop}
/-- whatever order is picked from here on, and S holds behind every operation but those of Z, the last ones -/
def wpAnyY (P : Program) (md : Region.Mode) (ops : Array Oper) (Q : Exit → Act → World → Prop) (S : World → Prop) (Z : List Nat) : Nat → Array Bool → Act → World → Prop
  | 0, listed, a, w => Region.ready md ops listed = [] ∧ Q .normal a w
  | fuel + 1, listed, a, w =>
    (Region.ready md ops listed = [] → Q .normal a w) ∧
    ∀ i ∈ Region.ready md ops listed, wpOp P ops Q i (fun a' w' => (S w → i ∉ Z → S w') ∧ wpAnyY P md ops Q S Z fuel (listed.setIfInBounds i true) a' w') a w
theorem wpAny_of_Y (Z : List Nat) : ∀ (fuel : Nat) (listed : Array Bool) (a : Act) (w : World), wpAnyY P md ops Q S Z fuel listed a w → wpAny P md ops Q fuel listed a w
  | 0, _, _, _, h => h
  | fuel + 1, _, _, _, h => ⟨h.1, fun i hi => wpOp_mono (fun a' w' h' => wpAny_of_Y Z fuel _ a' w' h'.2) (h.2 i hi)⟩
theorem wpAnyY_first {Z C : List Nat} (hz : ∀ z, z ∈ Z → z ∈ C) {i : Nat} {oi : Oper} {v : Value} (hi : ops[i]? = some oi) (hsel : ∀ (j : Nat) (o : Oper) cs b, ops[j]? = some o → o.op ≠ .select cs b)
    (hQ : ∀ c a w, Q (.panic c) (a.put oi.dst v) w → Q (.panic c) a w) :
    ∀ (fuel : Nat) (listed : Array Bool) (a : Act) (w : World),
      (∀ j oj, ops[j]? = some oj → j ≠ i → listed.getD j true = false → (∀ e ∈ oj.after, Region.binds md e = true → e.on ≠ i) → oi.apart ops oj = true) →
      i ∈ Region.ready md ops listed → waitZ md ops listed i C = true → YieldsIf P ops S oi v a → S w →
      wpAnyY P md ops Q S Z fuel (listed.setIfInBounds i true) (a.put oi.dst v) w → wpAnyY P md ops Q S Z (fuel + 1) listed a w := by
  intro fuel
  induction fuel with
  | zero =>
    intro listed a w _ hr hW hy hS H
    refine ⟨fun h => (by rw [h] at hr; cases hr), fun j hj => ?_⟩
    by_cases hji : j = i
    · subst hji; exact hy.wpOp hi hS ⟨fun h _ => h, H⟩
    · have := ready_mono hj hji
      rw [H.1] at this
      cases this
  | succ fuel ih =>
    intro listed a w hfree hr hW hy hS H
    refine ⟨fun h => (by rw [h] at hr; cases hr), fun j hj => ?_⟩
    by_cases hji : j = i
    · subst hji; exact hy.wpOp hi hS ⟨fun h _ => h, H⟩
    · have hjC := waitZ_no hW hr hj
      have hjz : j ∉ Z := fun e => hjC (hz j e)
      have h1 := H.2 j (ready_mono hj hji)
      obtain ⟨hjun, oj, hoj, hall⟩ := mem_ready.1 hj
      have hnot : ∀ e ∈ oj.after, Region.binds md e = true → e.on ≠ i := fun e he hb heq => by
        have h1 := hall e he hb
        have h0 := (mem_ready.1 hr).1
        rw [heq] at h1
        rcases Nat.lt_or_ge i listed.size with h' | h'
        · simp [h'] at h0 h1; rw [h0] at h1; cases h1
        · simp [Array.getElem?_eq_none h'] at h1
      have h2 := wpOp_putIf hoj (hfree j oj hoj hji hjun hnot) (fun cs b => hsel i oi cs b hi) (fun cs b => hsel j oj cs b hoj) hQ hy h1
      have hfree' : ∀ k ok, ops[k]? = some ok → k ≠ i → (listed.setIfInBounds j true).getD k true = false →
          (∀ e ∈ ok.after, Region.binds md e = true → e.on ≠ i) → oi.apart ops ok = true := fun k ok hk hki hun hno => by
        refine hfree k ok hk hki ?_ hno
        by_cases hjk : j = k
        · subst hjk; exact hjun
        · rw [getD_set_ne true hjk] at hun; exact hun
      refine wpOp_mono (fun a' w' h3 => ⟨h3.2.1, ih (listed.setIfInBounds j true) a' w' hfree' (ready_mono hr (Ne.symm hji)) (waitZ_step hW hjC) h3.1 (h3.2.1 hS hjz) ?_⟩) h2
      rw [Array.setIfInBounds_comm _ _ hji]
      exact h3.2.2
/-- take number i first -/
theorem wpAnyY_take {Z : List Nat} (C : List Nat) (i : Nat) {oi : Oper} (v : Value) {fuel : Nat} {listed : Array Bool} {a : Act} {w : World} (hi : ops[i]? = some oi)
    (hs : ((Z.all fun z => C.contains z) && Region.noSelect ops && Region.free md ops listed i && (Region.ready md ops listed).contains i && waitZ md ops listed i C) = true)
    (hQ : ∀ c a w, Q (.panic c) (a.put oi.dst v) w → Q (.panic c) a w) (hS : S w) (hw : Region.wanted oi (yielded ops a.tmps) = true) (hy : ∀ w, S w → (execOp a.eval oi).run P w = .ok (.value v) w)
    (h : wpAnyY P md ops Q S Z fuel (listed.setIfInBounds i true) (a.put oi.dst v) w) : wpAnyY P md ops Q S Z (fuel + 1) listed a w := by
  simp only [Bool.and_eq_true, List.contains_iff_mem, List.all_eq_true] at hs
  exact wpAnyY_first hs.1.1.1.1 hi (Region.noSelect_spec hs.1.1.1.2) hQ fuel listed a w (Region.free_spec hi hs.1.1.2) hs.1.2 hs.2 (.inl ⟨hw, hy⟩) hS h
/-- one alone may come up -/
theorem wpAnyY_one {Z : List Nat} (i : Nat) {o : Oper} {fuel : Nat} {listed : Array Bool} {a : Act} {w : World} (ho : ops[i]? = some o) (hr : Region.ready md ops listed = [i])
    (h : ∀ K' : Act → World → Prop, (∀ a' w', (S w → i ∉ Z → S w') → wpAnyY P md ops Q S Z fuel (listed.setIfInBounds i true) a' w' → K' a' w') → if Region.wanted o (yielded ops a.tmps) = true then Oper.wp P o a w K' Q else K' (a.put o.dst undef) w) :
    wpAnyY P md ops Q S Z (fuel + 1) listed a w := by
  refine ⟨fun h0 => (by rw [hr] at h0; cases h0), fun j hj => ?_⟩
  rw [hr] at hj
  have e := List.mem_singleton.1 hj
  subst e
  exact wpOp_step ho (fun K' hK => h K' (fun a w hS hW => hK a w ⟨hS, hW⟩))
theorem wpAnyY_done {Z : List Nat} {listed : Array Bool} {a : Act} {w : World} (hr : Region.ready md ops listed = []) (h : Q .normal a w) : ∀ fuel, wpAnyY P md ops Q S Z fuel listed a w
  | 0 => ⟨hr, h⟩
  | _ + 1 => ⟨fun _ => h, by rw [hr]; simp⟩
theorem wp_regionY {id : Nat} {a : Act} {w : World} (S : World → Prop) (Z : List Nat) (hm : P.follows .mixedOrders = true)
    (h : wpAnyY P .any ops Q S Z ops.size (Array.replicate ops.size false) a w.drew) : (Code.region id ops true).wp P Q a w :=
  wp_region_any hm (wpAny_of_Y Z _ _ _ _ h)
end

section
variable {P : Program} {ops : Array Oper} {Q : Exit → Act → World → Prop} {md : Region.Mode} {S : World → Prop}
/-- what yields in whatever world may be taken first, whatever of Z comes up ahead of it -/
theorem wpAnyY_firstF {Z : List Nat} {i : Nat} {oi : Oper} {v : Value} (hi : ops[i]? = some oi) (hsel : ∀ (j : Nat) (o : Oper) cs b, ops[j]? = some o → o.op ≠ .select cs b)
    (hQ : ∀ c a w, Q (.panic c) (a.put oi.dst v) w → Q (.panic c) a w) :
    ∀ (fuel : Nat) (listed : Array Bool) (a : Act) (w : World),
      (∀ j oj, ops[j]? = some oj → j ≠ i → listed.getD j true = false → (∀ e ∈ oj.after, Region.binds md e = true → e.on ≠ i) → oi.apart ops oj = true) →
      i ∈ Region.ready md ops listed → YieldsIf P ops (fun _ => True) oi v a →
      wpAnyY P md ops Q S Z fuel (listed.setIfInBounds i true) (a.put oi.dst v) w → wpAnyY P md ops Q S Z (fuel + 1) listed a w := by
  intro fuel
  induction fuel with
  | zero =>
    intro listed a w _ hr hy H
    refine ⟨fun h => (by rw [h] at hr; cases hr), fun j hj => ?_⟩
    by_cases hji : j = i
    · subst hji; exact hy.wpOp hi trivial ⟨fun h _ => h, H⟩
    · have := ready_mono hj hji
      rw [H.1] at this
      cases this
  | succ fuel ih =>
    intro listed a w hfree hr hy H
    refine ⟨fun h => (by rw [h] at hr; cases hr), fun j hj => ?_⟩
    by_cases hji : j = i
    · subst hji; exact hy.wpOp hi trivial ⟨fun h _ => h, H⟩
    · have h1 := H.2 j (ready_mono hj hji)
      obtain ⟨hjun, oj, hoj, hall⟩ := mem_ready.1 hj
      have hnot : ∀ e ∈ oj.after, Region.binds md e = true → e.on ≠ i := fun e he hb heq => by
        have h1 := hall e he hb
        have h0 := (mem_ready.1 hr).1
        rw [heq] at h1
        rcases Nat.lt_or_ge i listed.size with h' | h'
        · simp [h'] at h0 h1; rw [h0] at h1; cases h1
        · simp [Array.getElem?_eq_none h'] at h1
      have h2 := wpOp_putIf hoj (hfree j oj hoj hji hjun hnot) (fun cs b => hsel i oi cs b hi) (fun cs b => hsel j oj cs b hoj) hQ hy h1
      have hfree' : ∀ k ok, ops[k]? = some ok → k ≠ i → (listed.setIfInBounds j true).getD k true = false →
          (∀ e ∈ ok.after, Region.binds md e = true → e.on ≠ i) → oi.apart ops ok = true := fun k ok hk hki hun hno => by
        refine hfree k ok hk hki ?_ hno
        by_cases hjk : j = k
        · subst hjk; exact hjun
        · rw [getD_set_ne true hjk] at hun; exact hun
      refine wpOp_mono (fun a' w' h3 => ⟨h3.2.1, ih (listed.setIfInBounds j true) a' w' hfree' (ready_mono hr (Ne.symm hji)) h3.1 ?_⟩) h2
      rw [Array.setIfInBounds_comm _ _ hji]
      exact h3.2.2
theorem wpAnyY_takeF {Z : List Nat} (i : Nat) {oi : Oper} (v : Value) {fuel : Nat} {listed : Array Bool} {a : Act} {w : World} (hi : ops[i]? = some oi)
    (hs : (Region.noSelect ops && Region.free md ops listed i && (Region.ready md ops listed).contains i) = true)
    (hQ : ∀ c a w, Q (.panic c) (a.put oi.dst v) w → Q (.panic c) a w) (hw : Region.wanted oi (yielded ops a.tmps) = true) (hy : ∀ w, (execOp a.eval oi).run P w = .ok (.value v) w)
    (h : wpAnyY P md ops Q S Z fuel (listed.setIfInBounds i true) (a.put oi.dst v) w) : wpAnyY P md ops Q S Z (fuel + 1) listed a w := by
  simp only [Bool.and_eq_true, List.contains_iff_mem] at hs
  exact wpAnyY_firstF hi (Region.noSelect_spec hs.1.1) hQ fuel listed a w (Region.free_spec hi hs.1.2) hs.2 (.inl ⟨hw, fun w _ => hy w⟩) h
end
theorem wp_regionM {P : Program} {ops : Array Oper} {Q : Exit → Act → World → Prop} {id : Nat} {a : Act} {w : World} (S : World → Prop) (Z : List Nat) (L0 : Array Bool) (hL : Array.replicate ops.size false = L0) (hm : P.follows .mixedOrders = true)
    (h : wpAnyY P .any ops Q S Z ops.size L0 a w.drew) : (Code.region id ops true).wp P Q a w := by
  subst hL
  exact wp_regionY S Z hm h
theorem wpAnyY_oneB {P : Program} {ops : Array Oper} {Q : Exit → Act → World → Prop} {md : Region.Mode} {S : World → Prop} {Z : List Nat} (i : Nat) {o : Oper} {fuel : Nat} {listed : Array Bool} {a : Act} {w : World} (ho : ops[i]? = some o) (hr : (Region.ready md ops listed == [i]) = true)
    (h : ∀ K' : Act → World → Prop, (∀ a' w', (S w → i ∉ Z → S w') → wpAnyY P md ops Q S Z fuel (listed.setIfInBounds i true) a' w' → K' a' w') → if Region.wanted o (yielded ops a.tmps) = true then Oper.wp P o a w K' Q else K' (a.put o.dst undef) w) :
    wpAnyY P md ops Q S Z (fuel + 1) listed a w := wpAnyY_one i ho (eq_of_beq hr) h
theorem wpAnyY_doneB {P : Program} {ops : Array Oper} {Q : Exit → Act → World → Prop} {md : Region.Mode} {S : World → Prop} {Z : List Nat} {listed : Array Bool} {a : Act} {w : World} (hr : (Region.ready md ops listed == []) = true) (h : Q .normal a w) (fuel : Nat) : wpAnyY P md ops Q S Z fuel listed a w := wpAnyY_done (eq_of_beq hr) h fuel
end
end Go.Proofs.YtgnicopijocnjaaDoor
