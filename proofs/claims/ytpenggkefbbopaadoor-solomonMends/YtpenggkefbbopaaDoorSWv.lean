import Derived.Test.YtpenggkefbbopaaDoorSREnc2
import Derived.Test.YtpenggkefbbopaaDoorFDivN
import Derived.Lib.AppendZerosOnto
namespace Go.Proofs.YtpenggkefbbopaaDoor
open Go.RowKit
set_option maxRecDepth 100000
set_option linter.unusedVariables false
set_option linter.unusedSimpArgs false

theorem zeros_u8 (k : Nat) : (Builtin.zeroCells (Value.int .u8 0).cells k).toList = bys (List.replicate k 0) := by
  rw [← bys_zero]
  have e : (Value.int .u8 0).cells = #[Value.int .u8 0] := rfl
  rw [e]
  unfold Builtin.zeroCells
  simp [Nat.mod_one]
  exact List.eq_replicate_iff.2 ⟨by simp, fun b hb => by simp at hb; exact hb.2.symm⟩
/-- 'append(v, make([]byte, k)...)', v the call's own -/
theorem run_apZ (w : World) (ty : TypeId) (v : Value) (n k : Nat) (L : List Nat) (hown : w.ownsRow 0 5 1 v n (bys L)) (hn : 0 < n) (hk : 0 < k) (hb : n + k ≤ 100000) :
    ∃ g cap w', (Builtin.append_ #[22, 3] ty #[v, .int .i64 (k : Int)]).run Tryd.prog w = .ok (.slice (some ⟨g, 0, none⟩) (n + k) cap) w' ∧
      (v.ownBlock = some g ∨ w.heap.size ≤ g) ∧ w.grownBy w' v.ownBlock ∧ w'.ownsRow 0 5 1 (.slice (some ⟨g, 0, none⟩) (n + k) cap) (n + k) (bys (L ++ List.replicate k 0)) := by
  obtain ⟨i0, hi, hz, hsz, hby⟩ := info_parts Tryd.info_u8
  have hLn : L.length = n := by have := hown.1; rw [bys_length] at this; omega
  have hw : IntKind.i64.wrap (k : Int) = k := by rw [IntKind.wrap_i64]; omega
  have hneg : ¬ ((k : Int) < 0) := by omega
  have h48i : ¬ (281474976710656 < (k : Int) * (i0.bytes : Int)) := by rw [hby]; omega
  have hns : ¬ (k * i0.size = 0) := by rw [hsz]; omega
  have hlen : (bys (L ++ List.replicate k 0)).length = (n + k) * 1 := by rw [bys_length, List.length_append, List.length_replicate, hLn]; omega
  have hap : bys (L ++ List.replicate k 0) = bys L ++ bys (List.replicate k 0) := by simp [bys]
  rcases hown.2 with ⟨rfl, h0⟩ | ⟨g, cap, cur, rfl, hbg, hg, hnc, hcm, hcs, htake⟩
  · omega
  · by_cases hroom : n + k ≤ cap
    · have hfit : n * i0.size + (bys (List.replicate k 0)).length ≤ cur.size := by rw [bys_length, List.length_replicate, hsz, hcs]; omega
      have hst := run_storeCells_at Tryd.prog g (n * i0.size) 5 (bys (List.replicate k 0)) 0 cur w hg (by simpa using hfit) (bys_one _)
      simp only [Nat.add_zero] at hst
      have hr : (Builtin.append_ #[22, 3] ty #[.slice (some ⟨g, 0, none⟩) n cap, .int .i64 (k : Int)]).run Tryd.prog w = .ok (.slice (some ⟨g, 0, none⟩) (n + k) cap) (w.setRow g (cur.toList.take (n * i0.size) ++ bys (List.replicate k 0) ++ cur.toList.drop (n * i0.size + (bys (List.replicate k 0)).length)).toArray) := by
        simp [Builtin.append_, run_underlying Tryd.underlying22, run_underlying Tryd.underlying3, sizeOf, typeInfo, zeroValue, hi, hz, asInt, asIntOf, hw, hneg, h48i, hns, hroom, Addr.add_lit, zeros_u8, hst]
      refine ⟨g, cap, _, hr, .inl rfl, ⟨rfl, rfl, rfl, by simp, fun j _ hj => setRow_other w g j _ (fun e => hj (by simp [Value.ownBlock, e]))⟩, ⟨hlen, .inr ⟨g, cap, _, rfl, hbg, setRow_heap w g cur _ 5 _ hg, hroom, hcm, ?_, ?_⟩⟩⟩
      · simp only [List.size_toArray, List.length_append, List.length_take, List.length_drop, Array.length_toList, bys_length, List.length_replicate]
        rw [hsz]
        omega
      · rw [hsz, htake, ← hap, ← hlen]
        exact List.take_left
    · have holds : ∀ j u, (bys L)[j]? = some u → w.drew.cell? ((⟨g, 0, none⟩ : Addr).add j) = some u := fun j u h => hown.cells (g := g) rfl j u h
      have hf := run_firstCells_some (P := Tryd.prog) w.drew i0.size n ⟨g, 0, none⟩ n cap (bys L) (by rw [bys_length, hLn, hsz]; omega) holds
      have hfits : Builtin.nextslicecap (n + k) cap * i0.bytes ≤ 281474976710656 := growslice_fits (by omega) (by rw [hby]; omega)
      have hr := Lib.run_append_grow_zeros (P := Tryd.prog) w 22 3 ty 5 i0 (.int .u8 0) .i64 .i64 Tryd.underlying22 Tryd.underlying3 hi hz (some ⟨g, 0, none⟩) n cap (bys L) hf k hk (by omega) (by omega) (by omega) (by rw [hby]; omega) hfits
      have hge := grownCap_ge w (n + k) cap 5
      refine ⟨_, _, _, hr, .inr (Nat.le_refl _), ⟨rfl, rfl, rfl, by simp, fun j hj _ => (World.grownBy_alloc w.drew _ none).block j hj (by simp)⟩, ⟨hlen, .inr ⟨w.heap.size, _, _, rfl, Nat.zero_le _, heap_alloc_new w.drew _, hge, grownCap_le_maxLen w (n + k) cap 5 (by unfold maxLen; omega), ?_, ?_⟩⟩⟩
      · simp only [Array.size_append, List.size_toArray, size_zeroCells, bys_length, hLn]
        show n + k * 1 + _ * 1 = _
        omega
      · simp only [Array.toList_append, zeros_u8]
        rw [← hap, ← hlen]
        exact List.take_left
theorem wpList_apZ (w : World) {ops : Array Oper} {rest : List Oper} {o : Oper} {a : Act} {Q : Exit → Act → World → Prop} (hg : o.guard = none) (s x : Operand)
    (hop : o.op = Op.call { callee := .builtin .append, args := #[s, x], argTypes := #[22, 3] }) (v : Value) (n k : Nat) (L : List Nat) (hs : a.eval s = v) (hx : a.eval x = .int .i64 (k : Int))
    (hown : w.ownsRow 0 5 1 v n (bys L)) (hn : 0 < n) (hk : 0 < k) (hb : n + k ≤ 100000)
    (hK : ∀ g cap w', (v.ownBlock = some g ∨ w.heap.size ≤ g) → w.grownBy w' v.ownBlock → w'.ownsRow 0 5 1 (.slice (some ⟨g, 0, none⟩) (n + k) cap) (n + k) (bys (L ++ List.replicate k 0)) →
      wpList Tryd.prog ops Q rest (a.put o.dst (.slice (some ⟨g, 0, none⟩) (n + k) cap)) w') :
    wpList Tryd.prog ops Q (o :: rest) a w := by
  obtain ⟨g, cap, w', hr, h1, h2, h3⟩ := run_apZ w o.type v n k L hown hn hk hb
  exact Lib.wpList_append_run w hg s x 22 3 hop v _ hs hx _ w' hr (hK g cap w' h1 h2 h3)
end Go.Proofs.YtpenggkefbbopaaDoor
