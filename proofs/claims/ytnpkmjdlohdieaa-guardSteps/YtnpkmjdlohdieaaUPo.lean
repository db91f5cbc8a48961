import Derived.Test.YtnpkmjdlohdieaaUVo
namespace Go.Proofs.Ytnpkmjdlohdieaa
open Go.RowKit
set_option maxRecDepth 100000
set_option linter.unusedVariables false
set_option linter.unusedSimpArgs false
/-- numbers in a row of the call's own, from some place of it on -/
structure TrO (w : World) (lo : Nat) (a : Option Addr) (n cap : Nat) (Tr : List Int) : Prop where
  len : Tr.length = n
  max : n ≤ cap ∧ cap ≤ maxLen
  at' : (a = none ∧ n = 0 ∧ cap = 0) ∨ ∃ g o cur, a = some ⟨g, o, none⟩ ∧ lo ≤ g ∧ w.heap[g]? = some (.cells cur 3 (0, 0)) ∧ o + cap = cur.size ∧ ∀ j u, (zys Tr)[j]? = some u → cur[o + j]? = some u
theorem TrO.of {w : World} {lo : Nat} {a : Option Addr} {n cap : Nat} {S : List Int} (h : AnsX 3 w lo a n cap (zys S)) : TrO w lo a n cap S := by
  have hl := h.len
  rw [zys_length] at hl
  refine ⟨hl, h.max, ?_⟩
  rcases h.own.2 with ⟨h1, h2⟩ | ⟨g, cap', cur, h1, _, h3, _, _, h6, h7⟩
  · simp only [Value.slice.injEq] at h1; exact .inl h1
  · simp only [Value.slice.injEq] at h1
    obtain ⟨rfl, _, rfl⟩ := h1
    refine .inr ⟨g, 0, cur, rfl, h.new g rfl, h3, by omega, fun j u hu => ?_⟩
    rw [Nat.zero_add]
    rw [← h7, List.getElem?_take] at hu
    split at hu
    · simpa using hu
    · cases hu
theorem TrO.rd {w : World} {lo : Nat} {a : Option Addr} {n cap : Nat} {S : List Int} (h : TrO w lo a n cap S) : RdX w a n cap (zys S) := by
  refine ⟨by rw [zys_length]; exact h.len, h.max.1, h.max.2, fun e => ?_, zys_one S, fun h0 => ?_⟩
  · rcases h.at' with h1 | ⟨g, o, cur, e', _⟩
    · exact h1.2.2
    · rw [e] at e'; cases e'
  · rcases h.at' with h1 | ⟨g, o, cur, e', _, hh, _, hc⟩
    · omega
    · refine ⟨g, o, e', (Array.getElem?_eq_some_iff.1 hh).1, fun i u hu => ?_⟩
      rw [cell_of_row _ _ _ _ _ _ hh]
      exact hc i u hu
def TrO.bl (a : Option Addr) (i : Nat) : Prop := ∃ o s, a = some ⟨i, o, s⟩
theorem TrO.kept {w w' : World} {lo : Nat} {a : Option Addr} {n cap : Nat} {S : List Int} {r : Option Nat} (h : TrO w lo a n cap S) (hg : w.grownBy w' r) (hne : ∀ g o, a = some ⟨g, o, none⟩ → r ≠ some g) : TrO w' lo a n cap S := by
  refine ⟨h.len, h.max, ?_⟩
  rcases h.at' with h1 | ⟨g, o, cur, e, hl, hh, hs, hc⟩
  · exact .inl h1
  · refine .inr ⟨g, o, cur, e, hl, ?_, hs, hc⟩
    rw [hg.block g (Array.getElem?_eq_some_iff.1 hh).1 (fun e2 => hne g o e e2.symm)]
    exact hh
theorem run_pushO (g o n cap b : Nat) (z : Int) (v0 : Value) (w : World) (hb : w.cell? ⟨b, 0, none⟩ = some (.int .i64 z)) (hc : w.cell? ⟨g, o + n, none⟩ = some v0) (hf : w.frozen? ⟨g, o + n, none⟩ = false) (hfit : n + 1 ≤ cap) (ty : TypeId) :
    (Builtin.append_ #[26, 26] ty #[.slice (some ⟨g, o, none⟩) n cap, .slice (some ⟨b, 0, none⟩) 1 1]).run Try.prog w = .ok (.slice (some ⟨g, o, none⟩) (n + 1) cap) (w.setCell ⟨g, o + n, none⟩ (.int .i64 z)) := by
  have hb' : w.cell? ((⟨b, 0, none⟩ : Addr).add 0) = some (.int .i64 z) := by rw [addr_add]; exact hb
  have hst : (store ⟨g, o + n, none⟩ (.int .i64 z)).run Try.prog w = .ok () (w.setCell ⟨g, o + n, none⟩ (.int .i64 z)) := by
    simp [go_sem, hc, hf]
  go_simp
/-- 'append(v, z)', v in a row of the call's own, from some place of it on -/
theorem wpList_psO (w : World) (z : Int) {ops : Array Oper} {rest : List Oper} {o : Oper} {a : Act} {Q : Exit → Act → World → Prop} (hg : o.guard = none) (s x : Operand)
    (hop : o.op = Op.call { callee := .builtin .append, args := #[s, x], argTypes := #[26, 26] }) (ao : Option Addr) (m co lo : Nat) (Tr : List Int) (hs : a.eval s = .slice ao m co)
    (hA : TrO w lo ao m co Tr) (hlo : lo ≤ w.heap.size) (hx : a.eval x = .slice (some ⟨w.heap.size, 0, none⟩) 1 1) (hb : m + 1 ≤ 1000)
    (hK : ∀ a' c' w' r, TrO w' lo a' (m + 1) c' (Tr ++ [z]) → w.grownBy w' r → (∀ y, r = some y → TrO.bl ao y) → (∀ y, TrO.bl a' y → TrO.bl ao y ∨ w.heap.size ≤ y) → wpList Try.prog ops Q rest (a.put o.dst (.slice a' (m + 1) c')) w') :
    wpList Try.prog ops Q (o :: rest) a (w.alloc (.cells #[.int .i64 z] 3)) := by
  obtain ⟨i0, hi, hz0, hz1, hz2⟩ := info_parts Try.elI.inf
  have gA := World.grownBy_alloc w (.cells #[.int .i64 z] 3) none
  have hR := rdX_one w 3 (.int .i64 z) rfl
  have hl := hA.len
  have ezs : zys (Tr ++ [z]) = zys Tr ++ [.int .i64 z] := by simp [zys]
  by_cases hfit : m + 1 ≤ co
  · rcases hA.at' with ⟨_, _, h0⟩ | ⟨g, of', cur, rfl, hgl, hh, hcs, hc⟩
    · omega
    · have hh2 : (w.alloc (.cells #[.int .i64 z] 3)).heap[g]? = some (.cells cur 3 (0, 0)) := by
        rw [gA.block g (Array.getElem?_eq_some_iff.1 hh).1 (by simp)]; exact hh
      have hc0 : (w.alloc (.cells #[.int .i64 z] 3)).cell? ⟨g, of' + m, none⟩ = some cur[of' + m] := by
        rw [cell_of_row _ _ _ _ _ _ hh2, Array.getElem?_eq_getElem (by omega)]
      have hf := frozen_of_row (w.alloc (.cells #[.int .i64 z] 3)) g (of' + m) _ _ hh2
      obtain ⟨_, _, e', _, hcx⟩ := hR.at' (by decide)
      cases e'
      have hrun := fun ty => run_pushO g of' m co w.heap.size z _ _ (hcx 0 _ rfl) hc0 hf hfit ty
      have hset : ((w.alloc (.cells #[.int .i64 z] 3)).setCell ⟨g, of' + m, none⟩ (.int .i64 z)).heap[g]? = some (.cells (cur.setIfInBounds (of' + m) (.int .i64 z)) 3 (0, 0)) := heap_setCell_same _ g (of' + m) _ _ _ hh2
      refine wpList_plain hg fun K hK' => ?_
      unfold Oper.wp
      simp [execOp, hop, resolve, invoke, builtin, hs, hx, hrun, Result.andThen]
      refine hK' _ _ (hK _ _ _ (some g) ⟨by simp [hl], ⟨hfit, hA.max.2⟩, .inr ⟨g, of', _, rfl, hgl, hset, by simpa using hcs, ?_⟩⟩ (grown_trans (grown_weak gA _) (grown_set _ _ _ _)) (fun y e => ⟨of', none, by have e : g = y := Option.some.inj e; rw [e]⟩) (fun y h => .inl h))
      intro j u hu
      rw [ezs] at hu
      by_cases hj : j < m
      · rw [List.getElem?_append_left (by rw [zys_length]; omega)] at hu
        have := hc j u hu
        rw [Array.getElem?_setIfInBounds_ne (by omega)]
        exact this
      · have hj2 : j < m + 1 := by
          have := (List.getElem?_eq_some_iff.1 hu).1
          simp [zys_length, hl] at this; omega
        obtain rfl : j = m := by omega
        rw [List.getElem?_append_right (by rw [zys_length]; omega), zys_length, hl, Nat.sub_self] at hu
        have hu : some (Value.int .i64 z) = some u := hu
        rw [← hu]
        exact Array.getElem?_setIfInBounds_self_of_lt (by omega)
  · refine wpList_append_grows _ hg s x 26 hop 3 i0 (.int .i64 0) 1 8 Try.underlying26 hi hz0 hz1 hz2 rfl (by decide) ao m co (zys Tr) (by rw [hs]) (fun e => ?_) (by rw [zys_length]; omega) (fun b e j u hu => ?_) ⟨w.heap.size, 0, none⟩ 1 1 [.int .i64 z] hx rfl ?_ hR.one (by omega) (by unfold maxLen; omega) (by omega) ?_
    · rcases hA.at' with h1 | ⟨g, o', cur, e', _⟩
      · exact ⟨h1.2.1, h1.2.2⟩
      · rw [e] at e'; cases e'
    · have hrd := (hA.rd.keep gA)
      have hj : j < (zys Tr).length := (List.getElem?_eq_some_iff.1 hu).1
      rw [zys_length] at hj
      obtain ⟨b', off, e', _, hc⟩ := hrd.at' (by omega)
      rw [e'] at e
      cases e
      rw [addr_add]
      exact hc j u hu
    · intro j u hu
      obtain ⟨b, off, e', _, hc⟩ := hR.at' (by decide)
      cases e'
      rw [addr_add]
      exact hc j u hu
    · intro v' w' hown hgr
      have hsz := gA.size
      obtain ⟨a', c', rfl, hA'⟩ := own_ansX hown (fun u hu => by
        rcases List.mem_append.1 hu with h | h
        · exact zys_one _ u h
        · exact hR.one u h)
      rw [← ezs] at hA'
      refine hK a' c' w' none (TrO.of (hA'.low (by omega))) (grown_trans gA hgr) (fun y e => by cases e) (fun y h => ?_)
      obtain ⟨oo, ss, e⟩ := h
      rcases hA'.cases with ⟨rfl, _⟩ | ⟨g, rfl, hl2, _⟩
      · cases e
      · cases e
        exact .inr (by omega)
end Go.Proofs.Ytnpkmjdlohdieaa
