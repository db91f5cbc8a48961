import Derived.Test.YtchbppidepapiaaDoorMMm
namespace Go.Proofs.YtchbppidepapiaaDoor
open Go.RowKit
set_option maxRecDepth 100000
set_option linter.unusedVariables false
set_option linter.unusedSimpArgs false

theorem tell_nil (w : World) : Calls Tryd.prog 12 #[.nilIface] w fun e w' => e = .returned (.int .i64 0) ∧ w' = w := by
  go_enter Tryd.func12, Tryd.ntmps12
  go_wp2
  go_ret
  exact ⟨rfl, rfl⟩
theorem as_nil (v : Value) (w : World) : Calls Tryd.prog 18 #[.nilIface, v] w fun e w' => e = .returned (.bool false) ∧ w' = w := by
  go_enter Tryd.func18, Tryd.ntmps18
  go_wp2
  go_ret
  exact ⟨rfl, rfl⟩
/-- 'make([]int, n)' -/
theorem wpList_mkN (w : World) {ops : Array Oper} {rest : List Oper} {o : Oper} {a : Act} {Q : Exit → Act → World → Prop} (hg : o.guard = none) (l c : Operand)
    (hop : o.op = Op.makeSlice 27 l c) (L C : Int) (n : Nat) (hl : a.eval l = .int .i64 L) (hc : a.eval c = .int .i64 C) (hL : L = n) (hC : C = n) (hn : n ≤ 17592186044416)
    (hK : ∀ w', BlZ w' w.heap.size (List.replicate n 0) → w.grownBy w' none → wpList Tryd.prog ops Q rest (a.put o.dst (.slice (some ⟨w.heap.size, 0, none⟩) n n)) w') :
    wpList Tryd.prog ops Q (o :: rest) a w := by
  obtain ⟨i0, hi, hz0, hz1, hz2⟩ := info_parts Tryd.info_int
  refine wpList_make_full w hg l c 27 hop w.heap.size 3 i0 (.int .i64 0) 1 Tryd.underlying27 hi hz0 hz1 .i64 .i64 L C n hl hc hL hC (by rw [hz2]; omega) (by unfold maxLen; omega) (Nat.le_refl _) ?_
  intro w' hown hgr
  refine hK w' ?_ hgr
  rcases hown.2 with ⟨h, _⟩ | ⟨g, cap, cur, hv, _, hh, h1, _, h3, h4⟩
  · simp at h
  · simp only [Value.slice.injEq, Option.some.injEq, Addr.mk.injEq] at hv
    obtain ⟨⟨hgg, _⟩, _, hcap⟩ := hv
    subst hgg; subst hcap
    unfold BlZ
    rw [hh]
    have e1 : cur.toList = (List.replicate n 0).map (fun (n : Nat) => Value.int .i64 (n : Int)) := by
      have e0 : (List.replicate n 0).map (fun (n : Nat) => Value.int .i64 (n : Int)) = List.replicate n (Value.int .i64 0) := by simp
      rw [e0]
      have e2 : (madeCells (Value.int .i64 0).cells (n * 1)).toList = List.replicate n (Value.int .i64 0) := by
        rw [Nat.mul_one]; exact toList_madeCells_one _ _
      rw [← e2, ← h4, List.take_of_length_le (by simp; omega)]
    rw [← e1]
theorem nth_rep (n i : Nat) : nth (List.replicate n 0) i = 0 := by
  unfold nth
  rw [List.getD_eq_getElem?_getD, List.getElem?_replicate]
  split <;> rfl
theorem mnew_ok (n : Nat) (w : World) (h1 : 1 ≤ n) (h2 : n ≤ 4096) : Calls Tryd.prog 11 #[.int .i64 n] w fun e w' => ∃ gm gc, e = .returned (.tuple #[.pointer (some ⟨gm, 0, none⟩), .nilIface]) ∧ Mem w' gm gc 0 (List.replicate n 0) ∧ w.grownBy w' none ∧ w.heap.size ≤ gm ∧ w.heap.size ≤ gc := by
  have hi1 : ¬ (n : Int) < 1 := by omega
  have hi2 : ¬ (4096 : Int) < (n : Int) := by omega
  go_enter Tryd.func11, Tryd.ntmps11
  go_wp2_with (first | (at_make; refine wpList_mkN w rfl (.tmp 11) (.tmp 11) rfl _ _ n rfl rfl rfl rfl (by omega) ?_; intro w1 hB1 g1))
  have b0 := BxS.new w1 64 #[.slice (some ⟨w.heap.size, 0, none⟩) n n, .int .i64 0]
  have g2 := World.grownBy_alloc w1 (.cells #[.slice (some ⟨w.heap.size, 0, none⟩) n n, .int .i64 0] 64) none
  go_ret2
  refine ⟨w1.heap.size, rfl, w.heap.size, ⟨by rw [List.length_replicate]; exact b0, hB1.grown g2 (by simp), Nat.ne_of_gt hB1.lt, fun k _ => by rw [nth_rep]; omega, by rw [List.length_replicate]; exact h1, by rw [List.length_replicate]; exact h2, by rw [List.length_replicate]; exact h1⟩, grown_trans g1 g2, g1.size, Nat.le_refl _⟩
end Go.Proofs.YtchbppidepapiaaDoor
