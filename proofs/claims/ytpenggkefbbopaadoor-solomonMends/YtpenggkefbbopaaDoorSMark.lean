import Derived.Test.YtpenggkefbbopaaDoorSDecode
import Derived.Test.YtpenggkefbbopaaDoorSEnc
namespace Go.Proofs.YtpenggkefbbopaaDoor
open Go.RowKit
set_option maxRecDepth 100000
set_option linter.unusedVariables false
set_option linter.unusedSimpArgs false

theorem Tryd.info_bool : (Tryd.prog.info? 4).map (fun i => (i.zero, i.size, i.bytes)) = some (some (.bool false), 1, 1) := by kernel_rfl
def bls (H : List Bool) : List Value := H.map Value.bool
theorem bls_length (H : List Bool) : (bls H).length = H.length := by simp [bls]
/-- Block g is a row of bools, the call's own. -/
def BlkB (w : World) (g : Nat) (H : List Bool) : Prop := w.heap[g]? = some (.cells (bls H).toArray 4)
theorem BlkB.lt {w : World} {g : Nat} {H : List Bool} (h : BlkB w g H) : g < w.heap.size := (Array.getElem?_eq_some_iff.1 h).1
theorem BlkB.cell {w : World} {g : Nat} {H : List Bool} (h : BlkB w g H) (i : Nat) (hi : i < H.length) : w.cell? ⟨g, i, none⟩ = some (.bool (bat H i)) := by
  rw [cell_of_row w g i _ _ _ h]
  unfold bls bat
  simp [hi]
theorem BlkB.free {w : World} {g : Nat} {H : List Bool} (h : BlkB w g H) (i : Nat) : w.frozen? ⟨g, i, none⟩ = false := frozen_of_row w g i _ _ h
theorem BlkB.set {w : World} {g : Nat} {H : List Bool} (h : BlkB w g H) (i : Nat) (x : Bool) : BlkB (w.setCell ⟨g, i, none⟩ (.bool x)) g (H.set i x) := by
  unfold BlkB
  rw [heap_setCell_same w g i _ _ _ h]
  simp [bls, List.map_set]
theorem BlkB.grown {w w' : World} {g : Nat} {H : List Bool} {r : Option Nat} (h : BlkB w g H) (hg : w.grownBy w' r) (hne : some g ≠ r) : BlkB w' g H := by
  unfold BlkB; rw [hg.block g h.lt hne]; exact h
theorem BlkB.rd {w : World} {g n : Nat} {H : List Bool} (h : BlkB w g H) (hl : H.length = n) (hm : n ≤ maxLen) : RdB w (some ⟨g, 0, none⟩) n n H :=
  ⟨hl, Nat.le_refl _, hm, fun _ => ⟨g, 0, rfl, h.lt, fun i hi => by rw [Nat.zero_add]; exact h.cell i (by omega)⟩⟩
theorem wpList_mkBool (w : World) {ops : Array Oper} {rest : List Oper} {o : Oper} {a : Act} {Q : Exit → Act → World → Prop} (hg : o.guard = none) (l c : Operand)
    (hop : o.op = Op.makeSlice 38 l c) (L C : Int) (n : Nat) (hl : a.eval l = .int .i64 L) (hc : a.eval c = .int .i64 C) (hL : L = n) (hC : C = n) (hn : n ≤ 281474976710656)
    (hK : ∀ w', BlkB w' w.heap.size (List.replicate n false) → w.grownBy w' none → wpList Tryd.prog ops Q rest (a.put o.dst (.slice (some ⟨w.heap.size, 0, none⟩) n n)) w') :
    wpList Tryd.prog ops Q (o :: rest) a w := by
  obtain ⟨i0, hi, hz0, hz1, hz2⟩ := info_parts Tryd.info_bool
  refine wpList_make_full w hg l c 38 hop w.heap.size 4 i0 (.bool false) 1 Tryd.underlying38 hi hz0 hz1 .i64 .i64 L C n hl hc hL hC (by rw [hz2]; omega) (by unfold maxLen; omega) (Nat.le_refl _) ?_
  intro w' hown hgr
  refine hK w' ?_ hgr
  rcases hown.2 with ⟨h, _⟩ | ⟨g, cap, cur, hv, _, hh, h1, _, h3, h4⟩
  · simp at h
  · simp only [Value.slice.injEq, Option.some.injEq, Addr.mk.injEq] at hv
    obtain ⟨⟨hgg, _⟩, _, hcap⟩ := hv
    subst hgg; subst hcap
    unfold BlkB
    rw [hh]
    have e1 : cur.toList = bls (List.replicate n false) := by
      have e0 : bls (List.replicate n false) = List.replicate n (Value.bool false) := by simp [bls]
      rw [e0]
      have e2 : (madeCells (Value.bool false).cells (n * 1)).toList = List.replicate n (Value.bool false) := by
        rw [Nat.mul_one]; exact toList_madeCells_one _ _
      rw [← e2, ← h4, List.take_of_length_le (by simp; omega)]
    rw [← e1]
theorem mark_nil (n : Nat) (w : World) (hn : n ≤ 100000) :
    Calls Tryd.prog 10 #[.slice none 0 0, .int .i64 n] w fun e w' => e = .returned (.tuple #[.slice (some ⟨w.heap.size, 0, none⟩) n n, .int .i64 0]) ∧ RdB w' (some ⟨w.heap.size, 0, none⟩) n n (List.replicate n false) ∧ w.grownBy w' none := by
  go_enter Tryd.func10, Tryd.ntmps10
  go_wp2
  refine wp_loop_rounds 1 ?_; rw [rounds_succ]
  go_wp2_with (at_make; refine wpList_mkBool _ rfl _ _ rfl _ _ n rfl rfl rfl rfl (by omega) ?_; intro w1 hb1 hg1)
  refine wp_loop_rounds 1 ?_; rw [rounds_succ]
  go_wp2
  go_ret2
  exact ⟨rfl, hb1.rd (by simp) (by unfold maxLen; omega), hg1⟩
theorem bat_none (n i : Nat) : bat (List.replicate n false) i = false := by
  unfold bat
  rw [List.getD_eq_getElem?_getD, List.getElem?_replicate]
  split <;> rfl
theorem cnt_none (n k : Nat) : cntB (List.replicate n false) k = 0 := by
  induction k with
  | zero => rfl
  | succ k ih => simp only [cntB, bat_none, ih]; rfl
theorem hol_none (n m k : Nat) : holN (List.replicate n false) m k = [1] := by
  induction k with
  | zero => rfl
  | succ k ih => simp only [holN, bat_none, ih]; rfl
theorem rowFits_noC (d c : Int) (w : World) (h : ¬ (1 ≤ c ∧ c ≤ 64)) :
    Calls Tryd.prog 8 #[.int .i64 d, .int .i64 c] w fun e w' => e = .returned (.bool false) ∧ w' = w := by
  by_cases h1 : 1 ≤ c
  · have h2 : ¬ c ≤ 64 := by omega
    clear h
    go_enter Tryd.func8, Tryd.ntmps8
    go_wp2
    go_ret
    exact ⟨rfl, rfl⟩
  · clear h
    go_enter Tryd.func8, Tryd.ntmps8
    go_wp2
    go_ret
    exact ⟨rfl, rfl⟩
theorem Decode_bad (a ah : Option Addr) (n cap m caph : Nat) (c : Int) (w : World) (hn : n ≤ 9223372036854775807) (hc1 : -9223372036854775808 ≤ c) (hc2 : c ≤ 9223372036854775807) (h : ¬ (1 ≤ c ∧ c ≤ 64 ∧ c < n ∧ n ≤ 255)) :
    Calls Tryd.prog 7 #[.slice a n cap, .int .i64 c, .slice ah m caph] w fun e w' => e = .returned (.tuple #[.slice none 0 0, .slice none 0 0, .int .i64 1]) ∧ w' = w := by
  by_cases hc : 1 ≤ c ∧ c ≤ 64
  · obtain ⟨h1, h2⟩ := hc
    have H := rowFits_no ((n : Int) - c) c w (by omega) (by omega) (by omega)
    clear h
    go_enter Tryd.func7, Tryd.ntmps7
    go_wp2_with (go_at_call 8; refine H.mono ?_; rintro e w' ⟨rfl, hw⟩; have hw := hw.symm; subst hw)
    go_ret3
    exact ⟨rfl, rfl⟩
  · have H := fun d => rowFits_noC d c w hc
    clear h
    go_enter Tryd.func7, Tryd.ntmps7
    go_wp2_with (go_at_call 8; refine (H _).mono ?_; rintro e w' ⟨rfl, hw⟩; have hw := hw.symm; subst hw)
    go_ret3
    exact ⟨rfl, rfl⟩
end Go.Proofs.YtpenggkefbbopaaDoor
