import Derived.Test.YtchbppidepapiaaMVr
import Derived.Test.YtchbppidepapiaaZBx
import Derived.Test.YtchbppidepapiaaZOp
namespace Go.Proofs.Ytchbppidepapiaa
open Go.RowKit
set_option maxRecDepth 100000
set_option linter.unusedVariables false
set_option linter.unusedSimpArgs false

theorem Try.info_booM : (Try.prog.info? 4).map (fun i => (i.zero, i.size, i.bytes)) = some (some (.bool false), 1, 1) := by kernel_rfl
def hat (H : List Bool) (k : Nat) : Bool := H.getD k false
def hls (H : List Bool) : List Value := H.map Value.bool
/-- Block g is a row of bools, the call's own. -/
def BlH (w : World) (g : Nat) (H : List Bool) : Prop := w.heap[g]? = some (.cells (hls H).toArray 4)
theorem BlH.lt {w : World} {g : Nat} {H : List Bool} (h : BlH w g H) : g < w.heap.size := (Array.getElem?_eq_some_iff.1 h).1
theorem BlH.cell {w : World} {g : Nat} {H : List Bool} (h : BlH w g H) (i : Nat) (hi : i < H.length) : w.cell? ⟨g, i, none⟩ = some (.bool (hat H i)) := by
  rw [cell_of_row w g i _ _ _ h]
  unfold hls hat
  simp [hi]
theorem BlH.free {w : World} {g : Nat} {H : List Bool} (h : BlH w g H) (i : Nat) : w.frozen? ⟨g, i, none⟩ = false := frozen_of_row w g i _ _ h
theorem BlH.set {w : World} {g : Nat} {H : List Bool} (h : BlH w g H) (i : Nat) (x : Bool) : BlH (w.setCell ⟨g, i, none⟩ (.bool x)) g (H.set i x) := by
  unfold BlH
  rw [heap_setCell_same w g i _ _ _ h]
  simp [hls, List.map_set]
theorem BlH.grown {w w' : World} {g : Nat} {H : List Bool} {r : Option Nat} (h : BlH w g H) (hg : w.grownBy w' r) (hne : some g ≠ r) : BlH w' g H := by
  unfold BlH; rw [hg.block g h.lt hne]; exact h
theorem hat_set (H : List Bool) (i j : Nat) (hi : i < H.length) : hat (H.set i true) j = (decide (i = j) || hat H j) := by
  unfold hat
  rw [List.getD_eq_getElem?_getD, List.getD_eq_getElem?_getD, List.getElem?_set]
  by_cases e : i = j
  · subst e; simp [hi]
  · simp [e]
theorem hat_none (n i : Nat) : hat (List.replicate n false) i = false := by
  unfold hat
  rw [List.getD_eq_getElem?_getD, List.getElem?_replicate]
  split <;> rfl
theorem wpList_mkH (w : World) {ops : Array Oper} {rest : List Oper} {o : Oper} {a : Act} {Q : Exit → Act → World → Prop} (hg : o.guard = none) (l c : Operand)
    (hop : o.op = Op.makeSlice 40 l c) (L C : Int) (n : Nat) (hl : a.eval l = .int .i64 L) (hc : a.eval c = .int .i64 C) (hL : L = n) (hC : C = n) (hn : n ≤ 281474976710656)
    (hK : ∀ w', BlH w' w.heap.size (List.replicate n false) → w.grownBy w' none → wpList Try.prog ops Q rest (a.put o.dst (.slice (some ⟨w.heap.size, 0, none⟩) n n)) w') :
    wpList Try.prog ops Q (o :: rest) a w := by
  obtain ⟨i0, hi, hz0, hz1, hz2⟩ := info_parts Try.info_booM
  refine wpList_make_full w hg l c 40 hop w.heap.size 4 i0 (.bool false) 1 Try.underlying40 hi hz0 hz1 .i64 .i64 L C n hl hc hL hC (by rw [hz2]; omega) (by unfold maxLen; omega) (Nat.le_refl _) ?_
  intro w' hown hgr
  refine hK w' ?_ hgr
  rcases hown.2 with ⟨h, _⟩ | ⟨g, cap, cur, hv, _, hh, h1, _, h3, h4⟩
  · simp at h
  · simp only [Value.slice.injEq, Option.some.injEq, Addr.mk.injEq] at hv
    obtain ⟨⟨hgg, _⟩, _, hcap⟩ := hv
    subst hgg; subst hcap
    unfold BlH
    rw [hh]
    have e1 : cur.toList = hls (List.replicate n false) := by
      have e0 : hls (List.replicate n false) = List.replicate n (Value.bool false) := by simp [hls]
      rw [e0]
      have e2 : (madeCells (Value.bool false).cells (n * 1)).toList = List.replicate n (Value.bool false) := by
        rw [Nat.mul_one]; exact toList_madeCells_one _ _
      rw [← e2, ← h4, List.take_of_length_le (by simp; omega)]
    rw [← e1]
/-- which of m things a raw number speaks of -/
def pkM (x : Int) (m : Nat) : Nat := ((if x < 0 then -(x + 1) else x) % (m : Int)).toNat
theorem pkM_lt (x : Int) (m : Nat) (h : 0 < m) : pkM x m < m := by
  unfold pkM
  have := Int.emod_lt_of_pos (if x < 0 then -(x + 1) else x) (show (0 : Int) < (m : Int) by omega)
  have := Int.emod_nonneg (if x < 0 then -(x + 1) else x) (show (m : Int) ≠ 0 by omega)
  omega
theorem pick_any (n : Int) (m : Nat) (w : World) (h1 : -9223372036854775808 ≤ n ∧ n ≤ 9223372036854775807) (ho : 0 < m) (ho2 : m ≤ 9223372036854775807) :
    Calls Try.prog 17 #[.int .i64 n, .int .i64 m] w fun e w' => e = .returned (.int .i64 (pkM n m : Nat)) ∧ w' = w := by
  obtain ⟨h1, h2⟩ := h1
  have hnz : ¬ (m : Int) = 0 := by omega
  by_cases hn : n < 0
  · go_enter Try.func17, Try.ntmps17
    go_wp2
    go_ret
    have p1 := Int.emod_nonneg (-(n + 1)) (show (m : Int) ≠ 0 by omega)
    have e : -((n + 1).tmod m) = (-(n + 1)) % m := by rw [← Int.neg_tmod, Int.tmod_eq_emod_of_nonneg (by omega)]
    refine ⟨?_, rfl⟩
    refine congrArg (fun z => Ending.returned (Value.int .i64 z)) (?_ : -((n + 1).tmod m) = _)
    rw [e]
    unfold pkM
    rw [if_pos hn]
    omega
  · go_enter Try.func17, Try.ntmps17
    go_wp2
    go_ret
    have p1 := Int.emod_nonneg n (show (m : Int) ≠ 0 by omega)
    refine ⟨?_, rfl⟩
    refine congrArg (fun z => Ending.returned (Value.int .i64 z)) (?_ : n % m = _)
    unfold pkM
    rw [if_neg (by omega)]
    omega
/-- a slice of pairs of numbers, as it is read -/
structure RdV (w : World) (a : Option Addr) (n cap : Nat) (F : Nat → Int × Int) : Prop where
  le : n ≤ cap
  max : cap ≤ maxLen
  in1 : ∀ i, i < n → -9223372036854775808 ≤ (F i).1 ∧ (F i).1 ≤ 9223372036854775807
  in2 : ∀ i, i < n → -9223372036854775808 ≤ (F i).2 ∧ (F i).2 ≤ 9223372036854775807
  at' : 0 < n → ∃ b off, a = some ⟨b, off, none⟩ ∧ b < w.heap.size ∧ ∀ i, i < n → w.cell? ⟨b, off + i * 2, none⟩ = some (.int .i64 (F i).1) ∧ w.cell? ⟨b, off + i * 2 + 1, none⟩ = some (.int .i64 (F i).2)
theorem RdV.at_in {w wr : World} {a : Option Addr} {n cap : Nat} {F : Nat → Int × Int} (h : RdV w a n cap F) (hg : w.grownBy wr none) (k : Nat) (hk : k < n) : ∃ b off, a = some ⟨b, off, none⟩ ∧ b < w.heap.size ∧ wr.cell? ⟨b, off + k * 2, none⟩ = some (.int .i64 (F k).1) ∧ wr.cell? ⟨b, off + k * 2 + 1, none⟩ = some (.int .i64 (F k).2) := by
  obtain ⟨b, off, e, hb, hc⟩ := h.at' (by omega)
  have hbl := hg.block b hb (by simp)
  exact ⟨b, off, e, hb, (World.cell?_of_block (w := w) hbl).trans (hc k hk).1, (World.cell?_of_block (w := w) hbl).trans (hc k hk).2⟩
theorem shown_pairs {w : World} {full : Bool} {N : Nat} {v : Value} (h : (Sh.slice 2 16 (.fcons 1 (.int .i64) (.fcons 1 (.int .i64) .fend))).shown w full v N) :
    ∃ a len cap F, v = .slice a len cap ∧ RdV w a len cap F ∧ cap + 1 ≤ N ∧ (full = true → cap * 16 ≤ reachBytes) := by
  have h : (Sh.slice 2 16 (.fcons 1 (.int .i64) (.fcons 1 (.int .i64) .fend))).met w full [v] N := h
  rcases h with ⟨rfl, e⟩ | ⟨x, len, cap, G, C, e, e', hl, hm, hf, hc⟩
  · cases e
    exact ⟨none, 0, 0, fun _ => (0, 0), rfl, ⟨Nat.le_refl _, Nat.zero_le _, fun i h => by omega, fun i h => by omega, fun h => by omega⟩, Nat.le_refl _, fun _ => by rw [Nat.zero_mul]; exact Nat.zero_le _⟩
  · cases e
    subst e'
    have each : ∀ i, i < cap → ∃ p : Int × Int, (w.cell? (x.add (i * 2)) = some (.int .i64 p.1) ∧ w.cell? (x.add (i * 2 + 1)) = some (.int .i64 p.2)) ∧ 1 ≤ G i ∧ (-9223372036854775808 ≤ p.1 ∧ p.1 ≤ 9223372036854775807) ∧ (-9223372036854775808 ≤ p.2 ∧ p.2 ≤ 9223372036854775807) := by
      intro i hi
      obtain ⟨h1, h2, n1, n2, e1, ⟨m1, z1, c1, k1⟩, n3, n4, e2, ⟨m2, z2, c2, k2⟩, _, m3⟩ := hc i hi
      match hC : C i, h1 with
      | [u, v], _ =>
        rw [hC] at h2 c1 c2
        have d1 := h2 0 (by decide)
        have d2 := h2 1 (by decide)
        simp at c1 c2 d1 d2
        subst c1 c2
        exact ⟨(z1, z2), ⟨d1, d2⟩, by omega, bounds_i64 k1, bounds_i64 k2⟩
    have hI : Inhabited (Int × Int) := ⟨(0, 0)⟩
    obtain ⟨F, hF⟩ := Go.Deep.choose_lt each
    have hG : ∀ i, i < cap → 1 ≤ G i := fun i hi => (hF i hi).2.1
    refine ⟨some x, len, cap, F, rfl, ⟨hl, hm, fun i hi => (hF i (by omega)).2.2.1, fun i hi => (hF i (by omega)).2.2.2, fun h0 => ?_⟩, ?_, hf⟩
    · obtain ⟨b, off, spot⟩ := x
      have hc0 := (hF 0 (by omega)).1.1
      have h0' : w.cell? (⟨b, off, spot⟩ : Addr) = some (.int .i64 (F 0).1) := by simpa [Addr.add] using hc0
      have hspot : spot = none := by simpa using World.cell?_spot h0'
      subst hspot
      refine ⟨b, off, rfl, World.block_lt_of_cell? w _ h0', fun i hi => ?_⟩
      obtain ⟨k1, k2⟩ := (hF i (by omega)).1
      rw [addr_add] at k1 k2
      exact ⟨k1, by rw [Nat.add_assoc]; exact k2⟩
    · have := sumN_le (F := G) (n := cap) hG
      omega
end Go.Proofs.Ytchbppidepapiaa
