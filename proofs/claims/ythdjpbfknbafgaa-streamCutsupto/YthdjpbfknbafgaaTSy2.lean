import Derived.Test.YthdjpbfknbafgaaTSy1
import Derived.Laws.EntriesVeiled
namespace Go.Proofs.Ythdjpbfknbafgaa
open Go.RowKit
set_option maxRecDepth 100000
set_option linter.unusedVariables false
set_option linter.unusedSimpArgs false

/-- a store of one value into one who listens -/
theorem wpList_stS (w : World) {ops : Array Oper} {rest : List Oper} {o : Oper} {a : Act} {Q : Exit → Act → World → Prop} (hg : o.guard = none) (t : TypeId) (p x : Operand) (hop : o.op = Op.store t p x)
    (g i : Nat) (A A' : Array Value) (v : Value) (hp : a.eval p = .pointer (some ⟨g, i, none⟩)) (hx : a.eval x = v) (hB : w.heap[g]? = some (.cells A 65))
    (hst : ∀ w' : World, (∃ u, w'.cell? ⟨g, i, none⟩ = some u) → w'.frozen? ⟨g, i, none⟩ = false → (Instr.storeAt t (.pointer (some ⟨g, i, none⟩)) v).run Try.prog w' = .ok () (w'.setCell ⟨g, i, none⟩ v)) (hi : i < A.size) (hA : A.setIfInBounds i v = A')
    (hK : ∀ w', w'.heap[g]? = some (.cells A' 65) → w.grownBy w' (some g) → wpList Try.prog ops Q rest (a.put o.dst undef) w') :
    wpList Try.prog ops Q (o :: rest) a w := by
  refine wpList_plain hg fun K hK' => ?_
  have hc : ∃ u, w.cell? ⟨g, i, none⟩ = some u := ⟨A[i], by rw [cell_of_row w g i _ _ _ hB]; simp [hi]⟩
  have hf := frozen_of_row w g i _ _ hB
  unfold Oper.wp
  simp [execOp, hop, hp, hx, hst w hc hf, Result.andThen]
  exact hK' _ _ (hK _ (by rw [heap_setCell_same w g i _ _ _ hB, hA]) (grown_set w g i v))
theorem st_int (g i : Nat) (n : Int) (w : World) (hc : ∃ u, w.cell? ⟨g, i, none⟩ = some u) (hf : w.frozen? ⟨g, i, none⟩ = false) : (Instr.storeAt 3 (.pointer (some ⟨g, i, none⟩)) (.int .i64 n)).run Try.prog w = .ok () (w.setCell ⟨g, i, none⟩ (.int .i64 n)) := by
  obtain ⟨u, hc⟩ := hc
  simp [go_sem, hc, hf]
theorem st_bool (g i : Nat) (b : Bool) (w : World) (hc : ∃ u, w.cell? ⟨g, i, none⟩ = some u) (hf : w.frozen? ⟨g, i, none⟩ = false) : (Instr.storeAt 4 (.pointer (some ⟨g, i, none⟩)) (.bool b)).run Try.prog w = .ok () (w.setCell ⟨g, i, none⟩ (.bool b)) := by
  obtain ⟨u, hc⟩ := hc
  simp [go_sem, hc, hf]
theorem st_u64 (g i : Nat) (n : Int) (w : World) (hc : ∃ u, w.cell? ⟨g, i, none⟩ = some u) (hf : w.frozen? ⟨g, i, none⟩ = false) : (Instr.storeAt 63 (.pointer (some ⟨g, i, none⟩)) (.int .u64 n)).run Try.prog w = .ok () (w.setCell ⟨g, i, none⟩ (.int .u64 n)) := by
  obtain ⟨u, hc⟩ := hc
  simp [go_sem, hc, hf]
theorem st_sl (g i : Nat) (p : Option Addr) (l c : Nat) (w : World) (hc : ∃ u, w.cell? ⟨g, i, none⟩ = some u) (hf : w.frozen? ⟨g, i, none⟩ = false) : (Instr.storeAt 25 (.pointer (some ⟨g, i, none⟩)) (.slice p l c)).run Try.prog w = .ok () (w.setCell ⟨g, i, none⟩ (.slice p l c)) := by
  obtain ⟨u, hc⟩ := hc
  simp [go_sem, hc, hf]
theorem st_fn (g i k : Nat) (w : World) (hc : ∃ u, w.cell? ⟨g, i, none⟩ = some u) (hf : w.frozen? ⟨g, i, none⟩ = false) : (Instr.storeAt 62 (.pointer (some ⟨g, i, none⟩)) (.func (.func k) #[] #[])).run Try.prog w = .ok () (w.setCell ⟨g, i, none⟩ (.func (.func k) #[] #[])) := by
  obtain ⟨u, hc⟩ := hc
  simp [go_sem, hc, hf]
section
variable (L F H M k : Nat) (lk : Bool) (tk la p : Nat) (tu : Bool) (mi : Nat) (d : Value)
theorem sy4 (k' : Nat) : (syA L F H M k lk tk la p tu mi d).setIfInBounds 4 (.func (.func k') #[] #[]) = syA L F H M k' lk tk la p tu mi d := rfl
theorem sy5 (b : Bool) : (syA L F H M k lk tk la p tu mi d).setIfInBounds 5 (.bool b) = syA L F H M k b tk la p tu mi d := rfl
theorem sy6 (n : Nat) : (syA L F H M k lk tk la p tu mi d).setIfInBounds 6 (.int .i64 n) = syA L F H M k lk n la p tu mi d := rfl
theorem sy7 (n : Nat) : (syA L F H M k lk tk la p tu mi d).setIfInBounds 7 (.int .u64 n) = syA L F H M k lk tk n p tu mi d := rfl
theorem sy8 (n : Nat) : (syA L F H M k lk tk la p tu mi d).setIfInBounds 8 (.int .i64 n) = syA L F H M k lk tk la n tu mi d := rfl
theorem sy9 (b : Bool) : (syA L F H M k lk tk la p tu mi d).setIfInBounds 9 (.bool b) = syA L F H M k lk tk la p b mi d := rfl
theorem sy10 (n : Nat) : (syA L F H M k lk tk la p tu mi d).setIfInBounds 10 (.int .i64 n) = syA L F H M k lk tk la p tu n d := rfl
theorem sy11 (v : Value) : (syA L F H M k lk tk la p tu mi d).setIfInBounds 11 v = syA L F H M k lk tk la p tu mi v := rfl
theorem syS : (syA L F H M k lk tk la p tu mi d).size = 12 := rfl
end
set_option maxHeartbeats 1000000 in
theorem search_any (g L F H M k : Nat) (lk : Bool) (tk la p : Nat) (tu : Bool) (mi : Nat) (d : Value) (z : Int) (q : Nat) (hz : z = (q : Int)) (w : World) (h : SyB w g L F H M k lk tk la p tu mi d) :
    Calls Try.prog 25 #[.pointer (some ⟨g, 0, none⟩), .int .i64 z] w fun e w' => e = .returned (.tuple #[]) ∧ SyB w' g L F H M 32 false tk la q false 0 d ∧ w.grownBy w' (some g) := by
  subst hz
  go_enter Try.func25, Try.ntmps25
  have t1 : True := trivial
  go_wp2_with (first
    | (have _t := t1; clear t1; refine wpList_stS _ rfl _ (.tmp 8) (.tmp 6) rfl g 8 _ _ _ rfl rfl h (st_int g 8 _) (by rw [syS]; decide) (sy8 ..) ?_; intro w1 h1 g1; clear h; have t2 : True := trivial)
    | (have _t := t2; clear t2; refine wpList_stS _ rfl _ (.tmp 10) (.const (.bool false)) rfl g 5 _ _ _ rfl rfl h1 (st_bool g 5 _) (by rw [syS]; decide) (sy5 ..) ?_; intro w2 h2 g2; clear h1; have t3 : True := trivial)
    | (have _t := t3; clear t3; refine wpList_stS _ rfl _ (.tmp 14) (.const (.bool false)) rfl g 9 _ _ _ rfl rfl h2 (st_bool g 9 _) (by rw [syS]; decide) (sy9 ..) ?_; intro w3 h3 g3; clear h2; have t4 : True := trivial)
    | (have _t := t4; clear t4; refine wpList_stS _ rfl _ (.tmp 16) (.const (.int .i64 0)) rfl g 10 _ _ _ rfl rfl h3 (st_int g 10 _) (by rw [syS]; decide) (sy10 (n := 0) ..) ?_; intro w4 h4 g4; clear h3; have t5 : True := trivial)
    | (have _t := t5; clear t5; refine wpList_stS _ rfl _ (.tmp 19) (.func 32) rfl g 4 _ _ _ rfl rfl h4 (st_fn g 4 _) (by rw [syS]; decide) (sy4 ..) ?_; intro w5 h5 g5; clear h4))
  go_end0
  exact ⟨rfl, h5, grown_trans g1 (grown_trans g2 (grown_trans g3 (grown_trans g4 g5)))⟩
set_option maxHeartbeats 1000000 in
theorem begin_any (g L F H M k : Nat) (lk : Bool) (tk la p : Nat) (tu : Bool) (mi : Nat) (d : Value) (z y : Int) (q m : Nat) (t : Bool) (hz : z = (q : Int)) (hy : y = (m : Int)) (hL : L ≤ 2048) (w : World) (h : SyB w g L F H M k lk tk la p tu mi d) :
    Calls Try.prog 37 #[.pointer (some ⟨g, 0, none⟩), .int .i64 z, .bool t, .int .i64 y] w fun e w' => e = .returned (.tuple #[]) ∧ ∃ gd, w.heap.size ≤ gd ∧ SyB w' g L F H M 40 true tk la q t m (.slice (some ⟨gd, 0, none⟩) 0 L) ∧ w'.ownsRow 0 5 1 (.slice (some ⟨gd, 0, none⟩) 0 L) 0 [] ∧ w.grownBy w' (some g) := by
  subst hz; subst hy
  obtain ⟨i0, hi, hz0, hz1, hz2⟩ := info_parts Try.info_u8
  have h4c : ∀ w', SyB w' g L F H M k true tk la q t m d → w'.cell? ⟨g, 0, none⟩ = some (.int .i64 L) := fun w' h => h.c 0 (.int .i64 L) rfl
  have hgl := h.lt
  have t1 : True := trivial
  go_enter Try.func37, Try.ntmps37
  go_wp2_with (first
    | (have _t := t1; clear t1; refine wpList_stS _ rfl _ (.tmp 12) (.tmp 10) rfl g 8 _ _ _ rfl rfl h (st_int g 8 _) (by rw [syS]; decide) (sy8 ..) ?_; intro w1 h1 g1; have t2 : True := trivial)
    | (have _t := t2; clear t2; refine wpList_stS _ rfl _ (.tmp 14) (.const (.bool true)) rfl g 5 _ _ _ rfl rfl h1 (st_bool g 5 _) (by rw [syS]; decide) (sy5 ..) ?_; intro w2 h2 g2; have t3 : True := trivial)
    | (have _t := t3; clear t3; refine wpList_stS _ rfl _ (.tmp 20) (.tmp 17) rfl g 9 _ _ _ rfl rfl h2 (st_bool g 9 _) (by rw [syS]; decide) (sy9 ..) ?_; intro w3 h3 g3; have t4 : True := trivial)
    | (have _t := t4; clear t4; refine wpList_stS _ rfl _ (.tmp 22) (.tmp 18) rfl g 10 _ _ _ rfl rfl h3 (st_int g 10 _) (by rw [syS]; decide) (sy10 ..) ?_; intro w4 h4 g4; have c0 := h4c w4 h4; have t5 : True := trivial)
    | (at_make; have _t := t5; clear t5; refine wpList_make_own _ rfl _ _ 25 rfl 0 5 i0 (.int .u8 0) 1 Try.underlying25 hi hz0 hz1 .i64 .i64 (L : Int) L rfl rfl rfl (by rw [hz2]; omega) (by unfold maxLen; omega) (Nat.zero_le _) ?_; intro w5 hown5 g5; have h5 := SyB.keep (k := k) (lk := true) (tk := tk) (la := la) (p := q) (tu := t) (mi := m) (d := d) h4 g5; have t6 : True := trivial)
    | (have _t := t6; clear t6; refine wpList_stS _ rfl _ (.tmp 31) (.tmp 29) rfl g 11 _ _ _ rfl rfl h5 (st_sl g 11 _ _ _) (by rw [syS]; decide) (sy11 ..) ?_; intro w6 h6 g6; have t7 : True := trivial)
    | (have _t := t7; clear t7; refine wpList_stS _ rfl _ (.tmp 34) (.func 40) rfl g 4 _ _ _ rfl rfl h6 (st_fn g 4 _) (by rw [syS]; decide) (sy4 ..) ?_; intro w7 h7 g7))
  go_end0
  have g04 := grown_trans g1 (grown_trans g2 (grown_trans g3 g4))
  have hsz := g04.size
  have hne : some g ≠ some w4.heap.size := by simp; omega
  have r6 := hown5.kept g6 (.inr (by simp only [Value.ownBlock]; exact fun e => hne e.symm))
  have r7 := r6.kept g7 (.inr (by simp only [Value.ownBlock]; exact fun e => hne e.symm))
  exact ⟨rfl, _, hsz, h7, r7, grown_trans g04 (grown_trans (grown_weak g5 _) (grown_trans g6 g7))⟩
set_option maxHeartbeats 1000000 in
theorem expect_any (g L F H M k : Nat) (lk : Bool) (tk la p : Nat) (tu : Bool) (mi : Nat) (d : Value) (w : World) (h : SyB w g L F H M k lk tk la p tu mi d) :
    Calls Try.prog 42 #[.pointer (some ⟨g, 0, none⟩)] w fun e w' => e = .returned (.tuple #[]) ∧ SyB w' g L F H M 43 lk tk la tk tu mi (.slice none 0 0) ∧ w.grownBy w' (some g) := by
  have c6 := h.c 6 (.int .i64 tk) rfl
  have t1 : True := trivial
  go_enter Try.func42, Try.ntmps42
  go_wp2_with (first
    | (have _t := t1; clear t1; refine wpList_stS _ rfl _ (.tmp 9) (.tmp 7) rfl g 8 _ _ _ rfl rfl h (st_int g 8 _) (by rw [syS]; decide) (sy8 ..) ?_; intro w1 h1 g1; have t2 : True := trivial)
    | (have _t := t2; clear t2; refine wpList_stS _ rfl _ (.tmp 11) (.const (.slice none 0 0)) rfl g 11 _ _ _ rfl rfl h1 (st_sl g 11 _ _ _) (by rw [syS]; decide) (sy11 ..) ?_; intro w2 h2 g2; have t3 : True := trivial)
    | (have _t := t3; clear t3; refine wpList_stS _ rfl _ (.tmp 14) (.func 43) rfl g 4 _ _ _ rfl rfl h2 (st_fn g 4 _) (by rw [syS]; decide) (sy4 ..) ?_; intro w3 h3 g3))
  go_end0
  exact ⟨rfl, h3, grown_trans g1 (grown_trans g2 g3)⟩
end Go.Proofs.Ythdjpbfknbafgaa
