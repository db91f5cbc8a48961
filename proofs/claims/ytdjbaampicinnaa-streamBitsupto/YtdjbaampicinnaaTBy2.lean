import Derived.RangeFuncNested
import Derived.RangeFuncBound
import Derived.RangeFuncCalls
import Derived.RangeFuncLeaves
import Derived.RangeFuncBox
import Derived.Shelf.Abstract
import Derived.Shelf.RegionOpen
import Derived.OwnWalkIn
import Derived.TacticsInMore
import Derived.LoopNIn
import Derived.LoopIn
import Derived.Maps.AppendAt
import Derived.Test.YtdjbaampicinnaaTBy1
namespace Go.Proofs.Ytdjbaampicinnaa
open Go.RowKit Go.Shelf
set_option maxRecDepth 100000
set_option linter.unusedVariables false
set_option linter.unusedSimpArgs false
attribute [local go_sem] Oper.semAt_some

/-- the blocks that p names lie as they lay -/
def KeepB (p : Nat → Prop) (W W' : World) : Prop := ∀ k, p k → W'.heap[k]? = W.heap[k]?
theorem KeepB.refl (p : Nat → Prop) (W : World) : KeepB p W W := fun _ _ => rfl
theorem KeepB.trans {p : Nat → Prop} {A B C : World} (h : KeepB p A B) (k : KeepB p B C) : KeepB p A C := fun i hi => (k i hi).trans (h i hi)
theorem KeepB.cell {p : Nat → Prop} {W W' : World} (h : KeepB p W W') {a : Addr} (ha : p a.block) : W'.cell? a = W.cell? a := World.cell?_of_block (h _ ha)
theorem KeepB.put {p : Nat → Prop} {w : World} (hp : ∀ k, p k → k < w.heap.size) (W : World) (l : Nat) (o o' : Obj) (hl : w.heap.size ≤ l) (_ : W.heap[l]? = some o) (_ : o.isCells = false) (_ : o.isWalk = false) : KeepB p W (W.putObj l o') :=
  fun k hk => World.putObj_heap_other (by have := hp k hk; omega)
/-- the numbers below m, as pieces -/
abbrev Pc (m : Nat) := { k : Nat // k < m }
set_option maxHeartbeats 1000000 in
theorem pieces1_in (n l B1 B2 b off m cap : Nat) (p : Nat → Prop) (hn : 1 ≤ n) (hB1 : p B1) (hB2 : p B2) (hcap : 8 * m ≤ cap) (hmax : 8 * m ≤ 140737488351232) (J Jx : List (Pc m) → World → Prop)
    (hY : ∀ pre x W, J pre W → pre.length < m → YieldAt Fence.wide (n - 1) Try.prog l #[.slice (some ⟨b, off + 8 * x.1, none⟩) 8 (cap - 8 * x.1)] W fun e W' =>
      (e = .returned (.bool true) ∧ J (pre ++ [x]) W' ∧ KeepB p W W') ∨ (e = .returned (.bool false) ∧ Jx (pre ++ [x]) W'))
    (W : World) (c1 : W.cell? ⟨B1, 0, none⟩ = some (.slice (some ⟨b, off, none⟩) (8 * m : Nat) cap)) (c2 : W.cell? ⟨B2, 0, none⟩ = some (.int .i64 8)) (h0 : J [] W) :
    CallsIn Fence.wide n Try.prog 19 #[.func (.yield l) #[] #[], .pointer (some ⟨B1, 0, none⟩), .pointer (some ⟨B2, 0, none⟩)] W fun e W' => (∃ v, e = .returned v) ∧
      ((∃ ys : List (Pc m), ys.map (·.1) = List.range m ∧ J ys W') ∨ (∃ pre, True ∧ Jx pre W')) := by
  refine callsIn_of_wp Try.func19 rfl trivial ?_ rfl
  simp only [Try.ntmps19, List.size_toArray, List.length_cons, List.length_nil, Nat.reduceAdd, Nat.reduceSub, Array.replicate_succ, Array.replicate_zero, List.push_toArray, List.append_toArray, List.nil_append, List.cons_append]
  gi_wp2
  gi_loopw [4] (fun i wr => ∃ (k : Nat) (pre : List (Pc m)), k ≤ m ∧ i = .int .i64 (8 * k : Nat) ∧ pre.map (·.1) = List.range k ∧ J pre wr ∧ KeepB p W wr) (fun i _ => 8 * m - (intOf i).toNat)
  case atStart => exact ⟨0, [], Nat.zero_le _, rfl, rfl, h0, KeepB.refl _ _⟩
  case round =>
    obtain ⟨k, pre, hk, rfl, hpre, hJs, hbl⟩ := hrel
    have d1 := (hbl.cell (a := ⟨B1, 0, none⟩) hB1).trans c1
    have d2 := (hbl.cell (a := ⟨B2, 0, none⟩) hB2).trans c2
    have HPre : Hid (pre.map (·.1) = List.range k) := hpre
    have hpl : pre.length = k := by have := congrArg List.length hpre; simpa using this
    clear hpre
    by_cases hlt : k < m
    · obtain ⟨fn, tmps, assign, body, hy, hR⟩ := hY pre ⟨k, hlt⟩ wr hJs (by omega)
      dsimp only at hy
      have hne : ¬ cap = 8 * k := by omega
      have hk8 : 8 * k < 8 * m := by omega
      have ha1 : ((8 * k : Nat) : Int) + 8 ≤ (cap : Int) := by omega
      gi_wp2
      refine hR.mono ?_
      rintro e W3 (⟨rfl, hJ3, hk3⟩ | ⟨rfl, hJx3⟩)
      · have d3 := (hk3.cell (a := ⟨B2, 0, none⟩) hB2).trans d2
        gi_wp2
        go_roundw
        case rel => exact ⟨k + 1, pre ++ [⟨k, hlt⟩], by omega, by exact congrArg _ (by omega), by rw [List.map_append, HPre.out, List.range_succ]; rfl, hJ3, hbl.trans hk3⟩
        case measure => simp [intOf]; omega
      · gi_wp2
        refine bodyPost_ret (results_none rfl _ _ _) rfl ?_
        exact ⟨⟨_, rfl⟩, .inr ⟨_, trivial, hJx3⟩⟩
    · obtain rfl : k = m := by omega
      gi_wp2
      go_end0
      exact ⟨⟨_, rfl⟩, .inl ⟨pre, HPre.out, hJs⟩⟩
set_option maxHeartbeats 1000000 in
theorem pieces0_in (n l B1 B2 cap : Nat) (ao : Option Addr) (hn : 1 ≤ n) (J Jx : List (Pc 0) → World → Prop)
    (W : World) (c1 : W.cell? ⟨B1, 0, none⟩ = some (.slice ao 0 cap)) (h0 : J [] W) :
    CallsIn Fence.wide n Try.prog 19 #[.func (.yield l) #[] #[], .pointer (some ⟨B1, 0, none⟩), .pointer (some ⟨B2, 0, none⟩)] W fun e W' => (∃ v, e = .returned v) ∧
      ((∃ ys : List (Pc 0), ys.map (·.1) = List.range 0 ∧ J ys W') ∨ (∃ pre, True ∧ Jx pre W')) := by
  refine callsIn_of_wp Try.func19 rfl trivial ?_ rfl
  simp only [Try.ntmps19, List.size_toArray, List.length_cons, List.length_nil, Nat.reduceAdd, Nat.reduceSub, Array.replicate_succ, Array.replicate_zero, List.push_toArray, List.append_toArray, List.nil_append, List.cons_append]
  gi_wp2
  gi_loopw [4] (fun i wr => i = .int .i64 0 ∧ J [] wr ∧ wr = W) (fun i _ => 0)
  case atStart => exact ⟨rfl, h0, rfl⟩
  case round =>
    obtain ⟨rfl, hJs, rfl⟩ := hrel
    gi_wp2
    go_end0
    exact ⟨⟨_, rfl⟩, .inl ⟨[], rfl, hJs⟩⟩
/-- the address of piece k -/
def pcA (a : Option Addr) (k : Nat) : Option Addr := a.map fun x => ⟨x.block, x.off + 8 * k, none⟩
theorem pieces_stops (n B1 B2 m cap : Nat) (p : Nat → Prop) (a : Option Addr) (B : List Nat) (w : World) (hn : 1 ≤ n) (hp : Rd w a (8 * m) cap B) (hmax : 8 * m ≤ 140737488351232) (hB1 : p B1) (hB2 : p B2) (hpw : ∀ k, p k → k < w.heap.size)
    (c1 : w.cell? ⟨B1, 0, none⟩ = some (.slice a (8 * m : Nat) cap)) (c2 : w.cell? ⟨B2, 0, none⟩ = some (.int .i64 8)) :
    SeqStopsK Fence.wide n Try.prog 19 #[.pointer (some ⟨B1, 0, none⟩), .pointer (some ⟨B2, 0, none⟩)] (fun x : Pc m => #[Value.slice (pcA a x.1) 8 (cap - 8 * x.1)]) (KeepB p) (fun ys => ys.map (·.1) = List.range m) (fun _ => True) m w := by
  intro l J Jx W hW _ _ hY h0
  have d1 := (hW.cell (p := ⟨B1, 0, none⟩) (hpw B1 hB1)).trans c1
  have d2 := (hW.cell (p := ⟨B2, 0, none⟩) (hpw B2 hB2)).trans c2
  by_cases hm : 0 < m
  · obtain ⟨b, off, rfl, _, _⟩ := hp.at' (by omega)
    exact pieces1_in n l B1 B2 b off m cap p hn hB1 hB2 hp.le hmax J Jx hY W d1 d2 h0
  · obtain rfl : m = 0 := by omega
    exact pieces0_in n l B1 B2 cap a hn J Jx W d1 h0
theorem pieces_in (n : Nat) (a : Option Addr) (len cap : Nat) (w : World) :
    CallsIn Fence.wide n Try.prog 13 #[.slice a len cap, .int .i64 8] w fun e w' => e = .returned (.func (.func 19) #[] #[.pointer (some ⟨w.heap.size, 0, none⟩), .pointer (some ⟨w.heap.size + 1, 0, none⟩)]) ∧ w' = (w.alloc (.cells #[.slice a len cap] 22)).alloc (.cells #[.int .i64 8] 3) := by
  refine callsIn_of_wp Try.func13 rfl trivial ?_ rfl
  simp only [Try.ntmps13, List.size_toArray, List.length_cons, List.length_nil, Nat.reduceAdd, Nat.reduceSub, Array.replicate_succ, Array.replicate_zero, List.push_toArray, List.append_toArray, List.nil_append, List.cons_append]
  gi_wp2
  go_ret
  exact ⟨rfl, rfl⟩
theorem grown_of_below {w w' : World} (h : Below w.heap.size w w') : w.grownBy w' none := ⟨h.os, h.tape, h.output, h.size, fun k hk _ => h.block k hk⟩
theorem below_of_grown {w w' : World} (h : w.grownBy w' none) : Below w.heap.size w w' := (Below.refl _ _).grown h (Nat.le_refl _) (fun k hk => by cases hk)
/-- the bits of piece k -/
def pcL (B : List Nat) (k : Nat) : List Nat := tab 8 (fun j => nth B (8 * k + j))
theorem pc_rd {w : World} {a : Option Addr} {m cap : Nat} {B : List Nat} (hp : Rd w a (8 * m) cap B) (k : Nat) (hk : k < m) : Rd w (pcA a k) 8 (cap - 8 * k) (pcL B k) := by
  obtain ⟨b, off, rfl, hb, hc⟩ := hp.at' (by omega)
  have h1 := hp.le; have h2 := hp.max
  refine ⟨tab_len _ _, by omega, by omega, (fun h => by cases h), tab_isB _ _ (fun i => hp.byte.nth _), fun _ => ⟨b, off + 8 * k, rfl, hb, fun i hi => ?_⟩⟩
  unfold pcL
  rw [tab_nth _ _ _ hi, Nat.add_assoc]; exact hc _ (by omega)
theorem pc_jN (B : List Nat) (k j : Nat) (hj : j ≤ 8) : jN (pcL B k) 0 j = jN B k j := by
  induction j with
  | zero => rfl
  | succ j ih =>
    show 2 * jN (pcL B k) 0 j + nth (pcL B k) (8 * 0 + j) = 2 * jN B k j + nth B (8 * k + j)
    rw [ih (by omega), Nat.mul_zero, Nat.zero_add]
    unfold pcL; rw [tab_nth _ _ _ (by omega)]
theorem pc_bit (B : List Nat) (k : Nat) : BitTo (pcL B k) 8 ↔ ∀ j, j < 8 → nth B (8 * k + j) < 2 := by
  unfold BitTo
  constructor
  · intro h j hj; have := h j hj; unfold pcL at this; rwa [tab_nth _ _ _ hj] at this
  · intro h j hj; unfold pcL; rw [tab_nth _ _ _ hj]; exact h j hj
/-- the byte of a piece -/
def pcV (B : List Nat) (k : Nat) : Nat := jN B k 8
theorem pcV_lt (B : List Nat) (k : Nat) (h : ∀ j, j < 8 → nth B (8 * k + j) < 2) : pcV B k < 256 := Nat.lt_of_lt_of_le (jN_lt B k 8 h) (by decide)
end Go.Proofs.Ytdjbaampicinnaa
