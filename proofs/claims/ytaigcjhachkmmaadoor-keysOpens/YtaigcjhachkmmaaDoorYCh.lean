import Derived.RangeFuncNested
import Derived.RangeFuncBound
import Derived.RangeFuncCalls
import Derived.RangeFuncLeaves
import Derived.RangeFuncBox
import Derived.Shelf.Abstract
import Derived.Shelf.RegionOpen
import Derived.OwnWalkIn
import Derived.TacticsInMore
import Derived.LoopNIn
import Derived.LoopIn
import Derived.Maps.AppendAt
import Derived.Test.YtaigcjhachkmmaaDoorYNC
namespace Go.Proofs.YtaigcjhachkmmaaDoor
open Go.RowKit Go.Shelf
set_option maxRecDepth 100000
set_option linter.unusedVariables false
set_option linter.unusedSimpArgs false
attribute [local go_sem] Oper.semAt_some

/-- the blocks that p names lie as they lay -/
def KeepB (p : Nat → Prop) (W W' : World) : Prop := ∀ k, p k → W'.heap[k]? = W.heap[k]?
theorem KeepB.refl (p : Nat → Prop) (W : World) : KeepB p W W := fun _ _ => rfl
theorem KeepB.trans {p : Nat → Prop} {A B C : World} (h : KeepB p A B) (k : KeepB p B C) : KeepB p A C := fun i hi => (k i hi).trans (h i hi)
theorem KeepB.cell {p : Nat → Prop} {W W' : World} (h : KeepB p W W') {a : Addr} (ha : p a.block) : W'.cell? a = W.cell? a := World.cell?_of_block (h _ ha)
theorem KeepB.put {p : Nat → Prop} {w : World} (hp : ∀ k, p k → k < w.heap.size) (W : World) (l : Nat) (o o' : Obj) (hl : w.heap.size ≤ l) (_ : W.heap[l]? = some o) (_ : o.isCells = false) (_ : o.isWalk = false) : KeepB p W (W.putObj l o') :=
  fun k hk => World.putObj_heap_other (by have := hp k hk; omega)
/-- the numbers below m, as pieces -/
abbrev Pc (m : Nat) := { k : Nat // k < m }
set_option maxHeartbeats 1000000 in
theorem chunks1_in (d l B1 B2 b off n s m cap : Nat) (p : Nat → Prop) (hd : 1 ≤ d) (hB1 : p B1) (hB2 : p B2) (hs : 0 < s) (hs64 : s ≤ 64) (hm1 : n ≤ s * m) (hm2 : ∀ k, k < m → s * k < n) (hcap : n ≤ cap) (hmax : n ≤ 1000000) (J Jx : List (Pc m) → World → Prop)
    (hY : ∀ pre x W, J pre W → pre.length < m → YieldAt Fence.wide (d - 1) Tryd.prog l #[.slice (some ⟨b, off + s * x.1, none⟩) (chL n s x.1) (cap - s * x.1)] W fun e W' =>
      (e = .returned (.bool true) ∧ J (pre ++ [x]) W' ∧ KeepB p W W') ∨ (e = .returned (.bool false) ∧ Jx (pre ++ [x]) W'))
    (W : World) (c1 : W.cell? ⟨B1, 0, none⟩ = some (.slice (some ⟨b, off, none⟩) n cap)) (c2 : W.cell? ⟨B2, 0, none⟩ = some (.int .i64 s)) (h0 : J [] W) :
    CallsIn Fence.wide d Tryd.prog 58 #[.func (.yield l) #[] #[], .pointer (some ⟨B1, 0, none⟩), .pointer (some ⟨B2, 0, none⟩)] W fun e W' => (∃ v, e = .returned v) ∧
      ((∃ ys : List (Pc m), ys.map (·.1) = List.range m ∧ J ys W') ∨ (∃ pre, True ∧ Jx pre W')) := by
  refine callsIn_of_wp Tryd.func58 rfl trivial ?_ rfl
  simp only [Tryd.ntmps58, List.size_toArray, List.length_cons, List.length_nil, Nat.reduceAdd, Nat.reduceSub, Array.replicate_succ, Array.replicate_zero, List.push_toArray, List.append_toArray, List.nil_append, List.cons_append]
  gi_wp2
  gi_loopw [4] (fun i wr => ∃ (k : Nat) (pre : List (Pc m)), k ≤ m ∧ i = .int .i64 (s * k : Nat) ∧ pre.map (·.1) = List.range k ∧ J pre wr ∧ KeepB p W wr) (fun i _ => s * m + s - (intOf i).toNat)
  case atStart => exact ⟨0, [], Nat.zero_le _, rfl, rfl, h0, KeepB.refl _ _⟩
  case round =>
    obtain ⟨k, pre, hk, rfl, hpre, hJs, hbl⟩ := hrel
    have d1 := (hbl.cell (a := ⟨B1, 0, none⟩) hB1).trans c1
    have d2 := (hbl.cell (a := ⟨B2, 0, none⟩) hB2).trans c2
    have HPre : Hid (pre.map (·.1) = List.range k) := hpre
    have hpl : pre.length = k := by have := congrArg List.length hpre; simpa using this
    clear hpre
    by_cases hlt : k < m
    · obtain ⟨fn, tmps, assign, body, hy, hR⟩ := hY pre ⟨k, hlt⟩ wr hJs (by omega)
      dsimp only at hy
      have hat := hm2 k hlt
      obtain ⟨q, hq⟩ : ∃ q, q = s * k := ⟨_, rfl⟩
      have HQ1 : Hid (s * (k + 1) = q + s) := by show _ = _; rw [hq, Nat.mul_succ]
      have hmq : q + s ≤ s * m := by rw [hq, ← Nat.mul_succ]; exact Nat.mul_le_mul_left s hlt
      rw [← hq] at hat hy ⊢
      have hne : ¬ cap = q := by omega
      have ha0 : (q : Int) < (n : Int) := by omega
      by_cases hle : q + s ≤ n
      · have hc : chL n s k = s := by unfold chL; rw [← hq]; omega
        rw [hc] at hy
        have ha1 : (q : Int) + (s : Int) ≤ (n : Int) := by omega
        have ha2 : (q : Int) + (s : Int) ≤ (cap : Int) := by omega
        clear hc hq
        gi_wp2
        refine hR.mono ?_
        rintro e W3 (⟨rfl, hJ3, hk3⟩ | ⟨rfl, hJx3⟩)
        · have d3 := (hk3.cell (a := ⟨B2, 0, none⟩) hB2).trans d2
          gi_wp2
          go_roundw
          case rel => exact ⟨k + 1, pre ++ [⟨k, hlt⟩], by omega, by rw [HQ1.out]; exact congrArg _ (by omega), by rw [List.map_append, HPre.out, List.range_succ]; rfl, hJ3, hbl.trans hk3⟩
          case measure => simp [intOf]; omega
        · gi_wp2
          refine bodyPost_ret (results_none rfl _ _ _) rfl ?_
          exact ⟨⟨_, rfl⟩, .inr ⟨_, trivial, hJx3⟩⟩
      · obtain ⟨c, hcn⟩ : ∃ c, n = q + c := ⟨n - q, by omega⟩
        have hc : chL n s k = c := by unfold chL; rw [← hq]; omega
        rw [hc] at hy
        have hc0 : 0 < c := by omega
        subst hcn
        have ha1 : ¬ (q : Int) + (s : Int) ≤ ((q + c : Nat) : Int) := by omega
        have ha2 : ((q + c : Nat) : Int) ≤ (cap : Int) := by omega
        clear hc hq
        gi_wp2
        refine hR.mono ?_
        rintro e W3 (⟨rfl, hJ3, hk3⟩ | ⟨rfl, hJx3⟩)
        · have d3 := (hk3.cell (a := ⟨B2, 0, none⟩) hB2).trans d2
          gi_wp2
          go_roundw
          case rel => exact ⟨k + 1, pre ++ [⟨k, hlt⟩], by omega, by rw [HQ1.out]; exact congrArg _ (by omega), by rw [List.map_append, HPre.out, List.range_succ]; rfl, hJ3, hbl.trans hk3⟩
          case measure => simp [intOf]; omega
        · gi_wp2
          refine bodyPost_ret (results_none rfl _ _ _) rfl ?_
          exact ⟨⟨_, rfl⟩, .inr ⟨_, trivial, hJx3⟩⟩
    · obtain rfl : k = m := by omega
      have hge : ¬ ((s * k : Nat) : Int) < (n : Int) := by omega
      generalize s * k = q at *
      gi_wp2
      go_end0
      exact ⟨⟨_, rfl⟩, .inl ⟨pre, HPre.out, hJs⟩⟩
set_option maxHeartbeats 1000000 in
theorem chunks0_in (d l B1 B2 cap : Nat) (ao : Option Addr) (hd : 1 ≤ d) (J Jx : List (Pc 0) → World → Prop)
    (W : World) (c1 : W.cell? ⟨B1, 0, none⟩ = some (.slice ao 0 cap)) (h0 : J [] W) :
    CallsIn Fence.wide d Tryd.prog 58 #[.func (.yield l) #[] #[], .pointer (some ⟨B1, 0, none⟩), .pointer (some ⟨B2, 0, none⟩)] W fun e W' => (∃ v, e = .returned v) ∧
      ((∃ ys : List (Pc 0), ys.map (·.1) = List.range 0 ∧ J ys W') ∨ (∃ pre, True ∧ Jx pre W')) := by
  refine callsIn_of_wp Tryd.func58 rfl trivial ?_ rfl
  simp only [Tryd.ntmps58, List.size_toArray, List.length_cons, List.length_nil, Nat.reduceAdd, Nat.reduceSub, Array.replicate_succ, Array.replicate_zero, List.push_toArray, List.append_toArray, List.nil_append, List.cons_append]
  gi_wp2
  gi_loopw [4] (fun i wr => i = .int .i64 0 ∧ J [] wr ∧ wr = W) (fun i _ => 0)
  case atStart => exact ⟨rfl, h0, rfl⟩
  case round =>
    obtain ⟨rfl, hJs, rfl⟩ := hrel
    gi_wp2
    go_end0
    exact ⟨⟨_, rfl⟩, .inl ⟨[], rfl, hJs⟩⟩
/-- the address of chunk k -/
def chA (a : Option Addr) (s k : Nat) : Option Addr := a.map fun x => ⟨x.block, x.off + s * k, none⟩
theorem chunks_stops (d B1 B2 n s m cap : Nat) (p : Nat → Prop) (a : Option Addr) (B : List Nat) (w : World) (hd : 1 ≤ d) (hp : Rd w a n cap B) (hs : 0 < s) (hs64 : s ≤ 64) (hm0 : n = 0 → m = 0) (hm1 : n ≤ s * m) (hm2 : ∀ k, k < m → s * k < n) (hmax : n ≤ 1000000) (hB1 : p B1) (hB2 : p B2) (hpw : ∀ k, p k → k < w.heap.size)
    (c1 : w.cell? ⟨B1, 0, none⟩ = some (.slice a n cap)) (c2 : w.cell? ⟨B2, 0, none⟩ = some (.int .i64 s)) :
    SeqStopsK Fence.wide d Tryd.prog 58 #[.pointer (some ⟨B1, 0, none⟩), .pointer (some ⟨B2, 0, none⟩)] (fun x : Pc m => #[Value.slice (chA a s x.1) (chL n s x.1) (cap - s * x.1)]) (KeepB p) (fun ys => ys.map (·.1) = List.range m) (fun _ => True) m w := by
  intro l J Jx W hW _ _ hY h0
  have d1 := (hW.cell (p := ⟨B1, 0, none⟩) (hpw B1 hB1)).trans c1
  have d2 := (hW.cell (p := ⟨B2, 0, none⟩) (hpw B2 hB2)).trans c2
  by_cases hn : 0 < n
  · obtain ⟨b, off, rfl, _, _⟩ := hp.at' hn
    exact chunks1_in d l B1 B2 b off n s m cap p hd hB1 hB2 hs hs64 hm1 hm2 hp.le hmax J Jx hY W d1 d2 h0
  · obtain rfl : n = 0 := by omega
    obtain rfl := hm0 rfl
    exact chunks0_in d l B1 B2 cap a hd J Jx W d1 h0
theorem chunks_in (d : Nat) (a : Option Addr) (len cap s : Nat) (w : World) :
    CallsIn Fence.wide d Tryd.prog 43 #[.slice a len cap, .int .i64 s] w fun e w' => e = .returned (.func (.func 58) #[] #[.pointer (some ⟨w.heap.size, 0, none⟩), .pointer (some ⟨w.heap.size + 1, 0, none⟩)]) ∧ w' = (w.alloc (.cells #[.slice a len cap] 25)).alloc (.cells #[.int .i64 s] 3) := by
  refine callsIn_of_wp Tryd.func43 rfl trivial ?_ rfl
  simp only [Tryd.ntmps43, List.size_toArray, List.length_cons, List.length_nil, Nat.reduceAdd, Nat.reduceSub, Array.replicate_succ, Array.replicate_zero, List.push_toArray, List.append_toArray, List.nil_append, List.cons_append]
  gi_wp2
  go_ret
  exact ⟨rfl, rfl⟩
theorem grown_of_below {w w' : World} (h : Below w.heap.size w w') : w.grownBy w' none := ⟨h.os, h.tape, h.output, h.size, fun k hk _ => h.block k hk⟩
theorem below_of_grown {w w' : World} (h : w.grownBy w' none) : Below w.heap.size w w' := (Below.refl _ _).grown h (Nat.le_refl _) (fun k hk => by cases hk)
theorem boxed_from {W W' : World} {row : Option Nat} {B k : Nat} {t : TypeId} {v : Value} (h : Boxed W B t v) (hg : W.grownBy W' row) (hr : ∀ r, row = some r → k ≤ r ∧ ∃ o : Obj, W.heap[r]? = some o ∧ o.isCells = false) : Boxed W' B t v :=
  h.kept hg (fun e => by
    obtain ⟨_, o, ho, hc⟩ := hr B e.symm
    rw [show W.heap[B]? = _ from h] at ho; cases ho; cases hc)
theorem row_from {W W' : World} {row : Option Nat} {base e size n k : Nat} {v : Value} {xs : List Value} (h : W.ownsRow base e size v n xs) (hg : W.grownBy W' row) (hr : ∀ r, row = some r → k ≤ r ∧ ∃ o : Obj, W.heap[r]? = some o ∧ o.isCells = false) : W'.ownsRow base e size v n xs := by
  refine h.kept hg ?_
  rcases h.2 with ⟨rfl, _⟩ | ⟨g, cap, cur, rfl, _, hgb, _⟩
  · exact .inl rfl
  · refine .inr fun e' => ?_
    obtain ⟨_, o, ho, hc⟩ := hr g e'.symm
    rw [hgb] at ho; cases ho; cases hc
theorem below_from {w W W' : World} {row : Option Nat} {k : Nat} (h : Below w.heap.size w W) (hg : W.grownBy W' row) (hk : w.heap.size ≤ k) (hr : ∀ r, row = some r → k ≤ r ∧ ∃ o : Obj, W.heap[r]? = some o ∧ o.isCells = false) : Below w.heap.size w W' :=
  h.grown hg h.size (fun r e => by have := (hr r e).1; omega)
theorem ch_rd {w : World} {a : Option Addr} {n s cap : Nat} {B : List Nat} (hp : Rd w a n cap B) (k : Nat) (hk : s * k < n) : Rd w (chA a s k) (chL n s k) (cap - s * k) (chB B s k) := by
  obtain ⟨b, off, rfl, hb, hc⟩ := hp.at' (by omega)
  have h1 := hp.le; have h2 := hp.max; have h3 := hp.len
  refine ⟨by rw [chB_len, h3], by unfold chL; omega, by omega, (fun h => by cases h), isB_take (isB_drop hp.byte _) _, fun _ => ⟨b, off + s * k, rfl, hb, fun i hi => ?_⟩⟩
  unfold chL at hi
  have e : nth (chB B s k) i = nth B (s * k + i) := by
    unfold nth chB
    rw [List.getD_eq_getElem?_getD, List.getD_eq_getElem?_getD, List.getElem?_take, if_pos (by omega), List.getElem?_drop]
  rw [e, Nat.add_assoc]; exact hc _ (by omega)
end Go.Proofs.YtaigcjhachkmmaaDoor
