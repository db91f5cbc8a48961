import Derived.Test.YtnnohgllnfmoeaaZBx
import Derived.Test.YtnnohgllnfmoeaaTFrL
import Derived.Lib.AppendZerosOnto
namespace Go.Proofs.Ytnnohgllnfmoeaa
open Go.RowKit
set_option maxRecDepth 100000
set_option linter.unusedVariables false
set_option linter.unusedSimpArgs false

/-- 'append([]byte(nil), make([]byte, k)...)' -/
theorem wpList_apN (w : World) {ops : Array Oper} {rest : List Oper} {o : Oper} {a : Act} {Q : Exit → Act → World → Prop} (hg : o.guard = none) (s x : Operand)
    (hop : o.op = Op.call { callee := .builtin .append, args := #[s, x], argTypes := #[22, 3] }) (k : Nat) (hs : a.eval s = .slice none 0 0) (hx : a.eval x = .int .i64 (k : Int))
    (hk : 0 < k) (hb : k ≤ 140737488355328)
    (hK : ∀ cap w', k ≤ cap → w.grownBy w' none → w'.ownsRow 0 5 1 (.slice (some ⟨w.heap.size, 0, none⟩) 0 cap) 0 (bys []) →
      wpList Try.prog ops Q rest (a.put o.dst (.slice (some ⟨w.heap.size, 0, none⟩) k cap)) w') :
    wpList Try.prog ops Q (o :: rest) a w := by
  obtain ⟨i0, hi, hz, hsz, hby⟩ := info_parts Try.info_u8
  have hr := Lib.run_append_nil_zeros (P := Try.prog) w 22 3 o.type 5 i0 (.int .u8 0) .i64 .i64 Try.underlying22 Try.underlying3 hi hz k hk (by omega) (by omega) (by rw [hby]; omega)
  have hge := grownCap_ge w k 0 5
  refine Lib.wpList_append_run w hg s x 22 3 hop _ _ hs hx _ _ hr (hK _ _ hge ⟨rfl, rfl, rfl, by simp, fun j hj _ => (World.grownBy_alloc w.drew _ none).block j hj (by simp)⟩ ⟨rfl, .inr ⟨w.heap.size, _, _, rfl, Nat.zero_le _, heap_alloc_new w.drew _, Nat.zero_le _, grownCap_le_maxLen w k 0 5 (by unfold maxLen; omega), ?_, rfl⟩⟩)
  simp only [Array.size_append, size_zeroCells]
  show k * 1 + _ * 1 = _
  omega
set_option maxHeartbeats 2000000 in
theorem grow_nil (k : Nat) (w : World) (hk : 0 < k) (hb : k ≤ 140737488355328) :
    Calls Try.prog 28 #[.slice none 0 0, .int .i64 (k : Int)] w fun e w' => ∃ g cap, e = .returned (.slice (some ⟨g, 0, none⟩) 0 cap) ∧ Ans w' w.heap.size (some ⟨g, 0, none⟩) 0 cap [] ∧ w.grownBy w' none := by
  have d1 : decide ((k : Int) < 0) = false := decide_eq_false (by omega)
  have d2 : decide ((0 : Int) < (k : Int)) = true := decide_eq_true (by omega)
  go_enter Try.func28, Try.ntmps28
  go_wp2_with (at_builtin; refine wpList_apN _ rfl _ _ rfl k rfl rfl hk hb ?_; intro cap w1 hc g1 ho)
  go_ret
  exact ⟨_, _, rfl, ⟨ho, (fun x hx => by cases hx), fun g hg => by have e : w.heap.size = g := Option.some.inj hg; omega⟩, g1⟩

theorem grow_int (kz : Int) (k : Nat) (w : World) (ek : kz = k) (hk : 0 < k) (hb : k ≤ 140737488355328) :
    Calls Try.prog 28 #[.slice none 0 0, .int .i64 kz] w fun e w' => ∃ g cap, e = .returned (.slice (some ⟨g, 0, none⟩) 0 cap) ∧ Ans w' w.heap.size (some ⟨g, 0, none⟩) 0 cap [] ∧ w.grownBy w' none := by
  subst ek; exact grow_nil k w hk hb
set_option maxHeartbeats 4000000 in
theorem concat2_any (a b : Option Addr) (n m c d g0 : Nat) (U D : List Nat) (w : World) (hg : w.heap[g0]? = some (.cells #[.slice a n c, .slice b m d] 22)) (hU : Rd w a n c U) (hD : Rd w b m d D) (h0 : 0 < n) (h1 : 0 < m) (hn : n + m ≤ 140737488355328) :
    Calls Try.prog 27 #[.slice (some ⟨g0, 0, none⟩) 2 2] w fun e w' => ∃ g cap, e = .returned (.slice (some ⟨g, 0, none⟩) (n + m) cap) ∧ Ans w' w.heap.size (some ⟨g, 0, none⟩) (n + m) cap (U ++ D) ∧ w.grownBy w' none := by
  have k0 : w.cell? ⟨g0, 0, none⟩ = some (.slice a n c) := by simp [World.cell?, hg]
  have k1 : w.cell? ⟨g0, 1, none⟩ = some (.slice b m d) := by simp [World.cell?, hg]
  have hlt : g0 < w.heap.size := (Array.getElem?_eq_some_iff.1 hg).1
  have d0 : decide ((n : Int) < 0) = false := decide_eq_false (by omega)
  have d1 : decide ((n : Int) + (m : Int) < 0) = false := decide_eq_false (by omega)
  have e1 : ∀ w', w.grownBy w' none → w'.cell? ⟨g0, 0, none⟩ = some (.slice a n c) ∧ w'.cell? ⟨g0, 1, none⟩ = some (.slice b m d) := fun w' h => by
    have := (h.block g0 hlt (by simp)).trans hg
    simp [World.cell?, this]
  have t1 : True := trivial
  go_enter Try.func27, Try.ntmps27
  go_wp2
  refine wp_loop_rounds 3 ?_
  rw [rounds_succ]
  go_wp2
  rw [rounds_succ]
  go_wp2
  rw [rounds_succ]
  have hnm : ((n : Int) + (m : Int)) = ((n + m : Nat) : Int) := by omega
  have HNM : Hid (_ = _) := hnm
  clear hnm
  go_wp2_with (first
    | (go_at_call 28; refine (grow_int _ (n + m) w HNM.out (by omega) hn).mono ?_; rintro e w1 ⟨g1, c1, rfl, hA1, G1⟩; obtain ⟨q0, q1⟩ := e1 w1 G1; have hU1 := hU.keep G1; have M1 : Mine w none (some ⟨g1, 0, none⟩) 0 c1 := fun g hg => .inr (hA1.new g hg)))
  refine wp_loop_rounds 3 ?_
  rw [rounds_succ]
  go_wp2_with (first
    | (at_builtin; have _t := t1; refine wpList_join w w1 rfl _ _ rfl (some ⟨g1, 0, none⟩) 0 c1 w.heap.size none [] rfl hA1 G1 M1 (Nat.le_refl _) a n c U rfl hU1 h0 (by omega) ?_; clear t1; intro g2 c2 w2 hA2 G2 M2; rw [Nat.zero_add, List.nil_append] at hA2; rw [Nat.zero_add] at M2; obtain ⟨r0, r1⟩ := e1 w2 G2; have hD2 := hD.keep G2; have t2 : True := trivial))
  rw [rounds_succ]
  go_wp2_with (first
    | (at_builtin; have _t := t2; refine wpList_join w w2 rfl _ _ rfl (some ⟨g2, 0, none⟩) n c2 w.heap.size none _ rfl hA2 G2 M2 (Nat.le_refl _) b m d D rfl hD2 h1 (by omega) ?_; clear t2; intro g3 c3 w3 hA3 G3 M3))
  rw [rounds_succ]
  go_wp2
  go_ret
  exact ⟨g3, c3, rfl, hA3, G3⟩

/-- who joins, in a box -/
def jrA (ap nx : Int) (op : Bool) (a : Option Addr) (n c : Nat) (lo : Bool) : Array Value := #[.int .i64 ap, .int .i64 nx, .bool op, .slice a n c, .bool lo]
def Jr (w : World) (g : Nat) (ap nx : Int) (op : Bool) (a : Option Addr) (n c : Nat) (lo : Bool) : Prop := BxS w g 52 (jrA ap nx op a n c lo)
theorem jr1 (ap nx : Int) (op : Bool) (a : Option Addr) (n c : Nat) (lo : Bool) (x : Int) : (jrA ap nx op a n c lo).setIfInBounds 1 (.int .i64 x) = jrA ap x op a n c lo := rfl
theorem jr2 (ap nx : Int) (op : Bool) (a : Option Addr) (n c : Nat) (lo : Bool) (x : Bool) : (jrA ap nx op a n c lo).setIfInBounds 2 (.bool x) = jrA ap nx x a n c lo := rfl
theorem jr3 (ap nx : Int) (op : Bool) (a : Option Addr) (n c : Nat) (lo : Bool) (x : Option Addr) (l d : Nat) : (jrA ap nx op a n c lo).setIfInBounds 3 (.slice x l d) = jrA ap nx op x l d lo := rfl
theorem jr4 (ap nx : Int) (op : Bool) (a : Option Addr) (n c : Nat) (lo : Bool) (x : Bool) : (jrA ap nx op a n c lo).setIfInBounds 4 (.bool x) = jrA ap nx op a n c x := rfl
theorem jrS (ap nx : Int) (op : Bool) (a : Option Addr) (n c : Nat) (lo : Bool) : (jrA ap nx op a n c lo).size = 5 := rfl
section
variable {w : World} {g : Nat} {ap nx : Int} {op : Bool} {a : Option Addr} {n c : Nat} {lo : Bool}
theorem Jr.cells (h : Jr w g ap nx op a n c lo) : w.cell? ⟨g, 0, none⟩ = some (.int .i64 ap) ∧ w.cell? ⟨g, 1, none⟩ = some (.int .i64 nx) ∧ w.cell? ⟨g, 2, none⟩ = some (.bool op) ∧ w.cell? ⟨g, 3, none⟩ = some (.slice a n c) ∧ w.cell? ⟨g, 4, none⟩ = some (.bool lo) :=
  ⟨BxS.cell h 0 (by simp [jrA]), BxS.cell h 1 (by simp [jrA]), BxS.cell h 2 (by simp [jrA]), BxS.cell h 3 (by simp [jrA]), BxS.cell h 4 (by simp [jrA])⟩
theorem Jr.set1 (h : Jr w g ap nx op a n c lo) (x : Int) : Jr (w.setCell ⟨g, 1, none⟩ (.int .i64 x)) g ap x op a n c lo := BxS.set h 1 _
theorem Jr.set2 (h : Jr w g ap nx op a n c lo) (x : Bool) : Jr (w.setCell ⟨g, 2, none⟩ (.bool x)) g ap nx x a n c lo := BxS.set h 2 _
theorem Jr.set3 (h : Jr w g ap nx op a n c lo) (x : Option Addr) (l d : Nat) : Jr (w.setCell ⟨g, 3, none⟩ (.slice x l d)) g ap nx op x l d lo := BxS.set h 3 _
theorem Jr.set4 (h : Jr w g ap nx op a n c lo) (x : Bool) : Jr (w.setCell ⟨g, 4, none⟩ (.bool x)) g ap nx op a n c x := BxS.set h 4 _
end
set_option maxHeartbeats 1000000 in
theorem drop_any (g : Nat) (ap nx : Int) (op : Bool) (a : Option Addr) (n c : Nat) (lo : Bool) (w : World) (h : Jr w g ap nx op a n c lo) :
    Calls Try.prog 24 #[.pointer (some ⟨g, 0, none⟩)] w fun e w' => e = .returned (.tuple #[]) ∧ Jr w' g ap nx false none 0 0 (lo || op) ∧ w.grownBy w' (some g) := by
  obtain ⟨c0, c1, c2, c3, c4⟩ := h.cells
  have f2 := BxS.free h 2
  have f3 := BxS.free h 3
  have f4 := BxS.free h 4
  have H : Hid _ := h
  clear h
  cases lo
  · go_enter Try.func24, Try.ntmps24
    go_wp2
    go_end0
    have hJ : Jr w g ap nx op a n c _ := H.out
    exact ⟨rfl, ((hJ.set4 _).set2 _).set3 _ _ _, grown_trans (grown_set _ _ _ _) (grown_trans (grown_set _ _ _ _) (grown_set _ _ _ _))⟩
  · go_enter Try.func24, Try.ntmps24
    go_wp2
    go_end0
    have hJ : Jr w g ap nx op a n c _ := H.out
    exact ⟨rfl, ((hJ.set4 _).set2 _).set3 _ _ _, grown_trans (grown_set _ _ _ _) (grown_trans (grown_set _ _ _ _) (grown_set _ _ _ _))⟩
set_option maxHeartbeats 1000000 in
theorem finish_any (g : Nat) (ap nx : Int) (op : Bool) (a : Option Addr) (n c : Nat) (lo : Bool) (w : World) (h : Jr w g ap nx op a n c lo) :
    Calls Try.prog 26 #[.pointer (some ⟨g, 0, none⟩)] w fun e w' => e = .returned (.slice a n c) ∧ Jr w' g ap nx false none 0 0 lo ∧ w.grownBy w' (some g) := by
  obtain ⟨c0, c1, c2, c3, c4⟩ := h.cells
  have f2 := BxS.free h 2
  have f3 := BxS.free h 3
  have H : Hid _ := h
  clear h
  go_enter Try.func26, Try.ntmps26
  go_wp2
  go_ret
  have hJ : Jr w g ap nx op a n c lo := H.out
  exact ⟨rfl, (hJ.set2 _).set3 _ _ _, grown_trans (grown_set _ _ _ _) (grown_set _ _ _ _)⟩
theorem goOn_shut (g : Nat) (ap nx : Int) (a : Option Addr) (n c : Nat) (lo : Bool) (b : Option Addr) (m d : Nat) (w : World) (h : Jr w g ap nx false a n c lo) :
    Calls Try.prog 25 #[.pointer (some ⟨g, 0, none⟩), .slice b m d] w fun e w' => e = .returned (.tuple #[]) ∧ Jr w' g ap nx false none 0 0 true ∧ w.grownBy w' (some g) := by
  obtain ⟨c0, c1, c2, c3, c4⟩ := h.cells
  have f4 := BxS.free h 4
  have f3 := BxS.free h 3
  have H : Hid _ := h
  clear h
  go_enter Try.func25, Try.ntmps25
  go_wp2
  go_end0
  have hJ : Jr w g ap nx false a n c lo := H.out
  exact ⟨rfl, (hJ.set4 _).set3 _ _ _, grown_trans (grown_set _ _ _ _) (grown_set _ _ _ _)⟩
theorem goOn_long (g : Nat) (ap nx : Int) (a : Option Addr) (n c : Nat) (lo : Bool) (b : Option Addr) (m d : Nat) (w : World) (h : Jr w g ap nx true a n c lo) (hl : 1048576 < n + m) (h1 : n ≤ 140737488355328) (h2 : m ≤ 140737488355328) :
    Calls Try.prog 25 #[.pointer (some ⟨g, 0, none⟩), .slice b m d] w fun e w' => e = .returned (.tuple #[]) ∧ Jr w' g ap nx false none 0 0 true ∧ w.grownBy w' (some g) := by
  obtain ⟨c0, c1, c2, c3, c4⟩ := h.cells
  have d1 : decide ((1048576 : Int) < (n : Int) + (m : Int)) = true := decide_eq_true (by omega)
  go_enter Try.func25, Try.ntmps25
  go_wp2_with (go_at_call 24; refine (drop_any g ap nx true a n c lo w h).mono ?_; rintro e w1 ⟨rfl, hj, g1⟩)
  go_end0
  rw [Bool.or_true] at hj
  exact ⟨rfl, hj, g1⟩
set_option maxHeartbeats 2000000 in
theorem goOn_joins (g : Nat) (ap nx : Int) (a : Option Addr) (n c : Nat) (lo : Bool) (b : Option Addr) (m d : Nat) (U D : List Nat) (w : World) (h : Jr w g ap nx true a n c lo) (hU : Rd w a n c U) (hD : Rd w b m d D) (h0 : 0 < n) (h1 : 0 < m) (hl : n + m ≤ 1048576) :
    Calls Try.prog 25 #[.pointer (some ⟨g, 0, none⟩), .slice b m d] w fun e w' => e = .returned (.tuple #[]) ∧ ∃ g' c', Jr w' g ap nx true (some ⟨g', 0, none⟩) (n + m) c' lo ∧ Ans w' w.heap.size (some ⟨g', 0, none⟩) (n + m) c' (U ++ D) ∧ w.grownBy w' (some g) := by
  obtain ⟨c0, c1, c2, c3, c4⟩ := h.cells
  have d1 : decide ((1048576 : Int) < (n : Int) + (m : Int)) = false := decide_eq_false (by omega)
  have gA := World.grownBy_alloc w (.cells #[.slice a n c, .slice b m d] 22) none
  have hb := heap_alloc_new w (.cells #[.slice a n c, .slice b m d] 22)
  have hC := concat2_any a b n m c d w.heap.size U D (w.alloc (.cells #[.slice a n c, .slice b m d] 22)) hb (hU.keep gA) (hD.keep gA) h0 h1 (by omega)
  go_enter Try.func25, Try.ntmps25
  go_wp2_with (go_at_call 27; refine hC.mono ?_; rintro e w1 ⟨g', c', rfl, hA, G1⟩; have G := grown_trans gA G1; have hj : Jr w1 g ap nx true a n c lo := BxS.keep h G (by simp); have k3 := hj.cells.2.2.2.1; have f3 := BxS.free hj 3; have HJ : Hid _ := hj; clear hj)
  go_end0
  have hl2 : g < w.heap.size := BxS.lt h
  have hg' : w.heap.size ≤ g' := by have := hA.new g' rfl; simp at this; omega
  have hJ : Jr w1 g ap nx true a n c lo := HJ.out
  exact ⟨rfl, g', c', hJ.set3 _ _ _, (hA.kept (grown_set _ g 3 _) (.inr (by simp [Value.ownBlock]; omega))).wide (by simp), grown_trans (grown_weak G _) (grown_set _ _ _ _)⟩
end Go.Proofs.Ytnnohgllnfmoeaa
