import Derived.Test.YtmcadmndmafogaaPJo2
namespace Go.Proofs.Ytmcadmndmafogaa
open Go.RowKit
set_option maxRecDepth 100000
set_option linter.unusedVariables false
set_option linter.unusedSimpArgs false

/-- who joins, in a box -/
def jrA (ap nx : Int) (op : Bool) (a : Option Addr) (n c : Nat) (lo : Bool) : Array Value := #[.int .i64 ap, .int .i64 nx, .bool op, .slice a n c, .bool lo]
def Jr (w : World) (g : Nat) (ap nx : Int) (op : Bool) (a : Option Addr) (n c : Nat) (lo : Bool) : Prop := BxS w g 68 (jrA ap nx op a n c lo)
theorem jr1 (ap nx : Int) (op : Bool) (a : Option Addr) (n c : Nat) (lo : Bool) (x : Int) : (jrA ap nx op a n c lo).setIfInBounds 1 (.int .i64 x) = jrA ap x op a n c lo := rfl
theorem jr2 (ap nx : Int) (op : Bool) (a : Option Addr) (n c : Nat) (lo : Bool) (x : Bool) : (jrA ap nx op a n c lo).setIfInBounds 2 (.bool x) = jrA ap nx x a n c lo := rfl
theorem jr3 (ap nx : Int) (op : Bool) (a : Option Addr) (n c : Nat) (lo : Bool) (x : Option Addr) (l d : Nat) : (jrA ap nx op a n c lo).setIfInBounds 3 (.slice x l d) = jrA ap nx op x l d lo := rfl
theorem jr4 (ap nx : Int) (op : Bool) (a : Option Addr) (n c : Nat) (lo : Bool) (x : Bool) : (jrA ap nx op a n c lo).setIfInBounds 4 (.bool x) = jrA ap nx op a n c x := rfl
theorem jrS (ap nx : Int) (op : Bool) (a : Option Addr) (n c : Nat) (lo : Bool) : (jrA ap nx op a n c lo).size = 5 := rfl
section
variable {w : World} {g : Nat} {ap nx : Int} {op : Bool} {a : Option Addr} {n c : Nat} {lo : Bool}
theorem Jr.cells (h : Jr w g ap nx op a n c lo) : w.cell? ⟨g, 0, none⟩ = some (.int .i64 ap) ∧ w.cell? ⟨g, 1, none⟩ = some (.int .i64 nx) ∧ w.cell? ⟨g, 2, none⟩ = some (.bool op) ∧ w.cell? ⟨g, 3, none⟩ = some (.slice a n c) ∧ w.cell? ⟨g, 4, none⟩ = some (.bool lo) :=
  ⟨BxS.cell h 0 (by simp [jrA]), BxS.cell h 1 (by simp [jrA]), BxS.cell h 2 (by simp [jrA]), BxS.cell h 3 (by simp [jrA]), BxS.cell h 4 (by simp [jrA])⟩
theorem Jr.set1 (h : Jr w g ap nx op a n c lo) (x : Int) : Jr (w.setCell ⟨g, 1, none⟩ (.int .i64 x)) g ap x op a n c lo := BxS.set h 1 _
theorem Jr.set2 (h : Jr w g ap nx op a n c lo) (x : Bool) : Jr (w.setCell ⟨g, 2, none⟩ (.bool x)) g ap nx x a n c lo := BxS.set h 2 _
theorem Jr.set3 (h : Jr w g ap nx op a n c lo) (x : Option Addr) (l d : Nat) : Jr (w.setCell ⟨g, 3, none⟩ (.slice x l d)) g ap nx op x l d lo := BxS.set h 3 _
theorem Jr.set4 (h : Jr w g ap nx op a n c lo) (x : Bool) : Jr (w.setCell ⟨g, 4, none⟩ (.bool x)) g ap nx op a n c x := BxS.set h 4 _
end
set_option maxHeartbeats 1000000 in
theorem drop_any (g : Nat) (ap nx : Int) (op : Bool) (a : Option Addr) (n c : Nat) (lo : Bool) (w : World) (h : Jr w g ap nx op a n c lo) :
    Calls Try.prog 44 #[.pointer (some ⟨g, 0, none⟩)] w fun e w' => e = .returned (.tuple #[]) ∧ Jr w' g ap nx false none 0 0 (lo || op) ∧ w.grownBy w' (some g) := by
  obtain ⟨c0, c1, c2, c3, c4⟩ := h.cells
  have f2 := BxS.free h 2
  have f3 := BxS.free h 3
  have f4 := BxS.free h 4
  have H : Hid _ := h
  clear h
  cases lo
  · go_enter Try.func44, Try.ntmps44
    go_wp2
    go_end0
    have hJ : Jr w g ap nx op a n c _ := H.out
    exact ⟨rfl, ((hJ.set4 _).set2 _).set3 _ _ _, grown_trans (grown_set _ _ _ _) (grown_trans (grown_set _ _ _ _) (grown_set _ _ _ _))⟩
  · go_enter Try.func44, Try.ntmps44
    go_wp2
    go_end0
    have hJ : Jr w g ap nx op a n c _ := H.out
    exact ⟨rfl, ((hJ.set4 _).set2 _).set3 _ _ _, grown_trans (grown_set _ _ _ _) (grown_trans (grown_set _ _ _ _) (grown_set _ _ _ _))⟩
set_option maxHeartbeats 1000000 in
theorem finish_any (g : Nat) (ap nx : Int) (op : Bool) (a : Option Addr) (n c : Nat) (lo : Bool) (w : World) (h : Jr w g ap nx op a n c lo) :
    Calls Try.prog 46 #[.pointer (some ⟨g, 0, none⟩)] w fun e w' => e = .returned (.slice a n c) ∧ Jr w' g ap nx false none 0 0 lo ∧ w.grownBy w' (some g) := by
  obtain ⟨c0, c1, c2, c3, c4⟩ := h.cells
  have f2 := BxS.free h 2
  have f3 := BxS.free h 3
  have H : Hid _ := h
  clear h
  go_enter Try.func46, Try.ntmps46
  go_wp2
  go_ret
  have hJ : Jr w g ap nx op a n c lo := H.out
  exact ⟨rfl, (hJ.set2 _).set3 _ _ _, grown_trans (grown_set _ _ _ _) (grown_set _ _ _ _)⟩
theorem goOn_shut (g : Nat) (ap nx : Int) (a : Option Addr) (n c : Nat) (lo : Bool) (b : Option Addr) (m d : Nat) (w : World) (h : Jr w g ap nx false a n c lo) :
    Calls Try.prog 45 #[.pointer (some ⟨g, 0, none⟩), .slice b m d] w fun e w' => e = .returned (.tuple #[]) ∧ Jr w' g ap nx false none 0 0 true ∧ w.grownBy w' (some g) := by
  obtain ⟨c0, c1, c2, c3, c4⟩ := h.cells
  have f4 := BxS.free h 4
  have f3 := BxS.free h 3
  have H : Hid _ := h
  clear h
  go_enter Try.func45, Try.ntmps45
  go_wp2
  go_end0
  have hJ : Jr w g ap nx false a n c lo := H.out
  exact ⟨rfl, (hJ.set4 _).set3 _ _ _, grown_trans (grown_set _ _ _ _) (grown_set _ _ _ _)⟩
theorem goOn_long (g : Nat) (ap nx : Int) (a : Option Addr) (n c : Nat) (lo : Bool) (b : Option Addr) (m d : Nat) (w : World) (h : Jr w g ap nx true a n c lo) (hl : 1048576 < n + m) (h1 : n ≤ 140737488355328) (h2 : m ≤ 140737488355328) :
    Calls Try.prog 45 #[.pointer (some ⟨g, 0, none⟩), .slice b m d] w fun e w' => e = .returned (.tuple #[]) ∧ Jr w' g ap nx false none 0 0 true ∧ w.grownBy w' (some g) := by
  obtain ⟨c0, c1, c2, c3, c4⟩ := h.cells
  have d1 : decide ((1048576 : Int) < (n : Int) + (m : Int)) = true := decide_eq_true (by omega)
  go_enter Try.func45, Try.ntmps45
  go_wp2_with (go_at_call 44; refine (drop_any g ap nx true a n c lo w h).mono ?_; rintro e w1 ⟨rfl, hj, g1⟩)
  go_end0
  rw [Bool.or_true] at hj
  exact ⟨rfl, hj, g1⟩
set_option maxHeartbeats 2000000 in
theorem goOn_joins (g : Nat) (ap nx : Int) (a : Option Addr) (n c : Nat) (lo : Bool) (b : Option Addr) (m d : Nat) (U D : List Nat) (w : World) (h : Jr w g ap nx true a n c lo) (hU : Rd w a n c U) (hD : Rd w b m d D) (h0 : 0 < n) (h1 : 0 < m) (hl : n + m ≤ 1048576) :
    Calls Try.prog 45 #[.pointer (some ⟨g, 0, none⟩), .slice b m d] w fun e w' => e = .returned (.tuple #[]) ∧ ∃ g' c', Jr w' g ap nx true (some ⟨g', 0, none⟩) (n + m) c' lo ∧ Ans w' w.heap.size (some ⟨g', 0, none⟩) (n + m) c' (U ++ D) ∧ w.grownBy w' (some g) := by
  obtain ⟨c0, c1, c2, c3, c4⟩ := h.cells
  have d1 : decide ((1048576 : Int) < (n : Int) + (m : Int)) = false := decide_eq_false (by omega)
  have gA := World.grownBy_alloc w (.cells #[.slice a n c, .slice b m d] 23) none
  have hb := heap_alloc_new w (.cells #[.slice a n c, .slice b m d] 23)
  have hC := concat2_any a b n m c d w.heap.size U D (w.alloc (.cells #[.slice a n c, .slice b m d] 23)) hb (hU.keep gA) (hD.keep gA) h0 h1 (by omega)
  go_enter Try.func45, Try.ntmps45
  go_wp2_with (go_at_call 47; refine hC.mono ?_; rintro e w1 ⟨g', c', rfl, hA, G1⟩; have G := grown_trans gA G1; have hj : Jr w1 g ap nx true a n c lo := BxS.keep h G (by simp); have k3 := hj.cells.2.2.2.1; have f3 := BxS.free hj 3; have HJ : Hid _ := hj; clear hj)
  go_end0
  have hl2 : g < w.heap.size := BxS.lt h
  have hg' : w.heap.size ≤ g' := by have := hA.new g' rfl; simp at this; omega
  have hJ : Jr w1 g ap nx true a n c lo := HJ.out
  exact ⟨rfl, g', c', hJ.set3 _ _ _, (hA.kept (grown_set _ g 3 _) (.inr (by simp [Value.ownBlock]; omega))).wide (by simp), grown_trans (grown_weak G _) (grown_set _ _ _ _)⟩
end Go.Proofs.Ytmcadmndmafogaa
