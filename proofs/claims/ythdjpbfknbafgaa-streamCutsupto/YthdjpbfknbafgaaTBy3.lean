import Derived.Test.YthdjpbfknbafgaaTBy2
namespace Go.Proofs.Ythdjpbfknbafgaa
open Go.RowKit Go.Shelf
set_option maxRecDepth 100000
set_option linter.unusedVariables false
set_option linter.unusedSimpArgs false
attribute [local go_sem] Oper.semAt_some

theorem results_cells2 {fn : Func} {p q : Tmp} {t u : TypeId} (h : fn.results = #[.cell p t, .cell q u]) (tmps : Array Value) (P : Program) (w : World) (a b : Addr) (v x : Value) (ha : tmps.getD p undef = .pointer (some a)) (hl : (loadVar t a).run P w = .ok v w) (hb : tmps.getD q undef = .pointer (some b)) (hx : (loadVar u b).run P w = .ok x w) :
    (results fn tmps).run P w = .ok (.tuple #[v, x]) w := by
  rw [Array.getD_eq_getD_getElem?] at ha hb
  simp only [results, h]
  simp [Sem.run_bind, Result.andThen, ha, hb, asAddr, hl, hx]
theorem Try.cells_sl (w : World) (B : Nat) (v : Value) (h : w.cell? ⟨B, 0, none⟩ = some v) : (loadVar 25 ⟨B, 0, none⟩).run Try.prog w = .ok v w := by
  simp [go_sem, h]
theorem Try.cells_er (w : World) (B : Nat) (v : Value) (h : w.cell? ⟨B, 0, none⟩ = some v) : (loadVar 29 ⟨B, 0, none⟩).run Try.prog w = .ok v w := by
  simp [go_sem, h]
theorem ans_of_row {W : World} {base k : Nat} {v : Value} {L : List Nat} (h : W.ownsRow base 5 1 v k (bys L)) (hL : IsB L) : ∃ a n c, v = .slice a n c ∧ Ans W base a n c L := by
  have hk : L.length = k := by have := h.1; rw [bys_length] at this; omega
  have h0 := own_base h
  rcases h.2 with ⟨rfl, h2⟩ | ⟨g, cap, cur, rfl, hge, _⟩
  · subst h2; exact ⟨none, 0, 0, rfl, h0, hL, fun g hg => by simp [Value.ownBlock] at hg⟩
  · exact ⟨_, _, _, rfl, h0, hL, fun g' hg => by have e : g = g' := Option.some.inj hg; omega⟩
theorem bys_isB {B : List Nat} {m : Nat} (ys : List (Pc m)) (h : ∀ x, x ∈ ys → BitTo (pcL B x.1) 8) : IsB (ys.map fun x => pcV B x.1) := by
  intro y hy
  obtain ⟨x, hx, rfl⟩ := List.mem_map.1 hy
  exact pcV_lt B x.1 ((pc_bit B x.1).1 (h x hx))
theorem all_bits (B : List Nat) (m : Nat) (ys : List (Pc m)) (hys : ys.map (·.1) = List.range m) (h : ∀ x, x ∈ ys → BitTo (pcL B x.1) 8) : BitTo B (8 * m) := by
  intro i hi
  have hin : i / 8 ∈ List.range m := List.mem_range.2 (by omega)
  rw [← hys] at hin
  obtain ⟨x, hx, e⟩ := List.mem_map.1 hin
  have := (pc_bit B x.1).1 (h x hx) (i % 8) (by omega)
  rw [show 8 * x.1 + i % 8 = i from by rw [e]; omega] at this
  exact this
/-- between two rounds; a round has left -/
def byI (B : List Nat) (w : World) (o m cap : Nat) (a : Option Addr) (pre : List (Pc m)) (W : World) : Prop :=
  (∃ v, Boxed W o 25 v ∧ W.ownsRow w.heap.size 5 1 v pre.length (bys (pre.map fun x => pcV B x.1)) ∧ True) ∧ (Boxed W w.heap.size 25 (.slice none 0 0) ∧ Boxed W (w.heap.size + 1) 29 (.int .i64 0) ∧ Boxed W (o + 1) 25 (.slice a (8 * m) cap) ∧ Boxed W (o + 1 + 1) 3 (.int .i64 8)) ∧ (∀ x, x ∈ pre → BitTo (pcL B x.1) 8) ∧ Below w.heap.size w W
def byX (B : List Nat) (w : World) (m : Nat) (c : Code) (pre : List (Pc m)) (W : World) : Prop :=
  (c = .ret ∧ Boxed W w.heap.size 25 (.slice none 0 0) ∧ Boxed W (w.heap.size + 1) 29 (.int .i64 2) ∧ ∃ x : Pc m, ¬ BitTo (pcL B x.1) 8) ∧ Below w.heap.size w W
theorem boxed_from {W W' : World} {row : Option Nat} {B k : Nat} {t : TypeId} {v : Value} (h : Boxed W B t v) (hg : W.grownBy W' row) (hr : ∀ r, row = some r → k ≤ r ∧ ∃ o : Obj, W.heap[r]? = some o ∧ o.isCells = false) : Boxed W' B t v :=
  h.kept hg (fun e => by
    obtain ⟨_, o, ho, hc⟩ := hr B e.symm
    rw [show W.heap[B]? = _ from h] at ho; cases ho; cases hc)
theorem row_from {W W' : World} {row : Option Nat} {base e size n k : Nat} {v : Value} {xs : List Value} (h : W.ownsRow base e size v n xs) (hg : W.grownBy W' row) (hr : ∀ r, row = some r → k ≤ r ∧ ∃ o : Obj, W.heap[r]? = some o ∧ o.isCells = false) : W'.ownsRow base e size v n xs := by
  refine h.kept hg ?_
  rcases h.2 with ⟨rfl, _⟩ | ⟨g, cap, cur, rfl, _, hgb, _⟩
  · exact .inl rfl
  · refine .inr fun e' => ?_
    obtain ⟨_, o, ho, hc⟩ := hr g e'.symm
    rw [hgb] at ho; cases ho; cases hc
theorem below_from {w W W' : World} {row : Option Nat} {k : Nat} (h : Below w.heap.size w W) (hg : W.grownBy W' row) (hk : w.heap.size ≤ k) (hr : ∀ r, row = some r → k ≤ r ∧ ∃ o : Obj, W.heap[r]? = some o ∧ o.isCells = false) : Below w.heap.size w W' :=
  h.grown hg h.size (fun r e => by have := (hr r e).1; omega)
theorem byI_own (B : List Nat) (w : World) (o m cap : Nat) (a : Option Addr) (k : Nat) (hk : w.heap.size ≤ k) : OwnFrom k (byI B w o m cap a) := by
  rintro s X Y row ⟨⟨v, hv, hrow, ht⟩, ⟨h2, h3, h4, h5⟩, h6, h7⟩ hg hr
  exact ⟨⟨v, boxed_from hv hg hr, row_from hrow hg hr, ht⟩, ⟨boxed_from h2 hg hr, boxed_from h3 hg hr, boxed_from h4 hg hr, boxed_from h5 hg hr⟩, h6, below_from h7 hg hk hr⟩
theorem byX_own (B : List Nat) (w : World) (m k : Nat) (hk : w.heap.size ≤ k) (c : Code) : OwnFrom k (byX B w m c) := by
  rintro s X Y row ⟨⟨h1, h2, h3, h4⟩, h7⟩ hg hr
  exact ⟨⟨h1, boxed_from h2 hg hr, boxed_from h3 hg hr, h4⟩, below_from h7 hg hk hr⟩
end Go.Proofs.Ythdjpbfknbafgaa
