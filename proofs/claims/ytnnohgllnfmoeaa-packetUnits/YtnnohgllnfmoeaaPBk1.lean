import Derived.Test.YtnnohgllnfmoeaaPOs
import Derived.Test.YtnnohgllnfmoeaaPBkM
import Derived.Test.YtnnohgllnfmoeaaZBx
import Derived.Test.YtnnohgllnfmoeaaZAp
import Derived.Test.YtnnohgllnfmoeaaTFrL
namespace Go.Proofs.Ytnnohgllnfmoeaa
open Go.RowKit
set_option maxRecDepth 100000
set_option linter.unusedVariables false
set_option linter.unusedSimpArgs false

/-- packets in a row of the call's own -/
def flatP (ps : List Pk) : List Value := ps.flatMap Pk.cells
theorem flatP_len (ps : List Pk) : (flatP ps).length = ps.length * 6 := by
  induction ps with
  | nil => rfl
  | cons p ps ih => simp only [flatP, List.flatMap_cons, List.length_append, List.length_cons] at *; rw [ih]; simp [Pk.cells]; omega
theorem flatP_add (ps : List Pk) (p : Pk) : flatP ps ++ p.cells = flatP (ps ++ [p]) := by simp [flatP]
theorem flatP_get (ps : List Pk) (i j : Nat) (hi : i < ps.length) (hj : j < 6) : (flatP ps)[i * 6 + j]? = (ps[i]).cells[j]? := by
  induction ps generalizing i with
  | nil => simp at hi
  | cons p ps ih =>
    have hc : p.cells.length = 6 := rfl
    simp only [flatP, List.flatMap_cons]
    cases i with
    | zero =>
      rw [List.getElem?_append_left (by rw [hc]; omega)]
      simp
    | succ i =>
      rw [List.getElem?_append_right (by rw [hc]; omega), hc, show (i + 1) * 6 + j - 6 = i * 6 + j by omega]
      exact ih i (by simpa using hi)
structure OwP (w : World) (lo : Nat) (a : Option Addr) (n cap : Nat) (ps : List Pk) : Prop where
  own : w.ownsRow 0 33 6 (.slice a n cap) n (flatP ps)
  len : ps.length = n
  new : ∀ g, (Value.slice a n cap).ownBlock = some g → lo ≤ g
theorem OwP.nil (w : World) (lo : Nat) : OwP w lo none 0 0 [] := ⟨World.ownsRow_nil _ _ _ _, rfl, fun g h => by simp [Value.ownBlock] at h⟩
theorem OwP.kept {w w' : World} {lo : Nat} {a : Option Addr} {n cap : Nat} {ps : List Pk} {r : Option Nat} (h : OwP w lo a n cap ps) (hg : w.grownBy w' r) (hne : (Value.slice a n cap).ownBlock = none ∨ (Value.slice a n cap).ownBlock ≠ r) : OwP w' lo a n cap ps := ⟨h.own.kept hg hne, h.len, h.new⟩
theorem OwP.keep {w w' : World} {lo : Nat} {a : Option Addr} {n cap : Nat} {ps : List Pk} (h : OwP w lo a n cap ps) (hg : w.grownBy w' none) : OwP w' lo a n cap ps := h.kept hg (by cases (Value.slice a n cap).ownBlock <;> simp)
theorem OwP.cases {w : World} {lo : Nat} {a : Option Addr} {n cap : Nat} {ps : List Pk} (h : OwP w lo a n cap ps) : (a = none ∧ n = 0 ∧ cap = 0) ∨ ∃ g, a = some ⟨g, 0, none⟩ ∧ lo ≤ g ∧ g < w.heap.size := by
  rcases h.own.2 with ⟨h1, h2⟩ | ⟨g, cap', cur, h1, _, h3, _⟩
  · simp only [Value.slice.injEq] at h1; exact .inl h1
  · simp only [Value.slice.injEq] at h1
    obtain ⟨rfl, _, _⟩ := h1
    exact .inr ⟨g, rfl, h.new g rfl, (Array.getElem?_eq_some_iff.1 h3).1⟩
theorem OwP.cell {w : World} {lo g n cap : Nat} {ps : List Pk} (h : OwP w lo (some ⟨g, 0, none⟩) n cap ps) (i j : Nat) (hi : i < ps.length) (hj : j < 6) : w.cell? ⟨g, i * 6 + j, none⟩ = (ps[i]).cells[j]? := by
  have hk : i * 6 + j < (flatP ps).length := by rw [flatP_len]; omega
  obtain ⟨u, hu⟩ : ∃ u, (flatP ps)[i * 6 + j]? = some u := ⟨_, List.getElem?_eq_getElem hk⟩
  have := h.own.cells (g := g) rfl (i * 6 + j) u hu
  rw [addr_add', Nat.zero_add] at this
  rw [this, ← hu, flatP_get ps i j hi hj]
theorem Try.info_pk3 : (Try.prog.info? 33).map (fun i => (i.zero, i.size, i.bytes)) = some (some (.agg #[.bool false, .bool false, .int .i64 0, .int .i64 0, .int .i64 0, .slice none 0 0]), 6, 56) := by kernel_rfl
theorem cells_six (w : World) (p : Pk) (j : Nat) (u : Value) (h : p.cells[j]? = some u) : (w.alloc (.cells p.cells.toArray 33)).cell? ((⟨w.heap.size, 0, none⟩ : Addr).add j) = some u := by
  rw [addr_add', Nat.zero_add]
  have hb := heap_alloc_new w (.cells p.cells.toArray 33)
  rw [cell_of_row _ _ _ _ _ _ hb]
  simpa using h
/-- 'append(v, p)' -/
theorem wpList_psP (w0 w : World) (p : Pk) {ops : Array Oper} {rest : List Oper} {o : Oper} {a : Act} {Q : Exit → Act → World → Prop} (hg : o.guard = none) (s x : Operand)
    (hop : o.op = Op.call { callee := .builtin .append, args := #[s, x], argTypes := #[24, 24] }) (ao : Option Addr) (m co : Nat) (ps : List Pk) (hs : a.eval s = .slice ao m co)
    (hA : OwP w w0.heap.size ao m co ps) (hG : w0.grownBy w none) (hx : a.eval x = .slice (some ⟨w.heap.size, 0, none⟩) 1 1) (hb : m + 1 ≤ 1000000)
    (hK : ∀ gx cx w', OwP w' w0.heap.size (some ⟨gx, 0, none⟩) (m + 1) cx (ps ++ [p]) → w0.grownBy w' none → w.grownBy w' (Value.slice ao m co).ownBlock → wpList Try.prog ops Q rest (a.put o.dst (.slice (some ⟨gx, 0, none⟩) (m + 1) cx)) w') :
    wpList Try.prog ops Q (o :: rest) a (w.alloc (.cells p.cells.toArray 33)) := by
  obtain ⟨i0, hi, hz0, hz1, hz2⟩ : ∃ i0, Try.prog.info? 33 = some i0 ∧ i0.zero = some (.agg #[.bool false, .bool false, .int .i64 0, .int .i64 0, .int .i64 0, .slice none 0 0]) ∧ i0.size = 6 ∧ i0.bytes = 56 := by
    have h := Try.info_pk3
    cases hh : Try.prog.info? 33 with
    | none => rw [hh] at h; simp at h
    | some i0 => rw [hh] at h; simp at h; exact ⟨i0, rfl, h.1, h.2.1, h.2.2⟩
  have gA := World.grownBy_alloc w (.cells p.cells.toArray 33) none
  refine wpList_apS _ hg s x 24 33 i0 _ 6 56 Try.underlying24 hi hz0 hz1 hz2 rfl (by decide) hop (.slice ao m co) m (flatP ps) hs (hA.own.alloc _) ⟨w.heap.size, 0, none⟩ 1 1 p.cells hx rfl (cells_six w p) (by simp [Pk.cells, Value.oneCell']) (by decide) (by unfold maxLen; omega) (by omega) ?_
  intro g cap w' hgx hgr hown
  rw [flatP_add] at hown
  have hsz := hG.size
  refine hK g cap w' ⟨hown, by rw [List.length_append, hA.len]; rfl, fun y hy => ?_⟩ (grown_far (grown_trans hG gA) hgr (fun y hy => hA.new y hy)) (grown_trans (grown_weak gA _) hgr)
  have e : g = y := Option.some.inj hy
  subst e
  rcases hgx with h | h
  · exact hA.new g h
  · simp at h; omega
end Go.Proofs.Ytnnohgllnfmoeaa
