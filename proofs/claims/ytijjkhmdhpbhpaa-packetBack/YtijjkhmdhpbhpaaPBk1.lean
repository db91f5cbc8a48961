import Derived.Test.YtijjkhmdhpbhpaaPOs
import Derived.Test.YtijjkhmdhpbhpaaPBkM
import Derived.Test.YtijjkhmdhpbhpaaZBx
import Derived.Test.YtijjkhmdhpbhpaaTFrL
namespace Go.Proofs.Ytijjkhmdhpbhpaa
open Go.RowKit
set_option maxRecDepth 100000
set_option linter.unusedVariables false
set_option linter.unusedSimpArgs false

theorem own_baseG {w : World} {base : Nat} {e : TypeId} {sz : Nat} {v : Value} {n : Nat} {xs : List Value} (h : w.ownsRow base e sz v n xs) : w.ownsRow 0 e sz v n xs := by
  refine ⟨h.1, ?_⟩
  rcases h.2 with h2 | ⟨g, cap, cur, h3, h4, h5⟩
  · exact .inl h2
  · exact .inr ⟨g, cap, cur, h3, Nat.zero_le _, h5⟩
/-- 'append(v, x...)', v the call's own, x not empty, whatever the elements are -/
theorem wpList_apS (w : World) {ops : Array Oper} {rest : List Oper} {o : Oper} {a : Act} {Q : Exit → Act → World → Prop} (hg : o.guard = none) (s x : Operand) (t e : TypeId) (i0 : TypeInfo) (z : Value) (sz by' : Nat) (hu : Try.prog.underlying t = some (.slice e)) (hi : Try.prog.info? e = some i0) (hz0 : i0.zero = some z) (hz1 : i0.size = sz) (hz2 : i0.bytes = by') (hzs : z.cells.size = sz) (hsz : 0 < sz)
    (hop : o.op = Op.call { callee := .builtin .append, args := #[s, x], argTypes := #[t, t] }) (v : Value) (n : Nat) (xs : List Value) (hs : a.eval s = v)
    (hown : w.ownsRow 0 e sz v n xs) (ad : Addr) (m c : Nat) (news : List Value) (hx : a.eval x = .slice (some ad) m c) (hn : news.length = m * sz)
    (hc : ∀ j u, news[j]? = some u → w.cell? (ad.add j) = some u) (h1 : ∀ u, u ∈ news → u.oneCell' = true) (hm : 0 < m) (hb1 : n + m ≤ maxLen) (hb2 : (n + m) * by' ≤ 140737488355328)
    (hK : ∀ g cap w', (v.ownBlock = some g ∨ w.heap.size ≤ g) → w.grownBy w' v.ownBlock → w'.ownsRow 0 e sz (.slice (some ⟨g, 0, none⟩) (n + m) cap) (n + m) (xs ++ news) →
      wpList Try.prog ops Q rest (a.put o.dst (.slice (some ⟨g, 0, none⟩) (n + m) cap)) w') :
    wpList Try.prog ops Q (o :: rest) a w := by
  have grow : ∀ (ao : Option Addr) (cap : Nat), v = .slice ao n cap → (ao = none → n = 0 ∧ cap = 0) → (∀ b, ao = some b → ∀ j u, xs[j]? = some u → w.cell? (b.add j) = some u) → cap < n + m → wpList Try.prog ops Q (o :: rest) a w := by
    intro ao cap hv hnone hcells hfull
    refine wpList_append_grows w hg s x t hop e i0 z sz by' hu hi hz0 hz1 hz2 hzs hsz ao n cap xs (by rw [hs, hv]) hnone (by rw [hown.1]) hcells ad m c news hx hn hc h1 hfull hb1 hb2 ?_
    intro v' w' hown' hgr
    rcases hown'.2 with ⟨_, h0⟩ | ⟨g, cap', cur, rfl, hge, hrest⟩
    · omega
    · exact hK g cap' w' (.inr hge) (grown_weak hgr _) (own_baseG hown')
  rcases hown.2 with ⟨rfl, h0⟩ | ⟨g, cap, cur, rfl, hbase, hh, hle, hmax, hsz', htake⟩
  · subst h0
    exact grow none 0 rfl (fun _ => ⟨rfl, rfl⟩) (fun b hb => by cases hb) (by omega)
  · by_cases hroom : n + m ≤ cap
    · refine wpList_append_fits w hg s x t hop 0 e i0 sz hu hi hz1 g n cap xs hs hown ad m c news hx hn hc h1 hroom ?_
      intro w' hown' hgr
      exact hK g cap w' (.inl rfl) hgr hown'
    · refine grow (some ⟨g, 0, none⟩) cap rfl (fun h => by cases h) ?_ (by omega)
      intro b hb j u hu
      cases hb
      exact hown.cells (g := g) rfl j u hu
/-- packets in a row of the call's own -/
def flatP (ps : List Pk) : List Value := ps.flatMap Pk.cells
theorem flatP_len (ps : List Pk) : (flatP ps).length = ps.length * 6 := by
  induction ps with
  | nil => rfl
  | cons p ps ih => simp only [flatP, List.flatMap_cons, List.length_append, List.length_cons] at *; rw [ih]; simp [Pk.cells]; omega
theorem flatP_add (ps : List Pk) (p : Pk) : flatP ps ++ p.cells = flatP (ps ++ [p]) := by simp [flatP]
theorem flatP_get (ps : List Pk) (i j : Nat) (hi : i < ps.length) (hj : j < 6) : (flatP ps)[i * 6 + j]? = (ps[i]).cells[j]? := by
  induction ps generalizing i with
  | nil => simp at hi
  | cons p ps ih =>
    have hc : p.cells.length = 6 := rfl
    simp only [flatP, List.flatMap_cons]
    cases i with
    | zero =>
      rw [List.getElem?_append_left (by rw [hc]; omega)]
      simp
    | succ i =>
      rw [List.getElem?_append_right (by rw [hc]; omega), hc, show (i + 1) * 6 + j - 6 = i * 6 + j by omega]
      exact ih i (by simpa using hi)
structure OwP (w : World) (lo : Nat) (a : Option Addr) (n cap : Nat) (ps : List Pk) : Prop where
  own : w.ownsRow 0 29 6 (.slice a n cap) n (flatP ps)
  len : ps.length = n
  new : ∀ g, (Value.slice a n cap).ownBlock = some g → lo ≤ g
theorem OwP.nil (w : World) (lo : Nat) : OwP w lo none 0 0 [] := ⟨World.ownsRow_nil _ _ _ _, rfl, fun g h => by simp [Value.ownBlock] at h⟩
theorem OwP.kept {w w' : World} {lo : Nat} {a : Option Addr} {n cap : Nat} {ps : List Pk} {r : Option Nat} (h : OwP w lo a n cap ps) (hg : w.grownBy w' r) (hne : (Value.slice a n cap).ownBlock = none ∨ (Value.slice a n cap).ownBlock ≠ r) : OwP w' lo a n cap ps := ⟨h.own.kept hg hne, h.len, h.new⟩
theorem OwP.keep {w w' : World} {lo : Nat} {a : Option Addr} {n cap : Nat} {ps : List Pk} (h : OwP w lo a n cap ps) (hg : w.grownBy w' none) : OwP w' lo a n cap ps := h.kept hg (by cases (Value.slice a n cap).ownBlock <;> simp)
theorem OwP.cases {w : World} {lo : Nat} {a : Option Addr} {n cap : Nat} {ps : List Pk} (h : OwP w lo a n cap ps) : (a = none ∧ n = 0 ∧ cap = 0) ∨ ∃ g, a = some ⟨g, 0, none⟩ ∧ lo ≤ g ∧ g < w.heap.size := by
  rcases h.own.2 with ⟨h1, h2⟩ | ⟨g, cap', cur, h1, _, h3, _⟩
  · simp only [Value.slice.injEq] at h1; exact .inl h1
  · simp only [Value.slice.injEq] at h1
    obtain ⟨rfl, _, _⟩ := h1
    exact .inr ⟨g, rfl, h.new g rfl, (Array.getElem?_eq_some_iff.1 h3).1⟩
theorem OwP.cell {w : World} {lo g n cap : Nat} {ps : List Pk} (h : OwP w lo (some ⟨g, 0, none⟩) n cap ps) (i j : Nat) (hi : i < ps.length) (hj : j < 6) : w.cell? ⟨g, i * 6 + j, none⟩ = (ps[i]).cells[j]? := by
  have hk : i * 6 + j < (flatP ps).length := by rw [flatP_len]; omega
  obtain ⟨u, hu⟩ : ∃ u, (flatP ps)[i * 6 + j]? = some u := ⟨_, List.getElem?_eq_getElem hk⟩
  have := h.own.cells (g := g) rfl (i * 6 + j) u hu
  rw [addr_add', Nat.zero_add] at this
  rw [this, ← hu, flatP_get ps i j hi hj]
theorem Try.info_pk3 : (Try.prog.info? 29).map (fun i => (i.zero, i.size, i.bytes)) = some (some (.agg #[.bool false, .bool false, .int .i64 0, .int .i64 0, .int .i64 0, .slice none 0 0]), 6, 56) := by kernel_rfl
theorem cells_six (w : World) (p : Pk) (j : Nat) (u : Value) (h : p.cells[j]? = some u) : (w.alloc (.cells p.cells.toArray 29)).cell? ((⟨w.heap.size, 0, none⟩ : Addr).add j) = some u := by
  rw [addr_add', Nat.zero_add]
  have hb := heap_alloc_new w (.cells p.cells.toArray 29)
  rw [cell_of_row _ _ _ _ _ _ hb]
  simpa using h
/-- 'append(v, p)' -/
theorem wpList_psP (w0 w : World) (p : Pk) {ops : Array Oper} {rest : List Oper} {o : Oper} {a : Act} {Q : Exit → Act → World → Prop} (hg : o.guard = none) (s x : Operand)
    (hop : o.op = Op.call { callee := .builtin .append, args := #[s, x], argTypes := #[22, 22] }) (ao : Option Addr) (m co : Nat) (ps : List Pk) (hs : a.eval s = .slice ao m co)
    (hA : OwP w w0.heap.size ao m co ps) (hG : w0.grownBy w none) (hx : a.eval x = .slice (some ⟨w.heap.size, 0, none⟩) 1 1) (hb : m + 1 ≤ 1000000)
    (hK : ∀ gx cx w', OwP w' w0.heap.size (some ⟨gx, 0, none⟩) (m + 1) cx (ps ++ [p]) → w0.grownBy w' none → w.grownBy w' (Value.slice ao m co).ownBlock → wpList Try.prog ops Q rest (a.put o.dst (.slice (some ⟨gx, 0, none⟩) (m + 1) cx)) w') :
    wpList Try.prog ops Q (o :: rest) a (w.alloc (.cells p.cells.toArray 29)) := by
  obtain ⟨i0, hi, hz0, hz1, hz2⟩ : ∃ i0, Try.prog.info? 29 = some i0 ∧ i0.zero = some (.agg #[.bool false, .bool false, .int .i64 0, .int .i64 0, .int .i64 0, .slice none 0 0]) ∧ i0.size = 6 ∧ i0.bytes = 56 := by
    have h := Try.info_pk3
    cases hh : Try.prog.info? 29 with
    | none => rw [hh] at h; simp at h
    | some i0 => rw [hh] at h; simp at h; exact ⟨i0, rfl, h.1, h.2.1, h.2.2⟩
  have gA := World.grownBy_alloc w (.cells p.cells.toArray 29) none
  refine wpList_apS _ hg s x 22 29 i0 _ 6 56 Try.underlying22 hi hz0 hz1 hz2 rfl (by decide) hop (.slice ao m co) m (flatP ps) hs (hA.own.alloc _) ⟨w.heap.size, 0, none⟩ 1 1 p.cells hx rfl (cells_six w p) (by simp [Pk.cells, Value.oneCell']) (by decide) (by unfold maxLen; omega) (by omega) ?_
  intro g cap w' hgx hgr hown
  rw [flatP_add] at hown
  have hsz := hG.size
  refine hK g cap w' ⟨hown, by rw [List.length_append, hA.len]; rfl, fun y hy => ?_⟩ (grown_far (grown_trans hG gA) hgr (fun y hy => hA.new y hy)) (grown_trans (grown_weak gA _) hgr)
  have e : g = y := Option.some.inj hy
  subst e
  rcases hgx with h | h
  · exact hA.new g h
  · simp at h; omega
end Go.Proofs.Ytijjkhmdhpbhpaa
