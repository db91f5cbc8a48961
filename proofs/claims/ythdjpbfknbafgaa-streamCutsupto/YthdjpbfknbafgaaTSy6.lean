import Derived.Test.YthdjpbfknbafgaaTSy3
import Derived.Maps.AppendAt
namespace Go.Proofs.Ythdjpbfknbafgaa
open Go.RowKit Go.Shelf
set_option maxRecDepth 100000
set_option linter.unusedVariables false
set_option linter.unusedSimpArgs false

/-! what is found -/
structure Fv where
  p : Nat
  tu : Bool
  mi : Nat
  a : Option Addr
  n : Nat
  D : List Nat
def cellsF (f : Fv) : List Value := [.int .i64 f.p, .bool f.tu, .int .i64 f.mi, .slice f.a f.n f.n]
def flatF (fs : List Fv) : List Value := fs.flatMap cellsF
theorem flatF_len (fs : List Fv) : (flatF fs).length = fs.length * 4 := by
  induction fs with
  | nil => rfl
  | cons f fs ih => show (cellsF f ++ flatF fs).length = _; rw [List.length_append, ih, List.length_cons]; show 4 + _ = _; omega
theorem flatF_add (fs : List Fv) (f : Fv) : flatF fs ++ cellsF f = flatF (fs ++ [f]) := by simp [flatF]
theorem Try.info_fd : (Try.prog.info? 42).map (fun i => (i.zero, i.size, i.bytes)) = some (some (.agg #[.int .i64 0, .bool false, .int .i64 0, .slice none 0 0]), 4, 48) := by kernel_rfl
theorem cells_four (w : World) (a b c d : Value) (j : Nat) (u : Value) (h : [a, b, c, d][j]? = some u) : (w.alloc (.cells #[a, b, c, d] 42)).cell? ((⟨w.heap.size, 0, none⟩ : Addr).add j) = some u := by
  rw [addr_add, cell_of_row _ _ _ _ _ _ (heap_alloc_new w _)]
  simpa using h
theorem own_base' {w : World} {base e sz : Nat} {v : Value} {n : Nat} {xs : List Value} (h : w.ownsRow base e sz v n xs) : w.ownsRow 0 e sz v n xs := by
  refine ⟨h.1, ?_⟩
  rcases h.2 with h2 | ⟨g, cap, cur, h3, h4, h5⟩
  · exact .inl h2
  · exact .inr ⟨g, cap, cur, h3, Nat.zero_le _, h5⟩
/-- 'append(v, x...)', v the call's own, x not empty, whatever the elements are -/
theorem wpList_apG (w : World) {ops : Array Oper} {rest : List Oper} {o : Oper} {a : Act} {Q : Exit → Act → World → Prop} (hg : o.guard = none) (s x : Operand) (t e : TypeId) (i0 : TypeInfo) (z : Value) (sz by' : Nat) (hu : Try.prog.underlying t = some (.slice e)) (hi : Try.prog.info? e = some i0) (hz0 : i0.zero = some z) (hz1 : i0.size = sz) (hz2 : i0.bytes = by') (hzs : z.cells.size = sz) (hsz : 0 < sz)
    (hop : o.op = Op.call { callee := .builtin .append, args := #[s, x], argTypes := #[t, t] }) (v : Value) (n : Nat) (xs : List Value) (hs : a.eval s = v)
    (hown : w.ownsRow 0 e sz v n xs) (ad : Addr) (m c : Nat) (news : List Value) (hx : a.eval x = .slice (some ad) m c) (hn : news.length = m * sz)
    (hc : ∀ j u, news[j]? = some u → w.cell? (ad.add j) = some u) (h1 : ∀ u, u ∈ news → u.oneCell' = true) (hm : 0 < m) (hb1 : n + m ≤ maxLen) (hb2 : (n + m) * by' ≤ 140737488355328)
    (hK : ∀ g cap w', (v.ownBlock = some g ∨ w.heap.size ≤ g) → w.grownBy w' v.ownBlock → w'.ownsRow 0 e sz (.slice (some ⟨g, 0, none⟩) (n + m) cap) (n + m) (xs ++ news) →
      wpList Try.prog ops Q rest (a.put o.dst (.slice (some ⟨g, 0, none⟩) (n + m) cap)) w') :
    wpList Try.prog ops Q (o :: rest) a w := by
  have grow : ∀ (ao : Option Addr) (cap : Nat), v = .slice ao n cap → (ao = none → n = 0 ∧ cap = 0) → (∀ b, ao = some b → ∀ j u, xs[j]? = some u → w.cell? (b.add j) = some u) → cap < n + m → wpList Try.prog ops Q (o :: rest) a w := by
    intro ao cap hv hnone hcells hfull
    refine wpList_append_grows w hg s x t hop e i0 z sz by' hu hi hz0 hz1 hz2 hzs hsz ao n cap xs (by rw [hs, hv]) hnone (by rw [hown.1]) hcells ad m c news hx hn hc h1 hfull hb1 hb2 ?_
    intro v' w' hown' hgr
    rcases hown'.2 with ⟨_, h0⟩ | ⟨g, cap', cur, rfl, hge, hrest⟩
    · omega
    · exact hK g cap' w' (.inr hge) (grown_weak hgr _) (own_base' hown')
  rcases hown.2 with ⟨rfl, h0⟩ | ⟨g, cap, cur, rfl, hbase, hh, hle, hmax, hsz', htake⟩
  · subst h0
    exact grow none 0 rfl (fun _ => ⟨rfl, rfl⟩) (fun b hb => by cases hb) (by omega)
  · by_cases hroom : n + m ≤ cap
    · refine wpList_append_fits w hg s x t hop 0 e i0 sz hu hi hz1 g n cap xs hs hown ad m c news hx hn hc h1 hroom ?_
      intro w' hown' hgr
      exact hK g cap w' (.inl rfl) hgr hown'
    · refine grow (some ⟨g, 0, none⟩) cap rfl (fun h => by cases h) ?_ (by omega)
      intro b hb j u hu
      cases hb
      exact hown.cells (g := g) rfl j u hu
/-- all blocks but those that p names lie as they lay -/
structure Frm (p : Nat → Prop) (w w' : World) : Prop where
  os : w'.os = w.os
  tape : w'.tape = w.tape
  output : w'.output = w.output
  size : w.heap.size ≤ w'.heap.size
  block : ∀ k, k < w.heap.size → ¬ p k → w'.heap[k]? = w.heap[k]?
theorem Frm.refl (p : Nat → Prop) (w : World) : Frm p w w := ⟨rfl, rfl, rfl, Nat.le_refl _, fun _ _ _ => rfl⟩
theorem Frm.of {p : Nat → Prop} {w w' : World} {r : Option Nat} (h : w.grownBy w' r) (hr : ∀ k, r = some k → k < w.heap.size → p k) : Frm p w w' :=
  ⟨h.os, h.tape, h.output, h.size, fun k hk hn => h.block k hk (fun e => hn (hr k e.symm hk))⟩
theorem Frm.trans {p q : Nat → Prop} {a b c : World} (h : Frm p a b) (k : Frm q b c) (hq : ∀ i, i < a.heap.size → q i → p i) : Frm p a c :=
  ⟨k.os.trans h.os, k.tape.trans h.tape, k.output.trans h.output, Nat.le_trans h.size k.size, fun i hi hn => (k.block i (Nat.lt_of_lt_of_le hi h.size) (fun e => hn (hq i hi e))).trans (h.block i hi hn)⟩
theorem Frm.weak {p q : Nat → Prop} {a b : World} (h : Frm p a b) (hq : ∀ i, i < a.heap.size → p i → q i) : Frm q a b := ⟨h.os, h.tape, h.output, h.size, fun i hi hn => h.block i hi (fun e => hn (hq i hi e))⟩
set_option maxHeartbeats 2000000 in
/-- 'found = append(found, f)' -/
theorem tell_any (fb : Nat) (v : Value) (fs : List Fv) (f : Fv) (w : World) (hb : Boxed w fb 33 v) (hrow : w.ownsRow 0 42 4 v fs.length (flatF fs)) (hn : fs.length ≤ 4194304) :
    Calls Try.prog 27 #[.agg #[.int .i64 f.p, .bool f.tu, .int .i64 f.mi, .slice f.a f.n f.n], .pointer (some ⟨fb, 0, none⟩)] w fun e w' => e = .returned (.tuple #[]) ∧ ∃ v', Boxed w' fb 33 v' ∧ w'.ownsRow 0 42 4 v' (fs ++ [f]).length (flatF (fs ++ [f])) ∧ (∀ x, v'.ownBlock = some x → v.ownBlock = some x ∨ w.heap.size ≤ x) ∧ Frm (fun k => k = fb ∨ some k = v.ownBlock) w w' := by
  obtain ⟨i0, hi, hz0, hz1, hz2⟩ := info_parts Try.info_fd
  have hl := flatF_len fs
  obtain ⟨av, nv, cv, rfl⟩ : ∃ av nv cv, v = .slice av nv cv := by
    rcases hrow.2 with ⟨rfl, _⟩ | ⟨g, cap, cur, rfl, _⟩
    · exact ⟨_, _, _, rfl⟩
    · exact ⟨_, _, _, rfl⟩
  have b1 := hb.alloc (.cells #[.int .i64 f.p, .bool f.tu, .int .i64 f.mi, .slice f.a f.n f.n] 42)
  have hc := b1.cell
  have hr1 := hrow.alloc (.cells #[.int .i64 f.p, .bool f.tu, .int .i64 f.mi, .slice f.a f.n f.n] 42)
  have gA := World.grownBy_alloc w (.cells #[.int .i64 f.p, .bool f.tu, .int .i64 f.mi, .slice f.a f.n f.n] 42) none
  have hs1 : (w.alloc (.cells #[.int .i64 f.p, .bool f.tu, .int .i64 f.mi, .slice f.a f.n f.n] 42)).heap.size = w.heap.size + 1 := by simp
  go_enter Try.func27, Try.ntmps27
  go_wp2_with (at_builtin; refine wpList_apG _ rfl _ _ 33 42 i0 _ 4 48 Try.underlying33 hi hz0 hz1 hz2 rfl (by decide) rfl (.slice av nv cv) fs.length (flatF fs) rfl (hr1.alloc _) ⟨w.heap.size + 1, 0, none⟩ 1 1 (cellsF f) rfl rfl (by rw [← hs1]; exact cells_four _ _ _ _ _) (by simp [cellsF, Value.oneCell']) (by decide) (by unfold maxLen; omega) (by omega) ?_; intro g' cap' w2 hnw hgrow hown'; have nb := (b1.alloc (.cells #[.int .i64 f.p, .bool f.tu, .int .i64 f.mi, .slice f.a f.n f.n] 42)).not_row (e := 42) (by decide) (hr1.alloc _); have b2 := (b1.alloc (.cells #[.int .i64 f.p, .bool f.tu, .int .i64 f.mi, .slice f.a f.n f.n] 42)).kept hgrow nb; have hc2 := b2.cell; have hf2 := b2.frozen)
  go_end0
  have b3 := b2.set (.slice (some ⟨g', 0, none⟩) (fs.length + 1) cap')
  have r3 := hown'.kept (grown_set w2 fb 0 (.slice (some ⟨g', 0, none⟩) (fs.length + 1) cap')) (.inr (b2.not_row (e := 42) (by decide) hown').symm)
  rw [flatF_add] at r3
  refine ⟨rfl, _, b3, by rw [List.length_append]; exact r3, ?_, ?_⟩
  · intro x hx
    have e : g' = x := Option.some.inj hx
    subst e
    rcases hnw with h | h
    · exact .inl h
    · simp at h; exact .inr (by omega)
  · have F1 : Frm (fun k => k = fb ∨ some k = (Value.slice av nv cv).ownBlock) w w2 := (Frm.of (grown_trans gA (World.grownBy_alloc _ _ none)) (fun k e _ => by cases e)).trans (Frm.of (p := fun k => some k = (Value.slice av nv cv).ownBlock) hgrow (fun k e _ => e.symm)) (fun i _ h => .inr h)
    exact F1.trans (Frm.of (p := fun k => k = fb) (grown_set w2 fb 0 _) (fun k e _ => by cases e; rfl)) (fun i _ h => .inl h)
end Go.Proofs.Ythdjpbfknbafgaa
