import Derived.Test.YtdcfgaibppenaaaDoorSd14
import Derived.Test.YtdcfgaibppenaaaDoorSd8
import Derived.Test.YtdcfgaibppenaaaDoorSd2
namespace Go.Proofs.YtdcfgaibppenaaaDoor
open Go.RowKit
set_option maxRecDepth 100000
set_option linter.unusedVariables false
set_option linter.unusedSimpArgs false

section
open GF
theorem own_baseG {w : World} {base : Nat} {e : TypeId} {sz : Nat} {v : Value} {n : Nat} {xs : List Value} (h : w.ownsRow base e sz v n xs) : w.ownsRow 0 e sz v n xs := by
  refine ⟨h.1, ?_⟩
  rcases h.2 with h2 | ⟨g, cap, cur, h3, h4, h5⟩
  · exact .inl h2
  · exact .inr ⟨g, cap, cur, h3, Nat.zero_le _, h5⟩
theorem wpList_apS (w : World) {ops : Array Oper} {rest : List Oper} {o : Oper} {a : Act} {Q : Exit → Act → World → Prop} (hg : o.guard = none) (s x : Operand) (t e : TypeId) (i0 : TypeInfo) (z : Value) (sz by' : Nat) (hu : Tryd.prog.underlying t = some (.slice e)) (hi : Tryd.prog.info? e = some i0) (hz0 : i0.zero = some z) (hz1 : i0.size = sz) (hz2 : i0.bytes = by') (hzs : z.cells.size = sz) (hsz : 0 < sz)
    (hop : o.op = Op.call { callee := .builtin .append, args := #[s, x], argTypes := #[t, t] }) (v : Value) (n : Nat) (xs : List Value) (hs : a.eval s = v)
    (hown : w.ownsRow 0 e sz v n xs) (ad : Addr) (m c : Nat) (news : List Value) (hx : a.eval x = .slice (some ad) m c) (hn : news.length = m * sz)
    (hc : ∀ j u, news[j]? = some u → w.cell? (ad.add j) = some u) (h1 : ∀ u, u ∈ news → u.oneCell' = true) (hm : 0 < m) (hb1 : n + m ≤ maxLen) (hb2 : (n + m) * by' ≤ 140737488355328)
    (hK : ∀ g cap w', (v.ownBlock = some g ∨ w.heap.size ≤ g) → w.grownBy w' v.ownBlock → w'.ownsRow 0 e sz (.slice (some ⟨g, 0, none⟩) (n + m) cap) (n + m) (xs ++ news) →
      wpList Tryd.prog ops Q rest (a.put o.dst (.slice (some ⟨g, 0, none⟩) (n + m) cap)) w') :
    wpList Tryd.prog ops Q (o :: rest) a w := by
  have grow : ∀ (ao : Option Addr) (cap : Nat), v = .slice ao n cap → (ao = none → n = 0 ∧ cap = 0) → (∀ b, ao = some b → ∀ j u, xs[j]? = some u → w.cell? (b.add j) = some u) → cap < n + m → wpList Tryd.prog ops Q (o :: rest) a w := by
    intro ao cap hv hnone hcells hfull
    refine wpList_append_grows w hg s x t hop e i0 z sz by' hu hi hz0 hz1 hz2 hzs hsz ao n cap xs (by rw [hs, hv]) hnone (by rw [hown.1]) hcells ad m c news hx hn hc h1 hfull hb1 hb2 ?_
    intro v' w' hown' hgr
    rcases hown'.2 with ⟨_, h0⟩ | ⟨g, cap', cur, rfl, hge, hrest⟩
    · omega
    · exact hK g cap' w' (.inr hge) (grown_weak hgr _) (own_baseG hown')
  rcases hown.2 with ⟨rfl, h0⟩ | ⟨g, cap, cur, rfl, hbase, hh, hle, hmax, hsz', htake⟩
  · subst h0
    exact grow none 0 rfl (fun _ => ⟨rfl, rfl⟩) (fun b hb => by cases hb) (by omega)
  · by_cases hroom : n + m ≤ cap
    · refine wpList_append_fits w hg s x t hop 0 e i0 sz hu hi hz1 g n cap xs hs hown ad m c news hx hn hc h1 hroom ?_
      intro w' hown' hgr
      exact hK g cap w' (.inl rfl) hgr hown'
    · refine grow (some ⟨g, 0, none⟩) cap rfl (fun h => by cases h) ?_ (by omega)
      intro b hb j u hu
      cases hb
      exact hown.cells (g := g) rfl j u hu


theorem rdX_one [Add GF] [Mul GF] [OfNat GF 0] [OfNat GF 1] [L : Nonempty GL] (w : World) (e : TypeId) (v : Value) (h1 : v.oneCell' = true) : RdX (w.alloc (.cells #[v] e)) (some ⟨w.heap.size, 0, none⟩) 1 1 [v] := by
  refine ⟨rfl, Nat.le_refl _, by decide, (fun h => by cases h), ?_, fun _ => ⟨w.heap.size, 0, rfl, by simp, fun i u hu => ?_⟩⟩
  · intro u hu
    have e : u = v := by simpa using hu
    rw [e]; exact h1
  · rw [cell_of_row _ _ _ _ _ _ (heap_alloc_new w _), Nat.zero_add]
    simpa using hu
/-- 'append(v, u)', v of the call's own -/
theorem wpList_psX [Add GF] [Mul GF] [OfNat GF 0] [OfNat GF 1] [L : Nonempty GL] {t e : TypeId} {z : Value} {by' : Nat} (E : ElT t e z by') (w : World) (u : Value) (h1 : u.oneCell' = true) {ops : Array Oper} {rest : List Oper} {o : Oper} {a : Act} {Q : Exit → Act → World → Prop} (hg : o.guard = none) (s x : Operand)
    (hop : o.op = Op.call { callee := .builtin .append, args := #[s, x], argTypes := #[t, t] }) (ao : Option Addr) (m co lo : Nat) (D : List Value) (hs : a.eval s = .slice ao m co)
    (hA : AnsX e w lo ao m co D) (hlo : lo ≤ w.heap.size) (hx : a.eval x = .slice (some ⟨w.heap.size, 0, none⟩) 1 1) (hb : m + 1 ≤ 8000000000000)
    (hK : ∀ gx cx w', AnsX e w' lo (some ⟨gx, 0, none⟩) (m + 1) cx (D ++ [u]) → w.grownBy w' (Value.slice ao m co).ownBlock → ((Value.slice ao m co).ownBlock = some gx ∨ w.heap.size ≤ gx) → wpList Tryd.prog ops Q rest (a.put o.dst (.slice (some ⟨gx, 0, none⟩) (m + 1) cx)) w') :
    wpList Tryd.prog ops Q (o :: rest) a (w.alloc (.cells #[u] e)) := by
  obtain ⟨i0, hi, hz0, hz1, hz2⟩ := info_parts E.inf
  have gA := World.grownBy_alloc w (.cells #[u] e) none
  have hR := rdX_one w e u h1
  have hpos := E.pos
  have hle : (m + 1) * by' ≤ (m + 1) * 16 := Nat.mul_le_mul_left _ hpos
  refine wpList_apS _ hg s x t e i0 z 1 by' E.und hi hz0 hz1 hz2 E.one (by decide) hop (.slice ao m co) m D hs (hA.own.alloc _) ⟨w.heap.size, 0, none⟩ 1 1 [u] hx rfl ?_ hR.one (by decide) (by unfold maxLen; omega) (by omega) ?_
  · intro j v hv
    obtain ⟨b, off, e', _, hc⟩ := hR.at' (by decide)
    cases e'
    rw [addr_add]
    exact hc j v hv
  · intro g c w' hgx hgr hown
    have hsz := gA.size
    refine hK g c w' ⟨hown, ?_, fun y hy => ?_⟩ (grown_trans (grown_weak gA _) hgr) ?_
    · intro v hv
      rcases List.mem_append.1 hv with h | h
      · exact hA.one v h
      · exact hR.one v h
    · have e' : g = y := Option.some.inj hy
      subst e'
      rcases hgx with h | h
      · exact hA.new g h
      · omega
    · rcases hgx with h | h
      · exact .inl h
      · exact .inr (by omega)
theorem AnsX.bxR [Add GF] [Mul GF] [OfNat GF 0] [OfNat GF 1] [L : Nonempty GL] {e : TypeId} {w : World} {lo n c g : Nat} {a : Option Addr} {X : List Value} {t : TypeId} {cs : Array Value} (h : AnsX e w lo a n c X) (b : BxS w g t cs) (ht : e ≠ t) : (Value.slice a n c).ownBlock ≠ some g := by
  intro e2
  rcases h.own.2 with ⟨h1, _⟩ | ⟨g', cap', cur, h1, _, h3, _⟩
  · rw [h1] at e2; cases e2
  · rw [h1] at e2
    have e2 : g' = g := Option.some.inj e2
    subst e2
    unfold BxS at b
    rw [h3] at b
    have := Option.some.inj b
    cases this
    exact ht rfl
theorem AnsX.tyR [Add GF] [Mul GF] [OfNat GF 0] [OfNat GF 1] [L : Nonempty GL] {e : TypeId} {w : World} {lo n c : Nat} {a : Option Addr} {X : List Value} (h : AnsX e w lo a n c X) : ∀ z, (Value.slice a n c).ownBlock = some z → ∃ t cs, BxS w z t cs ∧ t = e := by
  intro z e2
  rcases h.own.2 with ⟨h1, _⟩ | ⟨g', cap', cur, h1, _, h3, _⟩
  · rw [h1] at e2; cases e2
  · rw [h1] at e2
    have e2 : g' = z := Option.some.inj e2
    subst e2
    exact ⟨e, cur, h3, rfl⟩
theorem Tryd.elU : ElT 22 5 (.int .u8 0) 1 := ⟨Tryd.underlying22, by kernel_rfl, rfl, by decide⟩
theorem Tryd.elJ : ElT 23 3 (.int .i64 0) 8 := ⟨Tryd.underlying23, by kernel_rfl, rfl, by decide⟩
theorem Tryd.info_sl : (Tryd.prog.info? 22).map (fun i => (i.zero, i.size, i.bytes)) = some (some (.slice none 0 0), 1, 24) := by kernel_rfl
/-- 'append(v, u)', u a slice of bytes -/
theorem wpList_psL [Add GF] [Mul GF] [OfNat GF 0] [OfNat GF 1] [L : Nonempty GL] (w : World) (p : Option Addr) (l c : Nat) {ops : Array Oper} {rest : List Oper} {o : Oper} {a : Act} {Q : Exit → Act → World → Prop} (hg : o.guard = none) (s x : Operand)
    (hop : o.op = Op.call { callee := .builtin .append, args := #[s, x], argTypes := #[52, 52] }) (ao : Option Addr) (m co lo : Nat) (D : List Value) (hs : a.eval s = .slice ao m co)
    (hA : AnsX 22 w lo ao m co D) (hlo : lo ≤ w.heap.size) (hx : a.eval x = .slice (some ⟨w.heap.size, 0, none⟩) 1 1) (hb : m + 1 ≤ 100000)
    (hK : ∀ gx cx w', AnsX 22 w' lo (some ⟨gx, 0, none⟩) (m + 1) cx (D ++ [.slice p l c]) → w.grownBy w' (Value.slice ao m co).ownBlock → ((Value.slice ao m co).ownBlock = some gx ∨ w.heap.size ≤ gx) → wpList Tryd.prog ops Q rest (a.put o.dst (.slice (some ⟨gx, 0, none⟩) (m + 1) cx)) w') :
    wpList Tryd.prog ops Q (o :: rest) a (w.alloc (.cells #[.slice p l c] 22)) := by
  obtain ⟨i0, hi, hz0, hz1, hz2⟩ := info_parts Tryd.info_sl
  have gA := World.grownBy_alloc w (.cells #[.slice p l c] 22) none
  have hR := rdX_one w 22 (.slice p l c) rfl
  refine wpList_apS _ hg s x 52 22 i0 _ 1 24 Tryd.underlying52 hi hz0 hz1 hz2 rfl (by decide) hop (.slice ao m co) m D hs (hA.own.alloc _) ⟨w.heap.size, 0, none⟩ 1 1 [.slice p l c] hx rfl ?_ hR.one (by decide) (by unfold maxLen; omega) (by omega) ?_
  · intro j v hv
    obtain ⟨b, off, e', _, hc⟩ := hR.at' (by decide)
    cases e'
    rw [addr_add]
    exact hc j v hv
  · intro g c' w' hgx hgr hown
    have hsz := gA.size
    refine hK g c' w' ⟨hown, ?_, fun y hy => ?_⟩ (grown_trans (grown_weak gA _) hgr) ?_
    · intro v hv
      rcases List.mem_append.1 hv with h | h
      · exact hA.one v h
      · exact hR.one v h
    · have e' : g = y := Option.some.inj hy
      subst e'
      rcases hgx with h | h
      · exact hA.new g h
      · omega
    · rcases hgx with h | h
      · exact .inl h
      · exact .inr (by omega)
/-- bytes of the field as cells -/
def gl [Add GF] [Mul GF] [OfNat GF 0] [OfNat GF 1] [L : Nonempty GL] (F : Nat → GF) (k : Nat) : List Value := (List.range k).map fun j => .int .u8 ((F j).v : Int)
theorem gl_succ [Add GF] [Mul GF] [OfNat GF 0] [OfNat GF 1] [L : Nonempty GL] (F : Nat → GF) (k : Nat) : gl F k ++ [.int .u8 ((F k).v : Int)] = gl F (k + 1) := by
  unfold gl
  rw [List.range_succ, List.map_append]
  rfl
theorem gl_len [Add GF] [Mul GF] [OfNat GF 0] [OfNat GF 1] [L : Nonempty GL] (F : Nat → GF) (k : Nat) : (gl F k).length = k := by unfold gl; rw [List.length_map, List.length_range]
theorem gl_at [Add GF] [Mul GF] [OfNat GF 0] [OfNat GF 1] [L : Nonempty GL] (F : Nat → GF) {k j : Nat} (h : j < k) : (gl F k)[j]? = some (.int .u8 ((F j).v : Int)) := by
  unfold gl
  rw [List.getElem?_map, List.getElem?_range h]
  rfl
def rwL (ρ cr : Nat → Nat) (n q : Nat) : List Value := (List.range q).map fun i => .slice (some ⟨ρ i, 0, none⟩) n (cr i)
theorem rwL_at (ρ cr : Nat → Nat) (n : Nat) {q i : Nat} (h : i < q) : (rwL ρ cr n q)[i]? = some (.slice (some ⟨ρ i, 0, none⟩) n (cr i)) := by
  unfold rwL
  rw [List.getElem?_map, List.getElem?_range h]
  rfl
theorem AnsX.bx {e : TypeId} {w : World} {lo g n c : Nat} {X : List Value} (h : AnsX e w lo (some ⟨g, 0, none⟩) n c X) : ∃ cs : Array Value, BxS w g e cs ∧ ∀ (i : Nat) (v : Value), X[i]? = some v → cs[i]? = some v := by
  rcases h.own.2 with ⟨h1, _⟩ | ⟨g', cap', cur, h1, _, h3, h4, h5, h6, h7⟩
  · cases h1
  · injection h1 with e1 e2 e3
    injection e1 with e1
    injection e1 with e1
    subst e1
    refine ⟨cur, h3, fun i v hv => ?_⟩
    rw [← h7, List.getElem?_take] at hv
    by_cases hh : i < n * 1
    · rw [if_pos hh] at hv
      rw [← hv]
      simp
    · rw [if_neg hh] at hv; cases hv
theorem AnsX.kR {e : TypeId} {w w' : World} {lo n c : Nat} {a : Option Addr} {X : List Value} {r : Option Nat} (h : AnsX e w lo a n c X) (hg : w.grownBy w' r) (hne : ∀ y, (Value.slice a n c).ownBlock = some y → r ≠ some y) : AnsX e w' lo a n c X :=
  h.kept hg (by
    cases e1 : (Value.slice a n c).ownBlock with
    | none => exact .inl rfl
    | some y => exact .inr (fun e2 => hne y e1 e2.symm))
/-- rows that are built, and the right side -/
structure Bld [Add GF] [Mul GF] [OfNat GF 0] [OfNat GF 1] [L : Nonempty GL] (w : World) (lo n q : Nat) (ρ cr : Nat → Nat) (M : Nat → Nat → GF) (bv : Nat → GF) (am : Option Addr) (cm : Nat) (ab : Option Addr) (cb : Nat) : Prop where
  m : AnsX 22 w lo am q cm (rwL ρ cr n q)
  r : ∀ i, i < q → AnsX 5 w lo (some ⟨ρ i, 0, none⟩) n (cr i) (gl (M i) n)
  b : AnsX 5 w lo ab q cb (gl bv q)
  inj : ∀ i j, i < q → j < q → ρ i = ρ j → i = j
  nb : ∀ i, i < q → (Value.slice ab q cb).ownBlock ≠ some (ρ i)
  z : q = 0 → am = none ∧ cm = 0 ∧ ab = none ∧ cb = 0
section
variable {w w' : World} {lo n q : Nat} {ρ cr : Nat → Nat} {M : Nat → Nat → GF} {bv : Nat → GF} {am ab : Option Addr} {cm cb : Nat}
theorem Bld.nil [Add GF] [Mul GF] [OfNat GF 0] [OfNat GF 1] [L : Nonempty GL] (w : World) (lo n : Nat) (M : Nat → Nat → GF) (bv : Nat → GF) : Bld w lo n 0 (fun _ => 0) (fun _ => 0) M bv none 0 none 0 :=
  ⟨AnsX.nil0 _ _ _, (fun i h => by omega), AnsX.nil0 _ _ _, (fun i j h => by omega), (fun i h => by omega), fun _ => ⟨rfl, rfl, rfl, rfl⟩⟩
theorem Bld.keep [Add GF] [Mul GF] [OfNat GF 0] [OfNat GF 1] [L : Nonempty GL] (h : Bld w lo n q ρ cr M bv am cm ab cb) (hg : w.grownBy w' none) : Bld w' lo n q ρ cr M bv am cm ab cb :=
  ⟨h.m.keep hg, fun i hi => (h.r i hi).keep hg, h.b.keep hg, h.inj, h.nb, h.z⟩
/-- one row more -/
theorem Bld.push [Add GF] [Mul GF] [OfNat GF 0] [OfNat GF 1] [L : Nonempty GL] (h : Bld w lo n q ρ cr M bv am cm ab cb) {w1 w2 w3 : World} {g c gx cx gb c' : Nat} (hlo : lo ≤ w.heap.size) (G1 : w.grownBy w1 none) (hrow : AnsX 5 w1 w.heap.size (some ⟨g, 0, none⟩) n c (gl (M q) n))
    (hm : AnsX 22 w2 lo (some ⟨gx, 0, none⟩) (q + 1) cx (rwL ρ cr n q ++ [.slice (some ⟨g, 0, none⟩) n c])) (g2 : w1.grownBy w2 (Value.slice am q cm).ownBlock)
    (hb : AnsX 5 w3 lo (some ⟨gb, 0, none⟩) (q + 1) c' (gl bv q ++ [.int .u8 ((bv q).v : Int)])) (g3 : w2.grownBy w3 (Value.slice ab q cb).ownBlock) (hx3 : (Value.slice ab q cb).ownBlock = some gb ∨ w2.heap.size ≤ gb) :
    Bld w3 lo n (q + 1) (fun i => if i = q then g else ρ i) (fun i => if i = q then c else cr i) M bv (some ⟨gx, 0, none⟩) cx (some ⟨gb, 0, none⟩) c' := by
  have hgl : w.heap.size ≤ g := hrow.new g rfl
  have hg1 : g < w1.heap.size := hrow.lt g rfl
  have hs1 := G1.size
  have hs2 := g2.size
  have hold : ∀ i, i < q → ρ i < w.heap.size := fun i hi => (h.r i hi).lt _ rfl
  have hab : ∀ y, (Value.slice ab q cb).ownBlock = some y → y < w.heap.size := h.b.lt
  have hm1 := h.m.keep G1
  -- what is of bytes is not touched by the first append
  have kA : ∀ {lo' : Nat} {a' : Option Addr} {n' c'' : Nat} {X : List Value}, AnsX 5 w1 lo' a' n' c'' X → AnsX 5 w2 lo' a' n' c'' X := fun k => k.kR g2 (fun y e1 e2 => by
    obtain ⟨t, cs, b1, e3⟩ := hm1.tyR y e2
    exact k.bxR b1 (by rw [e3]; decide) e1)
  have hrow2 := kA hrow
  have hr2 : ∀ i, i < q → AnsX 5 w2 lo (some ⟨ρ i, 0, none⟩) n (cr i) (gl (M i) n) := fun i hi => kA ((h.r i hi).keep G1)
  have hb2 := kA (h.b.keep G1)
  have hm3 : AnsX 22 w3 lo (some ⟨gx, 0, none⟩) (q + 1) cx (rwL ρ cr n q ++ [.slice (some ⟨g, 0, none⟩) n c]) := hm.kR g3 (fun y e1 e2 => by
    obtain ⟨t, cs, b1, e3⟩ := hb2.tyR y e2
    exact hm.bxR b1 (by rw [e3]; decide) e1)
  have hrow3 : AnsX 5 w3 lo (some ⟨g, 0, none⟩) n c (gl (M q) n) := (hrow2.kR g3 (fun y e1 e2 => by
    have e1 : g = y := Option.some.inj e1
    have := hab y e2
    omega)).low hlo
  refine ⟨?_, fun i hi => ?_, ?_, fun i j hi hj e => ?_, fun i hi => ?_, fun e => by omega⟩
  · have e : rwL (fun i => if i = q then g else ρ i) (fun i => if i = q then c else cr i) n (q + 1) = rwL ρ cr n q ++ [.slice (some ⟨g, 0, none⟩) n c] := by
      unfold rwL
      rw [List.range_succ, List.map_append]
      congr 1
      · refine List.map_congr_left fun i hi => ?_
        have : i ≠ q := by have := List.mem_range.1 hi; omega
        simp only [if_neg this]
      · simp
    rw [e]; exact hm3
  · by_cases e : i = q
    · subst e
      simp only [if_true]
      exact hrow3
    · simp only [if_neg e]
      exact (hr2 i (by omega)).kR g3 (fun y e1 e2 => by
        have e1 : ρ i = y := Option.some.inj e1
        exact h.nb i (by omega) (by rw [e1]; exact e2))
  · rw [← gl_succ]; exact hb
  · by_cases e1 : i = q
    · by_cases e2 : j = q
      · omega
      · simp only [if_pos e1, if_neg e2] at e
        have := hold j (by omega)
        omega
    · by_cases e2 : j = q
      · simp only [if_neg e1, if_pos e2] at e
        have := hold i (by omega)
        omega
      · simp only [if_neg e1, if_neg e2] at e
        exact h.inj i j (by omega) (by omega) e
  · intro e
    have e : gb = (if i = q then g else ρ i) := Option.some.inj e
    rcases hx3 with h3 | h3
    · have h4 := hab gb h3
      by_cases e1 : i = q
      · rw [if_pos e1] at e; omega
      · rw [if_neg e1] at e
        exact h.nb i (by omega) (by rw [← e]; exact h3)
    · by_cases e1 : i = q
      · rw [if_pos e1] at e; omega
      · rw [if_neg e1] at e
        have := hold i (by omega)
        omega
/-- all rows are there: the system in memory -/
theorem Bld.mt [Add GF] [Mul GF] [OfNat GF 0] [OfNat GF 1] [L : Nonempty GL] (h : Bld w lo n n ρ cr M bv am cm ab cb) (h0 : 0 < n) : ∃ gm gb, am = some ⟨gm, 0, none⟩ ∧ ab = some ⟨gb, 0, none⟩ ∧ MT w lo gm gb n ρ cr M bv := by
  have hm := h.m
  have hb := h.b
  have hnb := h.nb
  rcases hm.cases with ⟨_, e, _⟩ | ⟨gm, e1, l1, _⟩
  · omega
  · rcases hb.cases with ⟨_, e, _⟩ | ⟨gb, e2, l2, _⟩
    · omega
    · subst e1
      subst e2
      obtain ⟨A, bA, hA⟩ := hm.bx
      obtain ⟨B, bB, hB⟩ := hb.bx
      refine ⟨gm, gb, rfl, rfl, l1, l2, fun r hr => (h.r r hr).new _ rfl, ⟨A, bA, fun i hi => hA i _ (rwL_at ρ cr n hi)⟩, fun r hr => ?_, ⟨B, bB, fun j hj => hB j _ (gl_at bv hj)⟩, h.inj, fun r hr e => hnb r hr (by rw [e]; rfl)⟩
      obtain ⟨X, bX, hX⟩ := (h.r r hr).bx
      exact ⟨X, bX, fun j hj => hX j _ (gl_at _ hj)⟩
end
end

section
open GF
set_option maxHeartbeats 8000000 in
theorem syn_any [Add GF] [Mul GF] [OfNat GF 0] [OfNat GF 1] [L : Nonempty GL] (a : Option Addr) (n cap c : Nat) (W : List Nat) (w : World) (hp : Rd w a n cap W) (hn : n ≤ 255) (hc : c ≤ 64) :
    Calls Tryd.prog 24 #[.slice a n cap, .int .i64 (c : Int)] w fun e w' => ∃ a' c', e = .returned (.slice a' c c') ∧ AnsX 5 w' w.heap.size a' c c' (bys (synL W c)) ∧ w.grownBy w' none := by
  have hb := hp.byte
  have HK : Hid _ := backward_any a n cap W w hp (by omega)
  have hlen := hp.len
  clear hp
  go_enter Tryd.func24, Tryd.ntmps24
  refine wp_seq_k fun K0 hK0 => ?_
  have HK0 : Hid _ := hK0
  clear hK0
  go_wp2
  refine HK0.out _ _ ?_
  clear HK0
  refine wp_seq_k fun K1 hK1 => ?_
  have HK1 : Hid _ := hK1
  clear hK1
  go_wp2_with (go_at_call 32; refine Calls.mono HK.out ?_; rintro e w1 ⟨a1, c1, rfl, hA1, G1⟩)
  refine HK1.out _ _ ?_
  clear HK1
  refine wp_seq_k fun K2 hK2 => ?_
  have HK2 : Hid _ := hK2
  clear hK2
  go_wp2
  refine HK2.out _ _ ?_
  clear HK2
  refine wp_seq_k fun K3 hK3 => ?_
  have HK3 : Hid _ := hK3
  clear hK3
  go_wp2
  go_loopw [6, 7] (fun v6 v7 wr => ∃ (k : Nat) (ao : Option Addr) (co : Nat), k ≤ c ∧ v7 = .int .i64 ((k : Int) + 1) ∧ v6 = .slice ao k co ∧ AnsX 5 wr w1.heap.size ao k co (bys ((synL W c).take k)) ∧ w.grownBy wr none ∧ w1.grownBy wr none) (fun _ v7 _ => c + 1 - (intOf v7).toNat)
  case atStart => exact ⟨0, none, 0, Nat.zero_le _, rfl, rfl, AnsX.nil0 _ _ _, G1, World.grownBy.refl _ _⟩
  case round =>
    obtain ⟨k, ao, co, hk', rfl, rfl, hA, GW, GR⟩ := hrel
    by_cases hk : k < c
    · have lkk : (k : Int) + 1 ≤ (c : Int) := by omega
      have HP : Hid _ := rpower_any ((k : Int) + 1) wr (by omega) (by omega)
      have HT : Hid _ := rat_any a1 n c1 (pow2 ((k : Int) + 1)) W.reverse wr (hA1.rd.keep GR) (pow2_lt _) (by omega)
      have HV : Hid (bys ((synL W c).take k) ++ [.int .u8 ((atL W.reverse (pow2 ((k : Int) + 1)) : Nat) : Int)] = bys ((synL W c).take (k + 1))) := by
        show _ = _
        rw [bys_add, take_snoc _ _ (by rw [synL_len]; exact hk), nth_synL _ _ _ hk]
      generalize atL W.reverse (pow2 ((k : Int) + 1)) = v at *
      have hAL : Hid _ := hA
      have hlo1 := GR.size
      have HGS : Hid (∀ w6 : World, ∀ w5 : World, wr.grownBy w5 none → w5.grownBy w6 (Value.slice ao k co).ownBlock → w.grownBy w6 none ∧ w1.grownBy w6 none) := fun w6 w5 g5 g6 => ⟨grown_far (grown_trans GW g5) g6 (fun y e => Nat.le_trans G1.size (hA.new y e)), grown_far (grown_trans GR g5) g6 (fun y e => hA.new y e)⟩
      clear hA
      refine wp_seq_k fun K4 hK4 => ?_
      have HK4 : Hid _ := hK4
      clear hK4
      go_wp2
      refine HK4.out _ _ ?_
      clear HK4
      refine wp_seq_k fun K5 hK5 => ?_
      have HK5 : Hid _ := hK5
      clear hK5
      refine wp_block ?_
      have s1 : True := trivial
      go_wp2_with (first
        | (have _t := s1; clear s1; go_at_call 25; refine Calls.mono HP.out ?_; rintro e wx ⟨rfl, hwx⟩; rw [hwx]; clear hwx; have s2 : True := trivial)
        | (have _t := s2; clear s2; go_at_call 33; refine Calls.mono HT.out ?_; rintro e w5 ⟨rfl, G5⟩; have s3 : True := trivial; have h5 := hAL.out.keep G5; have hlo5 := Nat.le_trans hlo1 G5.size)
        | (have _t := s3; clear s3; at_builtin; refine wpList_psX Tryd.elU w5 (.int .u8 (v : Int)) rfl rfl _ _ rfl ao k co w1.heap.size _ rfl h5 hlo5 rfl (by omega) ?_; intro gx cx w6 hA6 g6 hx6))
      rw [HV.out] at hA6
      have G6 := HGS.out w6 w5 G5 g6
      (try simp only [Exit.inBlock, Exit.then])
      refine HK5.out _ _ ?_
      clear HK5
      go_wp2
      go_roundw
      case rel => exact ⟨k + 1, _, cx, by omega, by go_num, rfl, hA6, G6.1, G6.2⟩
      case measure => simp [intOf] <;> omega
    · have lkk : ¬ (k : Int) + 1 ≤ (c : Int) := by omega
      have hkc : k = c := by omega
      have hA9 : Hid (AnsX 5 wr w.heap.size ao c co (bys (synL W c))) := by
        show AnsX 5 wr w.heap.size ao c co (bys (synL W c))
        rw [hkc, List.take_of_length_le (by rw [synL_len]; exact Nat.le_refl _)] at hA
        exact hA.low G1.size
      have HG : Hid _ := GW
      clear hA
      subst hkc
      go_wp2
      (try simp only [Exit.inBlock, Exit.then])
      refine HK3.out _ _ ?_
      clear HK3
      go_wp2
      first | go_ret | skip
      exact ⟨_, _, rfl, hA9.out, HG.out⟩
end
end Go.Proofs.YtdcfgaibppenaaaDoor
