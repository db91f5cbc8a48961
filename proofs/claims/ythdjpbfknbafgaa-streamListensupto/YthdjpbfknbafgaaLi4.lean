import Derived.Maps.AppendAt
import Derived.Test.YthdjpbfknbafgaaLi3
namespace Go.Proofs.Ythdjpbfknbafgaa
open Go.RowKit
set_option maxRecDepth 100000
set_option linter.unusedVariables false
set_option linter.unusedSimpArgs false

section
open Go.RowKit Go.Shelf

/-! what is found -/
structure Fv where
  p : Nat
  tu : Bool
  mi : Nat
  a : Option Addr
  n : Nat
  D : List Nat
def cellsF (f : Fv) : List Value := [.int .i64 f.p, .bool f.tu, .int .i64 f.mi, .slice f.a f.n f.n]
def flatF (fs : List Fv) : List Value := fs.flatMap cellsF
theorem flatF_len (fs : List Fv) : (flatF fs).length = fs.length * 4 := by
  induction fs with
  | nil => rfl
  | cons f fs ih => show (cellsF f ++ flatF fs).length = _; rw [List.length_append, ih, List.length_cons]; show 4 + _ = _; omega
theorem flatF_add (fs : List Fv) (f : Fv) : flatF fs ++ cellsF f = flatF (fs ++ [f]) := by simp [flatF]
theorem Try.info_fd : (Try.prog.info? 42).map (fun i => (i.zero, i.size, i.bytes)) = some (some (.agg #[.int .i64 0, .bool false, .int .i64 0, .slice none 0 0]), 4, 48) := by kernel_rfl
theorem cells_four (w : World) (a b c d : Value) (j : Nat) (u : Value) (h : [a, b, c, d][j]? = some u) : (w.alloc (.cells #[a, b, c, d] 42)).cell? ((⟨w.heap.size, 0, none⟩ : Addr).add j) = some u := by
  rw [addr_add, cell_of_row _ _ _ _ _ _ (heap_alloc_new w _)]
  simpa using h
theorem own_base' {w : World} {base e sz : Nat} {v : Value} {n : Nat} {xs : List Value} (h : w.ownsRow base e sz v n xs) : w.ownsRow 0 e sz v n xs := by
  refine ⟨h.1, ?_⟩
  rcases h.2 with h2 | ⟨g, cap, cur, h3, h4, h5⟩
  · exact .inl h2
  · exact .inr ⟨g, cap, cur, h3, Nat.zero_le _, h5⟩
/-- 'append(v, x...)', v the call's own, x not empty, whatever the elements are -/
theorem wpList_apG (w : World) {ops : Array Oper} {rest : List Oper} {o : Oper} {a : Act} {Q : Exit → Act → World → Prop} (hg : o.guard = none) (s x : Operand) (t e : TypeId) (i0 : TypeInfo) (z : Value) (sz by' : Nat) (hu : Try.prog.underlying t = some (.slice e)) (hi : Try.prog.info? e = some i0) (hz0 : i0.zero = some z) (hz1 : i0.size = sz) (hz2 : i0.bytes = by') (hzs : z.cells.size = sz) (hsz : 0 < sz)
    (hop : o.op = Op.call { callee := .builtin .append, args := #[s, x], argTypes := #[t, t] }) (v : Value) (n : Nat) (xs : List Value) (hs : a.eval s = v)
    (hown : w.ownsRow 0 e sz v n xs) (ad : Addr) (m c : Nat) (news : List Value) (hx : a.eval x = .slice (some ad) m c) (hn : news.length = m * sz)
    (hc : ∀ j u, news[j]? = some u → w.cell? (ad.add j) = some u) (h1 : ∀ u, u ∈ news → u.oneCell' = true) (hm : 0 < m) (hb1 : n + m ≤ maxLen) (hb2 : (n + m) * by' ≤ 140737488355328)
    (hK : ∀ g cap w', (v.ownBlock = some g ∨ w.heap.size ≤ g) → w.grownBy w' v.ownBlock → w'.ownsRow 0 e sz (.slice (some ⟨g, 0, none⟩) (n + m) cap) (n + m) (xs ++ news) →
      wpList Try.prog ops Q rest (a.put o.dst (.slice (some ⟨g, 0, none⟩) (n + m) cap)) w') :
    wpList Try.prog ops Q (o :: rest) a w := by
  have grow : ∀ (ao : Option Addr) (cap : Nat), v = .slice ao n cap → (ao = none → n = 0 ∧ cap = 0) → (∀ b, ao = some b → ∀ j u, xs[j]? = some u → w.cell? (b.add j) = some u) → cap < n + m → wpList Try.prog ops Q (o :: rest) a w := by
    intro ao cap hv hnone hcells hfull
    refine wpList_append_grows w hg s x t hop e i0 z sz by' hu hi hz0 hz1 hz2 hzs hsz ao n cap xs (by rw [hs, hv]) hnone (by rw [hown.1]) hcells ad m c news hx hn hc h1 hfull hb1 hb2 ?_
    intro v' w' hown' hgr
    rcases hown'.2 with ⟨_, h0⟩ | ⟨g, cap', cur, rfl, hge, hrest⟩
    · omega
    · exact hK g cap' w' (.inr hge) (grown_weak hgr _) (own_base' hown')
  rcases hown.2 with ⟨rfl, h0⟩ | ⟨g, cap, cur, rfl, hbase, hh, hle, hmax, hsz', htake⟩
  · subst h0
    exact grow none 0 rfl (fun _ => ⟨rfl, rfl⟩) (fun b hb => by cases hb) (by omega)
  · by_cases hroom : n + m ≤ cap
    · refine wpList_append_fits w hg s x t hop 0 e i0 sz hu hi hz1 g n cap xs hs hown ad m c news hx hn hc h1 hroom ?_
      intro w' hown' hgr
      exact hK g cap w' (.inl rfl) hgr hown'
    · refine grow (some ⟨g, 0, none⟩) cap rfl (fun h => by cases h) ?_ (by omega)
      intro b hb j u hu
      cases hb
      exact hown.cells (g := g) rfl j u hu
/-- all blocks but those that p names lie as they lay -/
structure Frm (p : Nat → Prop) (w w' : World) : Prop where
  os : w'.os = w.os
  tape : w'.tape = w.tape
  output : w'.output = w.output
  size : w.heap.size ≤ w'.heap.size
  block : ∀ k, k < w.heap.size → ¬ p k → w'.heap[k]? = w.heap[k]?
theorem Frm.refl (p : Nat → Prop) (w : World) : Frm p w w := ⟨rfl, rfl, rfl, Nat.le_refl _, fun _ _ _ => rfl⟩
theorem Frm.of {p : Nat → Prop} {w w' : World} {r : Option Nat} (h : w.grownBy w' r) (hr : ∀ k, r = some k → k < w.heap.size → p k) : Frm p w w' :=
  ⟨h.os, h.tape, h.output, h.size, fun k hk hn => h.block k hk (fun e => hn (hr k e.symm hk))⟩
theorem Frm.trans {p q : Nat → Prop} {a b c : World} (h : Frm p a b) (k : Frm q b c) (hq : ∀ i, i < a.heap.size → q i → p i) : Frm p a c :=
  ⟨k.os.trans h.os, k.tape.trans h.tape, k.output.trans h.output, Nat.le_trans h.size k.size, fun i hi hn => (k.block i (Nat.lt_of_lt_of_le hi h.size) (fun e => hn (hq i hi e))).trans (h.block i hi hn)⟩
theorem Frm.weak {p q : Nat → Prop} {a b : World} (h : Frm p a b) (hq : ∀ i, i < a.heap.size → p i → q i) : Frm q a b := ⟨h.os, h.tape, h.output, h.size, fun i hi hn => h.block i hi (fun e => hn (hq i hi e))⟩
set_option maxHeartbeats 2000000 in
/-- 'found = append(found, f)' -/
theorem tell_any (fb : Nat) (v : Value) (fs : List Fv) (f : Fv) (w : World) (hb : Boxed w fb 33 v) (hrow : w.ownsRow 0 42 4 v fs.length (flatF fs)) (hn : fs.length ≤ 4194304) :
    Calls Try.prog 27 #[.agg #[.int .i64 f.p, .bool f.tu, .int .i64 f.mi, .slice f.a f.n f.n], .pointer (some ⟨fb, 0, none⟩)] w fun e w' => e = .returned (.tuple #[]) ∧ ∃ v', Boxed w' fb 33 v' ∧ w'.ownsRow 0 42 4 v' (fs ++ [f]).length (flatF (fs ++ [f])) ∧ (∀ x, v'.ownBlock = some x → v.ownBlock = some x ∨ w.heap.size ≤ x) ∧ Frm (fun k => k = fb ∨ some k = v.ownBlock) w w' := by
  obtain ⟨i0, hi, hz0, hz1, hz2⟩ := info_parts Try.info_fd
  have hl := flatF_len fs
  obtain ⟨av, nv, cv, rfl⟩ : ∃ av nv cv, v = .slice av nv cv := by
    rcases hrow.2 with ⟨rfl, _⟩ | ⟨g, cap, cur, rfl, _⟩
    · exact ⟨_, _, _, rfl⟩
    · exact ⟨_, _, _, rfl⟩
  have b1 := hb.alloc (.cells #[.int .i64 f.p, .bool f.tu, .int .i64 f.mi, .slice f.a f.n f.n] 42)
  have hc := b1.cell
  have hr1 := hrow.alloc (.cells #[.int .i64 f.p, .bool f.tu, .int .i64 f.mi, .slice f.a f.n f.n] 42)
  have gA := World.grownBy_alloc w (.cells #[.int .i64 f.p, .bool f.tu, .int .i64 f.mi, .slice f.a f.n f.n] 42) none
  have hs1 : (w.alloc (.cells #[.int .i64 f.p, .bool f.tu, .int .i64 f.mi, .slice f.a f.n f.n] 42)).heap.size = w.heap.size + 1 := by simp
  go_enter Try.func27, Try.ntmps27
  go_wp2_with (at_builtin; refine wpList_apG _ rfl _ _ 33 42 i0 _ 4 48 Try.underlying33 hi hz0 hz1 hz2 rfl (by decide) rfl (.slice av nv cv) fs.length (flatF fs) rfl (hr1.alloc _) ⟨w.heap.size + 1, 0, none⟩ 1 1 (cellsF f) rfl rfl (by rw [← hs1]; exact cells_four _ _ _ _ _) (by simp [cellsF, Value.oneCell']) (by decide) (by unfold maxLen; omega) (by omega) ?_; intro g' cap' w2 hnw hgrow hown'; have nb := (b1.alloc (.cells #[.int .i64 f.p, .bool f.tu, .int .i64 f.mi, .slice f.a f.n f.n] 42)).not_row (e := 42) (by decide) (hr1.alloc _); have b2 := (b1.alloc (.cells #[.int .i64 f.p, .bool f.tu, .int .i64 f.mi, .slice f.a f.n f.n] 42)).kept hgrow nb; have hc2 := b2.cell; have hf2 := b2.frozen)
  go_end0
  have b3 := b2.set (.slice (some ⟨g', 0, none⟩) (fs.length + 1) cap')
  have r3 := hown'.kept (grown_set w2 fb 0 (.slice (some ⟨g', 0, none⟩) (fs.length + 1) cap')) (.inr (b2.not_row (e := 42) (by decide) hown').symm)
  rw [flatF_add] at r3
  refine ⟨rfl, _, b3, by rw [List.length_append]; exact r3, ?_, ?_⟩
  · intro x hx
    have e : g' = x := Option.some.inj hx
    subst e
    rcases hnw with h | h
    · exact .inl h
    · simp at h; exact .inr (by omega)
  · have F1 : Frm (fun k => k = fb ∨ some k = (Value.slice av nv cv).ownBlock) w w2 := (Frm.of (grown_trans gA (World.grownBy_alloc _ _ none)) (fun k e _ => by cases e)).trans (Frm.of (p := fun k => some k = (Value.slice av nv cv).ownBlock) hgrow (fun k e _ => e.symm)) (fun i _ h => .inr h)
    exact F1.trans (Frm.of (p := fun k => k = fb) (grown_set w2 fb 0 _) (fun k e _ => by cases e; rfl)) (fun i _ h => .inl h)
end

section
open Go.RowKit Go.Shelf

def tuD (t : Bool) (D : List Nat) : List Nat := if t then tab D.length (fun i => 255 - nth D i) else D
theorem tuD_len (t : Bool) (D : List Nat) : (tuD t D).length = D.length := by
  cases t
  · rfl
  · exact tab_len _ _
theorem not8 : ∀ v : Nat, v < 256 → bits .xor .u8 (if IntKind.u8.signed = true then -1 else IntKind.u8.max) (v : Int) = ((255 - v : Nat) : Int) := by decide +kernel
theorem tab_self (D : List Nat) : D = tab D.length (fun i => nth D i) := list_ext (by rw [tab_len]) (fun i hi => by rw [tab_nth _ _ _ hi])
theorem four_set (w : World) (b : Nat) (x y z u v0 v1 v2 v3 : Value) (t : TypeId) (h : w.heap[b]? = some (.cells #[x, y, z, u] t)) :
    ((((w.setCell ⟨b, 0, none⟩ v0).setCell ⟨b, 1, none⟩ v1).setCell ⟨b, 2, none⟩ v2).setCell ⟨b, 3, none⟩ v3).heap[b]? = some (.cells #[v0, v1, v2, v3] t) := by
  have h1 := heap_setCell_same w b 0 _ _ v0 h
  have h2 := heap_setCell_same _ b 1 _ _ v1 h1
  have h3 := heap_setCell_same _ b 2 _ _ v2 h2
  have h4 := heap_setCell_same _ b 3 _ _ v3 h3
  exact h4
theorem four_grown (w : World) (b : Nat) (v0 v1 v2 v3 : Value) : w.grownBy ((((w.setCell ⟨b, 0, none⟩ v0).setCell ⟨b, 1, none⟩ v1).setCell ⟨b, 2, none⟩ v2).setCell ⟨b, 3, none⟩ v3) (some b) :=
  grown_trans (grown_trans (grown_trans (grown_set _ _ _ _) (grown_set _ _ _ _)) (grown_set _ _ _ _)) (grown_set _ _ _ _)
theorem four_cell (w : World) (b g i : Nat) (v0 v1 v2 v3 : Value) (hne : ¬ g = b) (hg : g < w.heap.size) : ((((w.setCell ⟨b, 0, none⟩ v0).setCell ⟨b, 1, none⟩ v1).setCell ⟨b, 2, none⟩ v2).setCell ⟨b, 3, none⟩ v3).cell? ⟨g, i, none⟩ = w.cell? ⟨g, i, none⟩ :=
  World.cell?_of_block ((four_grown w b v0 v1 v2 v3).block g hg (fun e => hne (Option.some.inj e)))
def FrA (p : Nat) (tu : Bool) (mi : Nat) (a : Option Addr) (L : Nat) : Value := .agg #[.int .i64 p, .bool tu, .int .i64 mi, .slice a L L]
set_option maxHeartbeats 4000000 in
theorem frame0_any (g gd L F H M k : Nat) (lk : Bool) (tk la p : Nat) (mi : Nat) (D : List Nat) (w : World) (h : SyB w g L F H M k lk tk la p false mi (.slice (some ⟨gd, 0, none⟩) L L)) (hrow : Ans w 0 (some ⟨gd, 0, none⟩) L L D) (hne : gd ≠ g) (hL : L ≤ 2048) :
    Calls Try.prog 41 #[.pointer (some ⟨g, 0, none⟩)] w fun e w' => ∃ a', e = .returned (FrA p false mi a' L) ∧ SyB w' g L F H M k lk tk la p false mi (.slice (some ⟨gd, 0, none⟩) L L) ∧ Ans w' w.heap.size a' L L (scrL D) ∧ w.grownBy w' none := by
  have gA := World.grownBy_alloc w (.cells #[.int .i64 0, .bool false, .int .i64 0, .slice none 0 0] 42) none
  have hA := h.keep gA
  have hnew := heap_alloc_new w (.cells #[.int .i64 0, .bool false, .int .i64 0, .slice none 0 0] 42)
  have rA := hrow.keep gA
  have hgl := h.lt
  go_enter Try.func41, Try.ntmps41
  generalize hwa : w.alloc (.cells #[.int .i64 0, .bool false, .int .i64 0, .slice none 0 0] 42) = wa at *
  have c11 := hA.c 11 (.slice (some ⟨gd, 0, none⟩) L L) rfl
  have c9 := hA.c 9 (.bool false) rfl
  have c8 := hA.c 8 (.int .i64 p) rfl
  have c10 := hA.c 10 (.int .i64 mi) rfl
  have hSc := fun w' (hg : wa.grownBy w' none) => scramble_any (some ⟨gd, 0, none⟩) L L D w' (rA.rd.keep hg) (by omega)
  have hwn : wa.heap.size = w.heap.size + 1 := by rw [← hwa]; simp
  go_wp2
  go_region_held3 (fun w' => w'.cell? ⟨g, 8, none⟩ = some (.int .i64 p) ∧ w'.cell? ⟨g, 9, none⟩ = some (.bool false) ∧ w'.cell? ⟨g, 10, none⟩ = some (.int .i64 mi)) (first | go_keep | (refine ⟨?_, ?_, ?_⟩ <;> rw [four_cell _ _ _ _ _ _ _ _ hng hg2] <;> assumption)) (first
    | (go_at_call 31; refine (hSc _ (by repeat (first | exact World.grownBy.refl _ _ | refine grown_trans ?_ (grown_drew _ _) | refine grown_trans ?_ (grown_drewN _ _ _)))).mono ?_; rintro e w2 ⟨a2, rfl, hA2, g2⟩; have gW := grown_trans (grown_drew wa none) g2; have hS2 := hA.keep gW; have d8 := hS2.c 8 (.int .i64 p) rfl; have d9 := hS2.c 9 (.bool false) rfl; have d10 := hS2.c 10 (.int .i64 mi) rfl; have hn2 := (gW.block _ (by omega : w.heap.size < wa.heap.size) (by simp)).trans hnew; have x0 := cell_of_row w2 _ 0 _ _ _ hn2; have x1 := cell_of_row w2 _ 1 _ _ _ hn2; have x2 := cell_of_row w2 _ 2 _ _ _ hn2; have x3 := cell_of_row w2 _ 3 _ _ _ hn2; have y0 := frozen_of_row w2 _ 0 _ _ hn2; have y1 := frozen_of_row w2 _ 1 _ _ hn2; have y2 := frozen_of_row w2 _ 2 _ _ hn2; have y3 := frozen_of_row w2 _ 3 _ _ hn2; have hng : ¬ g = w.heap.size := (by omega); have hg2 := hS2.lt))
  have q4 := four_set w2 w.heap.size _ _ _ _ (.int .i64 p) (.bool false) (.int .i64 mi) (.slice a2 L L) _ hn2
  have g4 := four_grown w2 w.heap.size (.int .i64 p) (.bool false) (.int .i64 mi) (.slice a2 L L)
  go_wp2
  refine bodyPost_ret (v := FrA p false mi a2 L) (results_cell_row (p := 2) (by kernel_rfl) _ _ w.heap.size 42 _ (0, 0) _ rfl q4 Try.underlying42 rfl (by kernel_rfl)) rfl ?_
  have hlo : wa.drew.heap.size = w.heap.size + 1 := hwn
  refine ⟨a2, rfl, hS2.kept g4 (fun e => hng (Option.some.inj e)), ?_, grown_far (grown_trans gA gW) g4 (fun x e => by cases e; exact Nat.le_refl _)⟩
  refine (hA2.kept g4 ?_).wide (by omega)
  rcases hA2.cases with ⟨rfl, _, _⟩ | ⟨gx, rfl, hgx, _⟩
  · exact .inl rfl
  · refine .inr fun e => ?_
    have e2 : gx = w.heap.size := Option.some.inj e
    omega
set_option maxHeartbeats 4000000 in
theorem frame1_any (g gd L F H M k : Nat) (lk : Bool) (tk la p : Nat) (mi : Nat) (D : List Nat) (w : World) (h : SyB w g L F H M k lk tk la p true mi (.slice (some ⟨gd, 0, none⟩) L L)) (hrow : Ans w 0 (some ⟨gd, 0, none⟩) L L D) (hne : gd ≠ g) (hL : L ≤ 2048) :
    Calls Try.prog 41 #[.pointer (some ⟨g, 0, none⟩)] w fun e w' => ∃ a', e = .returned (FrA p true mi a' L) ∧ SyB w' g L F H M k lk tk la p true mi (.slice (some ⟨gd, 0, none⟩) L L) ∧ Ans w' w.heap.size a' L L (scrL (tuD true D)) ∧ w.grownBy w' (some gd) := by
  have gA := World.grownBy_alloc w (.cells #[.int .i64 0, .bool false, .int .i64 0, .slice none 0 0] 42) none
  have hA := h.keep gA
  have hnew := heap_alloc_new w (.cells #[.int .i64 0, .bool false, .int .i64 0, .slice none 0 0] 42)
  have rA := hrow.keep gA
  have hgl := h.lt
  go_enter Try.func41, Try.ntmps41
  generalize hwa : w.alloc (.cells #[.int .i64 0, .bool false, .int .i64 0, .slice none 0 0] 42) = wa at *
  have c11 := hA.c 11 (.slice (some ⟨gd, 0, none⟩) L L) rfl
  have c9 := hA.c 9 (.bool true) rfl
  have c8 := hA.c 8 (.int .i64 p) rfl
  have c10 := hA.c 10 (.int .i64 mi) rfl
  have hwn : wa.heap.size = w.heap.size + 1 := by rw [← hwa]; simp
  have HDl : Hid (D.length = L) := hrow.len
  have HD0 : Hid (D = tab L (fun i => if i < 0 then 255 - nth D i else nth D i)) := by
    show _ = _
    rw [← HDl.out]
    conv => lhs; rw [tab_self D]
    exact tab_ext _ _ _ (fun i _ => (if_neg (by omega)).symm)
  have hgdl : gd < w.heap.size := by rcases hrow.cases with ⟨h, _⟩ | ⟨g', h, _, h2⟩ <;> cases h; exact h2
  have hDB := hrow.byte
  rw [HD0.out] at rA
  have HDB : Hid (IsB D) := hDB
  clear hDB hrow
  go_wp2
  go_loopw [15] (fun i wr => ∃ n : Nat, n ≤ L ∧ i = .int .i64 n ∧ wa.grownBy wr (some gd) ∧ Ans wr 0 (some ⟨gd, 0, none⟩) L L (tab L (fun i => if i < n then 255 - nth D i else nth D i))) (fun i _ => L - (intOf i).toNat)
  case atStart => exact ⟨0, by omega, rfl, World.grownBy.refl _ _, rA⟩
  case round =>
    obtain ⟨n, hn, rfl, hgr, hAr⟩ := hrel
    by_cases hlt : n < L
    · have cn := own_cell hAr.own n hlt
      rw [tab_nth _ _ _ hlt, if_neg (by omega)] at cn
      have fn := hAr.own.frozenAt n
      have hb := HDB.out.nth n
      have hnot := not8 (nth D n) hb
      have hst := hAr.set n (255 - nth D n) (by omega)
      rw [tab_set L _ (fun i => if i < n + 1 then 255 - nth D i else nth D i) n _ hlt (if_pos (by omega)) (fun i hi hne' => by
        by_cases e : i < n
        · rw [if_pos e, if_pos (by omega)]
        · rw [if_neg e, if_neg (by omega)])] at hst
      go_wp2
      go_roundw
      case rel => exact ⟨n + 1, by omega, by go_num, grown_trans hgr (grown_set _ _ _ _), hst⟩
      case measure => simp [intOf]; omega
    · obtain rfl : n = L := by omega
      have HT : Hid (tab n (fun i => if i < n then 255 - nth D i else nth D i) = tuD true D) := by
        show _ = _
        unfold tuD
        rw [if_pos rfl, HDl.out]
        exact tab_ext n _ _ (fun i hi => if_pos hi)
      rw [HT.out] at hAr
      obtain ⟨wl, rfl⟩ : ∃ wl : World, wl = wr := ⟨_, rfl⟩
      have hAl := hA.kept hgr (fun e => hne (Option.some.inj e).symm)
      have e11 := hAl.c 11 (.slice (some ⟨gd, 0, none⟩) n n) rfl
      have e9 := hAl.c 9 (.bool true) rfl
      have e8 := hAl.c 8 (.int .i64 p) rfl
      have e10 := hAl.c 10 (.int .i64 mi) rfl
      have hnl := (hgr.block _ (by omega : w.heap.size < wa.heap.size) (by simp; omega)).trans hnew
      have hszl := hgr.size
      have hSc := fun w' (hg : wl.grownBy w' none) => scramble_any (some ⟨gd, 0, none⟩) n n (tuD true D) w' (hAr.rd.keep hg) (by omega)
      clear c8 c9 c10 c11
      go_wp2
      go_region_held3 (fun w' => w'.cell? ⟨g, 8, none⟩ = some (.int .i64 p) ∧ w'.cell? ⟨g, 9, none⟩ = some (.bool true) ∧ w'.cell? ⟨g, 10, none⟩ = some (.int .i64 mi)) (first | go_keep | (refine ⟨?_, ?_, ?_⟩ <;> rw [four_cell _ _ _ _ _ _ _ _ hng hg2] <;> assumption)) (first
        | (go_at_call 31; refine (hSc _ (by repeat (first | exact World.grownBy.refl _ _ | refine grown_trans ?_ (grown_drew _ _) | refine grown_trans ?_ (grown_drewN _ _ _)))).mono ?_; rintro e w2 ⟨a2, rfl, hA2, g2⟩; have gW := grown_trans (grown_drew wl none) g2; have hS2 := hAl.keep gW; have d8 := hS2.c 8 (.int .i64 p) rfl; have d9 := hS2.c 9 (.bool true) rfl; have d10 := hS2.c 10 (.int .i64 mi) rfl; have hn2 := (gW.block _ (by omega : w.heap.size < wl.heap.size) (by simp)).trans hnl; have x0 := cell_of_row w2 _ 0 _ _ _ hn2; have x1 := cell_of_row w2 _ 1 _ _ _ hn2; have x2 := cell_of_row w2 _ 2 _ _ _ hn2; have x3 := cell_of_row w2 _ 3 _ _ _ hn2; have y0 := frozen_of_row w2 _ 0 _ _ hn2; have y1 := frozen_of_row w2 _ 1 _ _ hn2; have y2 := frozen_of_row w2 _ 2 _ _ hn2; have y3 := frozen_of_row w2 _ 3 _ _ hn2; have hng : ¬ g = w.heap.size := (by omega); have hg2 := hS2.lt))
      have q4 := four_set w2 w.heap.size _ _ _ _ (.int .i64 p) (.bool true) (.int .i64 mi) (.slice a2 n n) _ hn2
      have g4 := four_grown w2 w.heap.size (.int .i64 p) (.bool true) (.int .i64 mi) (.slice a2 n n)
      go_wp2
      refine bodyPost_ret (v := FrA p true mi a2 n) (results_cell_row (p := 2) (by kernel_rfl) _ _ w.heap.size 42 _ (0, 0) _ rfl q4 Try.underlying42 rfl (by kernel_rfl)) rfl ?_
      have hlo : w.heap.size + 1 ≤ wl.drew.heap.size := (by show _ ≤ wl.heap.size; omega)
      refine ⟨a2, rfl, hS2.kept g4 (fun e => hng (Option.some.inj e)), ?_, grown_new (grown_trans (grown_weak gA _) (grown_trans hgr (grown_weak gW _))) g4 (.inr (Nat.le_refl _))⟩
      refine (hA2.kept g4 ?_).wide (by omega)
      rcases hA2.cases with ⟨rfl, _, _⟩ | ⟨gx, rfl, hgx, _⟩
      · exact .inl rfl
      · refine .inr fun e => ?_
        have e2 : gx = w.heap.size := Option.some.inj e
        omega
end

section
open Go.RowKit Go.Shelf

abbrev Fa := Nat × Bool × Nat × List Nat
def absF (f : Fv) : Fa := (f.p, f.tu, f.mi, f.D)
/-- what is told: a frame's own place, and its bytes -/
def gaX (r : Rx) (s : Mx) : Mx × List Fa :=
  if (s.tk - s.p) % 8 ≠ 0 then (s, []) else
    if s.da.length + 1 = r.L then ({ s with mode := 2, p := s.tk, da := [] }, [(s.p, s.tu, s.mi, scrL (tuD s.tu (s.da ++ [s.la % 256])))])
    else ({ s with da := s.da ++ [s.la % 256] }, [])
/-- the frames that were told lie in memory, apart from what is gathered -/
def FdOk (w : World) (dv : Value) (fs : List Fv) : Prop := ∀ f, f ∈ fs → Ans w 0 f.a f.n f.n f.D ∧ ((Value.slice f.a f.n f.n).ownBlock = none ∨ (Value.slice f.a f.n f.n).ownBlock ≠ dv.ownBlock)
structure FdB (w : World) (fb : Nat) (v dv : Value) (fs : List Fv) : Prop where
  box : Boxed w fb 33 v
  row : w.ownsRow 0 42 4 v fs.length (flatF fs)
  ok : FdOk w dv fs
theorem box_frm {w w' : World} {p : Nat → Prop} {B : Nat} {t : TypeId} {v : Value} (h : Boxed w B t v) (hF : Frm p w w') (hn : ¬ p B) : Boxed w' B t v := (hF.block B h.lt hn).trans h
theorem row_frm {w w' : World} {p : Nat → Prop} {base e sz n : Nat} {v : Value} {xs : List Value} (h : w.ownsRow base e sz v n xs) (hF : Frm p w w') (hn : ∀ x, v.ownBlock = some x → ¬ p x) : w'.ownsRow base e sz v n xs := by
  refine ⟨h.1, ?_⟩
  rcases h.2 with h2 | ⟨g, cap, cur, rfl, h4, h5, h6⟩
  · exact .inl h2
  · exact .inr ⟨g, cap, cur, rfl, h4, (hF.block g (Array.getElem?_eq_some_iff.1 h5).1 (hn g rfl)).trans h5, h6⟩
theorem row_lt {w : World} {base e sz n x : Nat} {v : Value} {xs : List Value} (h : w.ownsRow base e sz v n xs) (hx : v.ownBlock = some x) : x < w.heap.size ∧ ∃ cur, w.heap[x]? = some (.cells cur e) := by
  rcases h.2 with ⟨rfl, _⟩ | ⟨g, cap, cur, rfl, h4, h5, h6⟩
  · simp [Value.ownBlock] at hx
  · have e : g = x := Option.some.inj hx
    subst e
    exact ⟨(Array.getElem?_eq_some_iff.1 h5).1, cur, h5⟩
theorem cells_ne {w : World} {x : Nat} {A B : Array Value} {t u : TypeId} (h : w.heap[x]? = some (.cells A t)) (k : w.heap[x]? = some (.cells B u)) (hne : t ≠ u) : False := by
  rw [h] at k; cases k; exact hne rfl
theorem Ans.frm {w w' : World} {p : Nat → Prop} {lo n c : Nat} {a : Option Addr} {L : List Nat} (h : Ans w lo a n c L) (hF : Frm p w w') (hn : ∀ x, (Value.slice a n c).ownBlock = some x → ¬ p x) : Ans w' lo a n c L := ⟨row_frm h.own hF hn, h.byte, h.new⟩
/-- the blocks that a step may write -/
def Wr (g fb : Nat) (dv v : Value) (k : Nat) : Prop := k = g ∨ some k = dv.ownBlock ∨ k = fb ∨ some k = v.ownBlock
theorem FdB.frm {w w' : World} {p : Nat → Prop} {fb : Nat} {v dv dv' : Value} {fs : List Fv} (h : FdB w fb v dv fs) (hF : Frm p w w') (hb : ¬ p fb) (hv : ∀ x, v.ownBlock = some x → ¬ p x)
    (hf : ∀ f, f ∈ fs → ∀ x, (Value.slice f.a f.n f.n).ownBlock = some x → ¬ p x) (hd : ∀ x, dv'.ownBlock = some x → dv.ownBlock = some x ∨ w.heap.size ≤ x) : FdB w' fb v dv' fs := by
  refine ⟨box_frm h.box hF hb, row_frm h.row hF hv, fun f hm => ⟨(h.ok f hm).1.frm hF (hf f hm), ?_⟩⟩
  rcases (h.ok f hm).2 with h1 | h1
  · exact .inl h1
  · cases hx : (Value.slice f.a f.n f.n).ownBlock with
    | none => exact .inl rfl
    | some x =>
      refine .inr fun e => ?_
      rcases hd x e.symm with h2 | h2
      · exact h1 (by rw [hx, h2])
      · have := (row_lt (h.ok f hm).1.own hx).1; omega
/-- what a step writes beside the frames that were told is apart from them -/
theorem FdB.apart {w : World} {g fb L F H M k : Nat} {lk : Bool} {tk la p : Nat} {tu : Bool} {mi : Nat} {d v dv : Value} {fs : List Fv} (h : FdB w fb v dv fs) (hB : SyB w g L F H M k lk tk la p tu mi d) (gd : Nat) (hgd : dv.ownBlock = some gd) (hc : ∃ cur, w.heap[gd]? = some (.cells cur 5)) :
    (fb ≠ g ∧ fb ≠ gd) ∧ (∀ x, v.ownBlock = some x → ¬ (x = g ∨ x = gd)) ∧ (∀ f, f ∈ fs → ∀ x, (Value.slice f.a f.n f.n).ownBlock = some x → ¬ (x = g ∨ x = gd)) := by
  obtain ⟨cur, hc⟩ := hc
  refine ⟨⟨fun e => ?_, fun e => ?_⟩, fun x hx e => ?_, fun f hm x hx e => ?_⟩
  · subst e; exact cells_ne h.box hB (by decide)
  · subst e; exact cells_ne h.box hc (by decide)
  · obtain ⟨_, c2, h2⟩ := row_lt h.row hx
    rcases e with e | e
    · subst e; exact cells_ne h2 hB (by decide)
    · subst e; exact cells_ne h2 hc (by decide)
  · obtain ⟨_, c2, h2⟩ := row_lt (h.ok f hm).1.own hx
    rcases e with e | e
    · subst e; exact cells_ne h2 hB (by decide)
    · subst e
      rcases (h.ok f hm).2 with h1 | h1
      · rw [h1] at hx; cases hx
      · exact h1 (by rw [hx, hgd])
set_option maxHeartbeats 4000000 in
theorem gather1_any (g fb : Nat) (r : Rx) (s : Mx) (dv v : Value) (fs : List Fv) (w : World) (h : SyM w g r s dv) (hf : FdB w fb v dv fs) (hm : s.mode = 1) (hk : ¬ (s.tk - s.p) % 8 = 0) (hp : s.p ≤ s.tk) (htk : s.tk ≤ 4611686018427387904) :
    Calls Try.prog 40 #[.pointer (some ⟨g, 0, none⟩), .func (.func 27) #[] #[.pointer (some ⟨fb, 0, none⟩)]] w fun e w' => e = .returned (.tuple #[]) ∧ ∃ n, w' = w.drewN n := by
  obtain ⟨mode, tk, la, p, tu, mi, da⟩ := s
  obtain ⟨L, F, H, M⟩ := r
  simp only at hm hk hp htk
  subst hm
  have hB : SyB w g L F H M 40 true tk la p tu mi dv := h.blk
  have c6 := hB.c 6 (.int .i64 tk) rfl
  have c8 := hB.c 8 (.int .i64 p) rfl
  obtain ⟨d, hd⟩ : ∃ d, d = tk - p := ⟨_, rfl⟩
  have hw1 : IntKind.i64.wrap ((tk : Int) - (p : Int)) = (d : Int) := by rw [wrap_i64_in _ (by omega) (by omega)]; omega
  have hr1 : (d : Int).tmod 8 = ((d % 8 : Nat) : Int) := by rw [Int.tmod_eq_emod_of_nonneg (by omega)]; omega
  have hr2 : IntKind.i64.wrap ((d : Int).tmod 8) = ((d % 8 : Nat) : Int) := by rw [hr1, wrap_i64_in _ (by omega) (by omega)]
  have hr3 : (((d % 8 : Nat) : Int) == 0) = false := by simp; omega
  have hr4 : IntKind.i64.wrap ((d % 8 : Nat) : Int) = ((d % 8 : Nat) : Int) := wrap_i64_in _ (by omega) (by omega)
  generalize d % 8 = m8 at *
  clear hd hk h
  go_enter Try.func40, Try.ntmps40
  go_wp2
  go_quiet (fail)
  go_wp2
  exact bodyPost_ret (results_none rfl _ _ _) rfl ⟨rfl, nq, rfl⟩
theorem byte_of (la : Nat) : IntKind.u8.wrap (la : Int) = ((la % 256 : Nat) : Int) := by rw [IntKind.wrap_u8']; omega
set_option maxHeartbeats 8000000 in
theorem gather2_any (g fb : Nat) (r : Rx) (s : Mx) (dv v : Value) (fs : List Fv) (w : World) (h : SyM w g r s dv) (hf : FdB w fb v dv fs) (hm : s.mode = 1) (hk : (s.tk - s.p) % 8 = 0) (hp : s.p ≤ s.tk) (htk : s.tk ≤ 4611686018427387904) (hL : r.L ≤ 2048) (hda : s.da.length + 1 < r.L) :
    Calls Try.prog 40 #[.pointer (some ⟨g, 0, none⟩), .func (.func 27) #[] #[.pointer (some ⟨fb, 0, none⟩)]] w fun e w' => e = .returned (.tuple #[]) ∧ ∃ dv', SyM w' g r { s with da := s.da ++ [s.la % 256] } dv' ∧ FdB w' fb v dv' fs ∧ dv'.ownBlock = dv.ownBlock ∧ Frm (Wr g fb dv v) w w' := by
  obtain ⟨mode, tk, la, p, tu, mi, da⟩ := s
  obtain ⟨L, F, H, M⟩ := r
  simp only at hm hk hp htk hL hda
  subst hm
  obtain ⟨hB0, _, hbusy⟩ := h
  obtain ⟨gd, hdv, hne, hrow, hisB⟩ := hbusy rfl
  simp only at hdv hrow hisB
  subst hdv
  have hB : SyB w g L F H M 40 true tk la p tu mi (.slice (some ⟨gd, 0, none⟩) da.length L) := hB0
  clear hB0 hbusy
  have c6 := hB.c 6 (.int .i64 tk) rfl
  have c8 := hB.c 8 (.int .i64 p) rfl
  obtain ⟨d, hd⟩ : ∃ d, d = tk - p := ⟨_, rfl⟩
  have hw1 : IntKind.i64.wrap ((tk : Int) - (p : Int)) = (d : Int) := by rw [wrap_i64_in _ (by omega) (by omega)]; omega
  have hr1 : (d : Int).tmod 8 = 0 := by rw [Int.tmod_eq_emod_of_nonneg (by omega)]; omega
  have hr4 : IntKind.i64.wrap 0 = 0 := wrap_i64_in _ (by omega) (by omega)
  obtain ⟨i0, hi, hz0, hz1, hz2⟩ := info_parts Try.info_u8
  obtain ⟨b, hb⟩ : ∃ b, b = la % 256 := ⟨_, rfl⟩
  have hbw := byte_of la
  rw [← hb] at hbw
  have hbl : b < 256 := by omega
  have HBe : Hid (b = la % 256) := hb
  obtain ⟨n, hn⟩ : ∃ n, n = da.length := ⟨_, rfl⟩
  rw [← hn] at hB hrow hda
  have HN : Hid (n = da.length) := hn
  clear hd hk hb hn
  go_enter Try.func40, Try.ntmps40
  go_wp2
  go_quiet (fail)
  have hB1 := hB.keep (grown_drewN w nq none)
  have G1 := grown_drewN w nq none
  have hrow1 := hrow.kept (grown_drewN w nq none) (.inr (by simp [Value.ownBlock]))
  generalize w.drewN nq = w1 at hB1 G1 hrow1 ⊢
  have c7 := hB1.c 7 (.int .u64 la) rfl
  have c11 := hB1.c 11 (.slice (some ⟨gd, 0, none⟩) n L) rfl
  have hrA : (w1.drew.alloc (.cells #[.int .u8 (b : Int)] 5)).ownsRow 0 5 1 (.slice (some ⟨gd, 0, none⟩) n L) n (bys da) := hrow1.drew.alloc _
  have c11a := (hB1.keep (World.grownBy_alloc w1 (.cells #[.int .u8 (b : Int)] 5) none)).c 11 (.slice (some ⟨gd, 0, none⟩) n L) rfl
  go_wp2
  go_region_law (first
    | (refine step_append_fits rfl (.tmp 19) (.tmp 25) 25 rfl 0 5 i0 1 Try.underlying25 hi hz1 gd n L (bys da) rfl hrA ⟨w1.heap.size, 0, none⟩ 1 1 [.int .u8 (b : Int)] rfl rfl (cell_one w1.drew _) (by simp [Value.oneCell']) (by omega) ?_; intro w2 hown2 g2; have gW : w1.grownBy w2 (some gd) := grown_trans (grown_trans (grown_drew _ _) (World.grownBy_alloc _ _ _)) g2; have hB2 := hB1.kept gW (fun e => hne (Option.some.inj e).symm); have c11' := hB2.c 11 (.slice (some ⟨gd, 0, none⟩) n L) rfl; have f11' := hB2.f 11))
  all_goals
    have hB3 : SyB (w2.setCell ⟨g, 11, none⟩ (.slice (some ⟨gd, 0, none⟩) (n + 1) L)) g L F H M 40 true tk la p tu mi (.slice (some ⟨gd, 0, none⟩) (n + 1) L) := by
      show _ = _
      rw [heap_setCell_same w2 g 11 _ _ _ hB2]; exact congrArg (fun A => some (Obj.cells A _)) (sy11 ..)
    have hr3 := hown2.kept (grown_set w2 g 11 (.slice (some ⟨gd, 0, none⟩) (n + 1) L)) (.inr (by simp only [Value.ownBlock]; exact fun e => hne (Option.some.inj e)))
    have gW3 : Frm (fun k => k = g ∨ k = gd) w (w2.setCell ⟨g, 11, none⟩ (.slice (some ⟨gd, 0, none⟩) (n + 1) L)) := ((Frm.of (p := fun k => k = g ∨ k = gd) (grown_trans (grown_weak G1 _) gW) (fun k e _ => by cases e; exact .inr rfl)).trans (Frm.of (p := fun k => k = g) (grown_set w2 g 11 _) (fun k e _ => by cases e; rfl)) (fun i _ h => .inl h))
    generalize w2.setCell ⟨g, 11, none⟩ (.slice (some ⟨gd, 0, none⟩) (n + 1) L) = w3 at hB3 hr3 gW3 ⊢
    have d11 := hB3.c 11 (.slice (some ⟨gd, 0, none⟩) (n + 1) L) rfl
    have d0 := hB3.c 0 (.int .i64 L) rfl
    have hnl : (((n : Int) + 1) == (L : Int)) = false := by simp; omega
    clear c11' f11' c7 c11 c11a hB2 hown2
    go_wp2
    go_quiet (fail)
    go_wp2
    go_end0
    have hgdc : ∃ cur, w.heap[gd]? = some (.cells cur 5) := (row_lt hrow rfl).2
    obtain ⟨⟨a1, a2⟩, a3, a4⟩ := hf.apart hB gd rfl hgdc
    have gW4 := gW3.trans (Frm.of (p := fun k => k = g ∨ k = gd) (grown_drewN w3 nq none) (fun k e _ => by cases e)) (fun i _ h => h)
    rw [bys_add] at hr3
    refine ⟨rfl, .slice (some ⟨gd, 0, none⟩) (n + 1) L, ⟨hB3.keep (grown_drewN _ _ _), fun h => absurd rfl h, fun _ => ⟨gd, ?_, hne, ?_, ?_⟩⟩, hf.frm gW4 (fun h => h.elim a1 a2) a3 a4 (fun x hx => .inl hx), rfl, gW4.weak (fun i _ h => h.elim .inl (fun h => .inr (.inl (congrArg some h))))⟩
    · show Value.slice _ (n + 1) L = Value.slice _ (da ++ [la % 256]).length L
      rw [List.length_append, HN.out]; rfl
    · show World.ownsRow _ 0 _ 1 _ (da ++ [la % 256]).length _
      rw [List.length_append, ← HBe.out, ← HN.out]
      exact hr3.kept (grown_drewN _ _ none) (.inr (by simp [Value.ownBlock]))
    · exact isB_append hisB (isB_single _ (by rw [← HBe.out]; exact hbl))
end
end Go.Proofs.Ythdjpbfknbafgaa
