import Derived.Test.YthdjpbfknbafgaaTRg
namespace Go.Proofs.Ythdjpbfknbafgaa
open Go.RowKit Go.Shelf
set_option maxRecDepth 100000
set_option linter.unusedVariables false
set_option linter.unusedSimpArgs false
attribute [local go_sem] Oper.semAt_some

/-- the blocks of p lie as they lay, and none is gone -/
def KeepS (p : Nat → Prop) (W W' : World) : Prop := KeepB p W W' ∧ W.heap.size ≤ W'.heap.size
theorem KeepS.trans {p : Nat → Prop} {A B C : World} (h : KeepS p A B) (k : KeepS p B C) : KeepS p A C := ⟨h.1.trans k.1, Nat.le_trans h.2 k.2⟩
theorem KeepS.put {p : Nat → Prop} {w : World} (hp : ∀ k, p k → k < w.heap.size) (W : World) (l : Nat) (o o' : Obj) (hl : w.heap.size ≤ l) (h1 : W.heap[l]? = some o) (h2 : o.isCells = false) (h3 : o.isWalk = false) : KeepS p W (W.putObj l o') := ⟨KeepB.put hp W l o o' hl h1 h2 h3, by simp [World.putObj]⟩
/-- a frame as it is handed over, its bytes copied -/
abbrev Fy := Fv × Nat
def aggY (y : Fy) : Value := .agg #[.int .i64 y.1.p, .bool y.1.tu, .int .i64 y.1.mi, .slice y.1.a y.1.n y.2]
theorem flatF_at (fs : List Fv) (k : Nat) (f : Fv) (h : fs[k]? = some f) (j : Nat) (hj : j < 4) : (flatF fs)[k * 4 + j]? = (cellsF f)[j]? := by
  induction fs generalizing k with
  | nil => simp at h
  | cons a fs ih =>
    show (cellsF a ++ flatF fs)[k * 4 + j]? = _
    cases k with
    | zero =>
      simp only [List.getElem?_cons_zero, Option.some.injEq] at h
      subst h
      rw [Nat.zero_mul, Nat.zero_add, List.getElem?_append_left (by show j < 4; exact hj)]
    | succ k =>
      rw [List.getElem?_cons_succ] at h
      rw [List.getElem?_append_right (by show 4 ≤ _; omega)]
      have : (cellsF a).length = 4 := rfl
      rw [this, show (k + 1) * 4 + j - 4 = k * 4 + j from by omega]
      exact ih k h
set_option maxHeartbeats 2000000 in
theorem take2_in (m l fb base gv cv : Nat) (fs : List Fv) (p : Nat → Prop) (hm : 1 ≤ m) (hfb : p fb) (hgv : p gv) (J Jx : List Fy → World → Prop) (W : World) (hbase : base ≤ W.heap.size) (hpW : ∀ k, p k → k < W.heap.size)
    (hJ : AbidesFrom W.heap.size J)
    (hY : ∀ pre x W1, J pre W1 → Ans W1 base x.1.a x.1.n x.2 x.1.D → pre.length < fs.length → YieldAt Fence.wide (m - 1) Try.prog l #[aggY x] W1 fun e W' =>
      (e = .returned (.bool true) ∧ J (pre ++ [x]) W' ∧ KeepS p W1 W') ∨ (e = .returned (.bool false) ∧ Jx (pre ++ [x]) W'))
    (hb : Boxed W fb 33 (.slice (some ⟨gv, 0, none⟩) fs.length cv)) (hrow : W.ownsRow 0 42 4 (.slice (some ⟨gv, 0, none⟩) fs.length cv) fs.length (flatF fs))
    (hok : ∀ f, f ∈ fs → Ans W 0 f.a f.n f.n f.D ∧ 0 < f.n ∧ f.n ≤ 2048 ∧ ∀ x, (Value.slice f.a f.n f.n).ownBlock = some x → p x) (hlen : fs.length ≤ 4194304) (h0 : J [] W) :
    CallsIn Fence.wide m Try.prog 28 #[.func (.yield l) #[] #[], .pointer (some ⟨fb, 0, none⟩)] W fun e W' => (∃ v, e = .returned v) ∧
      ((∃ ys : List Fy, ys.map (fun y => absF y.1) = fs.map absF ∧ J ys W') ∨ (∃ pre, True ∧ Jx pre W')) := by
  have hc0 := hb.cell
  refine callsIn_of_wp Try.func28 rfl trivial ?_ rfl
  simp only [Try.ntmps28, List.size_toArray, List.length_cons, List.length_nil, Nat.reduceAdd, Nat.reduceSub, Array.replicate_succ, Array.replicate_zero, List.push_toArray, List.append_toArray, List.nil_append, List.cons_append]
  gi_wp2
  gi_loopw [7] (fun i wr => ∃ (k : Nat) (pre : List Fy), k ≤ fs.length ∧ i = .int .i64 k ∧ Hid (pre.map (fun y => absF y.1) = (fs.take k).map absF) ∧ J pre wr ∧ KeepB p W wr ∧ W.heap.size ≤ wr.heap.size) (fun i _ => fs.length - (intOf i).toNat)
  case atStart => exact ⟨0, [], Nat.zero_le _, rfl, rfl, h0, KeepB.refl _ _, Nat.le_refl _⟩
  case round =>
    obtain ⟨k, pre, hk, rfl, HP, hJs, hkp, hsz⟩ := hrel
    have hpl : pre.length = k := by have := congrArg List.length HP.out; simp at this; omega
    by_cases hlt : k < fs.length
    · obtain ⟨f, hf⟩ : ∃ f, fs[k]? = some f := ⟨fs[k], List.getElem?_eq_getElem hlt⟩
      have hfm : f ∈ fs := List.mem_of_getElem? hf
      obtain ⟨hA, hn0, hn1, hfp⟩ := hok f hfm
      have hrw : wr.ownsRow 0 42 4 (.slice (some ⟨gv, 0, none⟩) fs.length cv) fs.length (flatF fs) := by
        refine ⟨hrow.1, ?_⟩
        rcases hrow.2 with ⟨h2, _⟩ | ⟨g', cap, cur, h3, h4, h5, h6⟩
        · cases h2
        · cases h3
          exact .inr ⟨gv, cv, cur, rfl, h4, (hkp gv hgv).trans h5, h6⟩
      have cc : ∀ j u, (cellsF f)[j]? = some u → wr.cell? ⟨gv, k * 4 + j, none⟩ = some u := fun j u hu => by
        have hj : j < 4 := (List.getElem?_eq_some_iff.1 hu).1
        have h := hrw.cells (g := gv) rfl (k * 4 + j) u ((flatF_at fs k f hf j hj).trans hu)
        rw [addr_add, Nat.zero_add] at h
        exact h
      have x0 := cc 0 _ rfl
      have x1 := cc 1 _ rfl
      have x2 := cc 2 _ rfl
      have x3 := cc 3 _ rfl
      rw [Nat.add_zero] at x0
      have hAr : Ans wr 0 f.a f.n f.n f.D := ⟨⟨hA.own.1, by
        rcases hA.own.2 with h2 | ⟨g', cap, cur, h3, h4, h5, h6⟩
        · exact .inl h2
        · exact .inr ⟨g', cap, cur, h3, h4, (hkp g' (hfp g' (by rw [h3]; rfl))).trans h5, h6⟩⟩, hA.byte, hA.new⟩
      clear cc
      obtain ⟨ga, hga⟩ : ∃ ga, f.a = some ⟨ga, 0, none⟩ := (hAr.cases).elim (fun h => absurd h.2.1 (by omega)) (fun h => h.elim fun g hg => ⟨g, hg.1⟩)
      have gA := World.grownBy_alloc wr (.cells #[.int .i64 f.p, .bool f.tu, .int .i64 f.mi, .slice f.a f.n f.n] 42) none
      have hnewb := heap_alloc_new wr (.cells #[.int .i64 f.p, .bool f.tu, .int .i64 f.mi, .slice f.a f.n f.n] 42)
      have hszA : (wr.alloc (.cells #[.int .i64 f.p, .bool f.tu, .int .i64 f.mi, .slice f.a f.n f.n] 42)).heap.size = wr.heap.size + 1 := by simp
      have hCl := clone_any ga 0 f.n f.n f.D _ (by have := (hAr.keep gA).rd; rw [hga] at this; exact this) hn0 (by omega)
      rw [hga] at gA hnewb hszA
      obtain ⟨fp, ftu, fmi, fa, fn', fD⟩ := f
      simp only at hga hn0 hn1 x0 x1 x2 x3 gA hnewb hszA hCl
      subst hga
      have HF : Hid (fs[k]? = some ⟨fp, ftu, fmi, some ⟨ga, 0, none⟩, fn', fD⟩) := hf
      clear hf hfm hok hfp hA hAr
      gi_wp2_with (refine ⟨trivial, ?_⟩; gi_at_call 29; refine (callsIn_wide.2 hCl).mono ?_; rintro e w2 ⟨g', c', rfl, hA2, g2⟩; have hb2 := (g2.block wr.heap.size (by omega) (by simp)).trans hnewb; have z0 := cell_of_row w2 _ 0 _ _ _ hb2; have z1 := cell_of_row w2 _ 1 _ _ _ hb2; have z2 := cell_of_row w2 _ 2 _ _ _ hb2; have z3 := cell_of_row w2 _ 3 _ _ _ hb2; have y3 := frozen_of_row w2 _ 3 _ _ hb2; have hgW := grown_far (grown_trans gA g2) (grown_set w2 wr.heap.size 3 (.slice (some ⟨g', 0, none⟩) fn' c')) (fun x e => by cases e; exact Nat.le_refl _); have hA3 := (hA2.kept (grown_set w2 wr.heap.size 3 (.slice (some ⟨g', 0, none⟩) fn' c')) (.inr (by simp only [Value.ownBlock]; intro e; have := hA2.new g' rfl; have := Option.some.inj e; omega))).wide (show base ≤ _ by omega); have hJ3 := hJ pre wr _ none hJs hgW (fun r e => by cases e); obtain ⟨fn, tmps, assign, body, hy, hR⟩ := hY pre (⟨fp, ftu, fmi, some ⟨g', 0, none⟩, fn', fD⟩, c') _ hJ3 hA3 (by omega); unfold aggY at hy; dsimp only at hy)
      have HFx : Hid ((fs.take (k + 1)).map absF = (fs.take k).map absF ++ [(fp, ftu, fmi, fD)]) := by
        show _ = _
        rw [List.take_add_one, HF.out, List.map_append]; rfl
      refine hR.mono ?_
      rintro e W3 (⟨rfl, hJ4, hk4⟩ | ⟨rfl, hJx4⟩)
      · gi_wp2
        go_roundw
        case rel =>
          refine ⟨k + 1, _, by omega, by simp, ?_, hJ4, fun i hi => (hk4.1 i hi).trans ((hgW.block i (by have := hpW i hi; omega) (by simp)).trans (hkp i hi)), Nat.le_trans hsz (Nat.le_trans hgW.size hk4.2)⟩
          show _ = _
          rw [List.map_append, HP.out, HFx.out]; rfl
        case measure => simp [intOf]; omega
      · gi_wp2
        refine bodyPost_ret (results_none rfl _ _ _) rfl ?_
        exact ⟨⟨_, rfl⟩, .inr ⟨_, trivial, hJx4⟩⟩
    · obtain rfl : k = fs.length := by omega
      gi_wp2
      go_end0
      exact ⟨⟨_, rfl⟩, .inl ⟨pre, by rw [HP.out, List.take_length], hJs⟩⟩
set_option maxHeartbeats 1000000 in
theorem take20_in (m l fb cv : Nat) (ao : Option Addr) (hm : 1 ≤ m) (J Jx : List Fy → World → Prop) (W : World) (hb : Boxed W fb 33 (.slice ao 0 cv)) (h0 : J [] W) :
    CallsIn Fence.wide m Try.prog 28 #[.func (.yield l) #[] #[], .pointer (some ⟨fb, 0, none⟩)] W fun e W' => (∃ v, e = .returned v) ∧
      ((∃ ys : List Fy, ys.map (fun y => absF y.1) = ([] : List Fv).map absF ∧ J ys W') ∨ (∃ pre, True ∧ Jx pre W')) := by
  have hc0 := hb.cell
  refine callsIn_of_wp Try.func28 rfl trivial ?_ rfl
  simp only [Try.ntmps28, List.size_toArray, List.length_cons, List.length_nil, Nat.reduceAdd, Nat.reduceSub, Array.replicate_succ, Array.replicate_zero, List.push_toArray, List.append_toArray, List.nil_append, List.cons_append]
  gi_wp2
  gi_loopw [7] (fun i wr => i = .int .i64 0 ∧ J [] wr ∧ wr = W) (fun i _ => 0)
  case atStart => exact ⟨rfl, h0, rfl⟩
  case round =>
    obtain ⟨rfl, hJs, rfl⟩ := hrel
    gi_wp2
    go_end0
    exact ⟨⟨_, rfl⟩, .inl ⟨[], rfl, hJs⟩⟩
/-- the blocks in which what is told lies -/
def FdP (fb : Nat) (v : Value) (fs : List Fv) (k : Nat) : Prop := k = fb ∨ some k = v.ownBlock ∨ ∃ f, f ∈ fs ∧ some k = (Value.slice f.a f.n f.n).ownBlock
theorem FdB.lt {w : World} {fb : Nat} {v dv : Value} {fs : List Fv} (h : FdB w fb v dv fs) (k : Nat) (hk : FdP fb v fs k) : k < w.heap.size := by
  rcases hk with rfl | hk | ⟨f, hf, hk⟩
  · exact h.box.lt
  · exact (row_lt h.row hk.symm).1
  · exact (row_lt (h.ok f hf).1.own hk.symm).1
theorem take2_stops (m base fb : Nat) (v dv : Value) (fs : List Fv) (w : World) (hm : 1 ≤ m) (h : FdB w fb v dv fs) (hn : ∀ f, f ∈ fs → 0 < f.n ∧ f.n ≤ 2048) (hlen : fs.length ≤ 4194304) (hbase : base ≤ w.heap.size) :
    SeqE Fence.wide m Try.prog 28 #[.pointer (some ⟨fb, 0, none⟩)] (fun y : Fy => #[aggY y]) (fun y W => Ans W base y.1.a y.1.n y.2 y.1.D) (KeepS (FdP fb v fs)) (fun ys => ys.map (fun y => absF y.1) = fs.map absF) (fun _ => True) fs.length w := by
  intro l J Jx W hW hJ _ hY h0
  have F1 : Frm (fun _ => False) w W := ⟨hW.os, hW.tape, hW.output, hW.size, fun k hk _ => hW.block k hk⟩
  have hb := box_frm h.box F1 (fun h => h)
  have hr := row_frm h.row F1 (fun _ _ h => h)
  rcases h.row.2 with ⟨hv, hl⟩ | ⟨gv, cv, cur, hv, _⟩
  · subst hv
    have : fs = [] := List.eq_nil_of_length_eq_zero hl
    subst this
    exact take20_in m l fb 0 none hm J Jx W hb h0
  · subst hv
    refine take2_in m l fb base gv cv fs (FdP fb _ fs) hm (.inl rfl) (.inr (.inl rfl)) J Jx W (Nat.le_trans hbase hW.size) (fun k hk => Nat.lt_of_lt_of_le (h.lt k hk) hW.size) hJ hY hb hr (fun f hf => ⟨(h.ok f hf).1.frm F1 (fun _ _ h => h), (hn f hf).1, (hn f hf).2, fun x hx => .inr (.inr ⟨f, hf, hx.symm⟩)⟩) hlen h0
end Go.Proofs.Ythdjpbfknbafgaa
