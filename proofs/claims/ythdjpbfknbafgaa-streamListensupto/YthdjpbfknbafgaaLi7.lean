import Derived.Test.YthdjpbfknbafgaaLi6
import Derived.OpenShut
import Derived.Test.YthdjpbfknbafgaaLi0
import Derived.Laws.Rows
import Derived.Laws.Tables
import Derived.ArgAppend
import Derived.Deep.DeepAppendWide
import Derived.Laws.AppendOwnNone
import Derived.Test.YthdjpbfknbafgaaProg
import Derived.Deep.RegionHeld3
namespace Go.Proofs.Ythdjpbfknbafgaa
open Go.RowKit
set_option maxRecDepth 100000
set_option linter.unusedVariables false
set_option linter.unusedSimpArgs false

section
open Go.RowKit Go.Shelf
attribute [local go_sem] Oper.semAt_some

/-- the first of two pieces of code -/
def headT : Code → Code
  | .seq a _ => a
  | c => c
def cellsY (y : Fy) : List Value := [.int .i64 y.1.p, .bool y.1.tu, .int .i64 y.1.mi, .slice y.1.a y.1.n y.2]
def flY (ys : List Fy) : List Value := ys.flatMap cellsY
theorem flY_len (ys : List Fy) : (flY ys).length = ys.length * 4 := by
  induction ys with
  | nil => rfl
  | cons f fs ih => show (cellsY f ++ flY fs).length = _; rw [List.length_append, ih, List.length_cons]; show 4 + _ = _; omega
theorem flY_add (ys : List Fy) (y : Fy) : flY ys ++ cellsY y = flY (ys ++ [y]) := by simp [flY]
/-- what a range has collected so far, in the box bA -/
structure CoI (w : World) (bA : Nat) (ys : List Fy) (W : World) : Prop where
  box : ∃ v, Boxed W bA 33 v ∧ W.ownsRow w.heap.size 42 4 v ys.length (flY ys)
  dat : ∀ y, y ∈ ys → Ans W w.heap.size y.1.a y.1.n y.2 y.1.D
  frm : Frm (fun k => k = bA) w W
theorem ans_from {W W' : World} {row : Option Nat} {lo n c k : Nat} {a : Option Addr} {L : List Nat} (h : Ans W lo a n c L) (hg : W.grownBy W' row) (hr : ∀ r, row = some r → k ≤ r ∧ ∃ o : Obj, W.heap[r]? = some o ∧ o.isCells = false) : Ans W' lo a n c L :=
  ⟨row_from h.own hg hr, h.byte, h.new⟩
theorem frm_from {p : Nat → Prop} {w W W' : World} {row : Option Nat} {k : Nat} (h : Frm p w W) (hg : W.grownBy W' row) (hk : w.heap.size ≤ k) (hr : ∀ r, row = some r → k ≤ r ∧ ∃ o : Obj, W.heap[r]? = some o ∧ o.isCells = false) : Frm p w W' :=
  h.trans (Frm.of (p := fun i => w.heap.size ≤ i) hg (fun i e _ => by have := (hr i e).1; omega)) (fun i hi h => absurd h (by omega))
theorem CoI.own (w : World) (bA k : Nat) (hk : w.heap.size ≤ k) : OwnFrom k (CoI w bA) := by
  rintro s X Y row ⟨⟨v, hv, hrow⟩, hd, hf⟩ hg hr
  exact ⟨⟨v, boxed_from hv hg hr, row_from hrow hg hr⟩, fun y hy => ans_from (hd y hy) hg hr, frm_from hf hg hk hr⟩
/-- what an element is that was handed over: it lies in a box of its own -/
def AxY (w : World) (F : Nat → Act) (y : Fy) (a : Act) (W : World) : Prop := ∃ q, a = F q ∧ w.heap.size ≤ q ∧ W.heap[q]? = some (.cells (cellsY y).toArray 42) ∧ Ans W w.heap.size y.1.a y.1.n y.2 y.1.D
theorem AxY.own (w : World) (F : Nat → Act) (y : Fy) (a : Act) (k : Nat) : OwnFrom k (fun (_ : Unit) W => AxY w F y a W) := by
  rintro s X Y row ⟨q, e, hq, hb, hA⟩ hg hr
  refine ⟨q, e, hq, ?_, ans_from hA hg hr⟩
  have hlt : q < X.heap.size := (Array.getElem?_eq_some_iff.1 hb).1
  refine (hg.block q hlt (fun e' => ?_)).trans hb
  obtain ⟨_, o, ho, hc⟩ := hr q e'.symm
  rw [hb] at ho; cases ho; cases hc

set_option maxHeartbeats 4000000 in
theorem li_11 {fb bA : Nat} {v dv : Value} {fs : List Fv} {ds : List Deferred} {u0 u1 u2 u3 u4 u5 u6 u7 u8 u9 u10 u11 u14 u15 u16 u17 u18 u19 u20 u21 u22 u23 u24 u25 u26 u27 u28 u29 u30 u31 u32 u33 u34 u35 u36 u37 u38 u39 u40 u41 u42 u43 u44 u45 u46 u47 u48 u49 u50 u51 u52 u53 u54 u55 u56 u57 u58 u59 u60 u61 u62 u63 u64 u65 u66 u67 : Value} {Q : Exit → Act → World → Prop} (w : World) (h : FdB w fb v dv fs) (hn : ∀ f, f ∈ fs → 0 < f.n ∧ f.n ≤ 2048) (hlen : fs.length ≤ 4194304)
    (hA : Boxed w bA 33 (.slice none 0 0)) (hne : ¬ FdP fb v fs bA)
    (hQ : ∀ D ys W, w.heap.size ≤ D → ys.map (fun y => absF y.1) = fs.map absF → CoI w bA ys W → W.heap[D]? = some (.deferred (some [])) → Q .normal (Act.mk (List.toArray (u0 :: u1 :: u2 :: u3 :: u4 :: u5 :: u6 :: u7 :: u8 :: u9 :: u10 :: u11 :: (.func (.func 28) #[] #[.pointer (some ⟨fb, 0, none⟩)]) :: (.pointer (some ⟨bA, 0, none⟩)) :: u14 :: u15 :: u16 :: u17 :: u18 :: u19 :: u20 :: u21 :: u22 :: u23 :: u24 :: u25 :: u26 :: u27 :: u28 :: u29 :: u30 :: u31 :: u32 :: u33 :: u34 :: u35 :: u36 :: (.func (.func 28) #[] #[.pointer (some ⟨fb, 0, none⟩)]) :: u38 :: u39 :: u40 :: u41 :: u42 :: u43 :: u44 :: u45 :: u46 :: u47 :: u48 :: u49 :: u50 :: u51 :: u52 :: u53 :: u54 :: u55 :: u56 :: u57 :: u58 :: u59 :: u60 :: u61 :: u62 :: u63 :: u64 :: u65 :: u66 :: u67 :: [])) (mark D :: ds)) W) :
    Code.wp Try.prog (headT (tailR 11 (Try.f8.body.getD .skip))) Q (Act.mk (List.toArray (u0 :: u1 :: u2 :: u3 :: u4 :: u5 :: u6 :: u7 :: u8 :: u9 :: u10 :: u11 :: (.func (.func 28) #[] #[.pointer (some ⟨fb, 0, none⟩)]) :: (.pointer (some ⟨bA, 0, none⟩)) :: u14 :: u15 :: u16 :: u17 :: u18 :: u19 :: u20 :: u21 :: u22 :: u23 :: u24 :: u25 :: u26 :: u27 :: u28 :: u29 :: u30 :: u31 :: u32 :: u33 :: u34 :: u35 :: u36 :: u37 :: u38 :: u39 :: u40 :: u41 :: u42 :: u43 :: u44 :: u45 :: u46 :: u47 :: u48 :: u49 :: u50 :: u51 :: u52 :: u53 :: u54 :: u55 :: u56 :: u57 :: u58 :: u59 :: u60 :: u61 :: u62 :: u63 :: u64 :: u65 :: u66 :: u67 :: [])) ds) w := by
  conv => enter [2]; whnf
  go_wp2

  obtain ⟨i0, hi, hz0, hz1, hz2⟩ := info_parts Try.info_fd
  have hst := take2_stops 7 w.heap.size fb v dv fs w (by decide) h hn hlen (Nat.le_refl _)
  have hput := KeepS.put (p := FdP fb v fs) (w := w) (fun k hk => h.lt k hk)
  have hent := enters_of Try.func28 (by kernel_rfl) rfl
  have hI0 : CoI w bA [] w := ⟨⟨_, hA, World.ownsRow_nil _ _ _ _⟩, (fun y hy => by cases hy), Frm.refl _ _⟩
  have hlt := h.lt
  have hAlt := hA.lt
  obtain ⟨FF, hFF⟩ : ∃ FF : Fy → Nat → Act, FF = fun y q => (Act.mk (List.toArray (u0 :: u1 :: u2 :: u3 :: u4 :: u5 :: u6 :: u7 :: u8 :: u9 :: u10 :: u11 :: (.func (.func 28) #[] #[.pointer (some ⟨fb, 0, none⟩)]) :: (.pointer (some ⟨bA, 0, none⟩)) :: u14 :: (.pointer (some ⟨q, 0, none⟩)) :: u16 :: u17 :: u18 :: u19 :: u20 :: u21 :: u22 :: u23 :: u24 :: u25 :: u26 :: u27 :: u28 :: u29 :: u30 :: u31 :: u32 :: u33 :: u34 :: u35 :: u36 :: (.func (.func 28) #[] #[.pointer (some ⟨fb, 0, none⟩)]) :: (aggY y) :: u39 :: u40 :: u41 :: u42 :: u43 :: u44 :: u45 :: u46 :: u47 :: u48 :: u49 :: u50 :: u51 :: u52 :: u53 :: u54 :: u55 :: u56 :: u57 :: u58 :: u59 :: u60 :: u61 :: u62 :: u63 :: u64 :: u65 :: u66 :: u67 :: [])) []) := ⟨_, rfl⟩
  refine wpIn_wide.1 (range_E (n := 8) (F := Fence.wide) rfl (by decide) (gf := 28) (lb := #[.pointer (some ⟨fb, 0, none⟩)]) rfl trivial hent hst KeepS.trans hput (Below.refl _ _) (fun _ => rfl)
    (CoI w bA) (fun _ _ _ => False) (CoI.own w bA _ (Nat.le_refl _)) (fun _ => by rintro s X Y row h _ _; exact h) hI0 (fun y a W => AxY w (FF y) y a W) (fun y a' => AxY.own w (FF y) y a' _) ?assign ?body ?done ?stop)
  case assign =>
    rintro l pre ⟨⟨p, tu, mi, ya, yn, yD⟩, yc⟩ W K hI hE hK
    simp only [List.zip_toArray, List.zip_cons_cons, List.zip_nil_left, List.zip_nil_right, List.size_toArray, List.length_cons, List.length_nil, List.foldl_toArray', List.foldl_toArray, List.foldl_cons, List.foldl_nil, List.setIfInBounds_toArray, List.set_cons_succ, List.set_cons_zero]
    unfold aggY
    have HK : Hid _ := hK
    clear hK
    have hsz : w.heap.size ≤ W.heap.size := hI.frm.size
    gi_wp2
    refine HK.out _ _ ((KeepsOthers.alloc W _).from _) ⟨fun k hk => (World.grownBy_alloc W _ none).block k (by have := hlt k hk; omega) (by simp), by simp⟩ (CoI.own w bA _ (Nat.le_refl _) _ _ _ none hI (World.grownBy_alloc W _ none) (fun r e => by cases e)) ?_
    rw [hFF]
    exact ⟨W.heap.size, rfl, hsz, heap_alloc_new _ _, hE.keep (World.grownBy_alloc W _ none)⟩
  case body =>
    rintro l pre ⟨⟨p, tu, mi, ya, yn, yD⟩, yc⟩ a' W ⟨⟨v0, hv, hrow⟩, hd, hf⟩ ⟨q, ha, hq, hb, hAns⟩ hl
    rw [hFF] at ha
    subst ha
    clear hFF
    unfold aggY
    have hsz : w.heap.size ≤ W.heap.size := hf.size
    have hc := hv.cell
    have c0 : W.cell? ⟨q, 0, none⟩ = some (.int .i64 (p : Nat)) := cell_of_row W q 0 _ _ _ hb
    have c1 : W.cell? ⟨q, 1, none⟩ = some (.bool tu) := cell_of_row W q 1 _ _ _ hb
    have c2 : W.cell? ⟨q, 2, none⟩ = some (.int .i64 (mi : Nat)) := cell_of_row W q 2 _ _ _ hb
    have c3 : W.cell? ⟨q, 3, none⟩ = some (.slice ya yn yc) := cell_of_row W q 3 _ _ _ hb
    obtain ⟨av, nv, cv, rfl⟩ : ∃ av nv cv, v0 = .slice av nv cv := by
      rcases hrow.2 with ⟨rfl, _⟩ | ⟨g, cap, cur, rfl, _⟩
      · exact ⟨_, _, _, rfl⟩
      · exact ⟨_, _, _, rfl⟩
    have hfl := flY_len pre
    have HH : Hid (FdP fb v fs bA → False) := hne
    have HL : Hid (∀ k, FdP fb v fs k → k < w.heap.size) := hlt
    have HX : Hid _ := hent
    have HS : Hid _ := hst
    have HP : Hid _ := hput
    clear hne hlt hent hst hput hb
    refine wpIn_block ?_
    gi_wp2_with (gi_at_builtin; refine wpListIn_append_own _ rfl _ _ 33 rfl w.heap.size 42 i0 _ 4 48 Try.underlying33 hi hz0 hz1 hz2 rfl (by decide) (.slice av nv cv) pre.length (flY pre) rfl (hrow.alloc _) ⟨W.heap.size, 0, none⟩ 1 1 (cellsY (⟨p, tu, mi, ya, yn, yD⟩, yc)) rfl rfl (by exact cells_four _ _ _ _ _) (by simp [cellsY, Value.oneCell']) (by unfold maxLen; omega) (by omega) (by simp; omega) ?_; intro v' w1 hown' hgrow _; obtain ⟨g', cap', rfl⟩ := ownsRow_succ hown'; have nb := (hv.alloc (.cells #[.int .i64 (p : Nat), .bool tu, .int .i64 (mi : Nat), .slice ya yn yc] 42)).not_row (e := 42) (by decide) (hrow.alloc (.cells #[.int .i64 (p : Nat), .bool tu, .int .i64 (mi : Nat), .slice ya yn yc] 42)); have b2 := (hv.alloc (.cells #[.int .i64 (p : Nat), .bool tu, .int .i64 (mi : Nat), .slice ya yn yc] 42)).kept hgrow nb; have hc2 := b2.cell; have hf2 := b2.frozen)
    have b3 := b2.set (.slice (some ⟨g', 0, none⟩) (pre.length + 1) cap')
    have r3 := hown'.kept (grown_set w1 bA 0 (.slice (some ⟨g', 0, none⟩) (pre.length + 1) cap')) (.inr (b2.not_row (e := 42) (by decide) hown').symm)
    rw [flY_add] at r3
    have hbs : ∀ i, (Value.slice av nv cv).ownBlock = some i → w.heap.size ≤ i := fun i hi => by
      rcases hrow.2 with ⟨e, _⟩ | ⟨g, cap, cur, e, h1, _⟩
      · rw [e] at hi; cases hi
      · rw [e] at hi; have e2 : g = i := Option.some.inj hi; omega
    have gA := World.grownBy_alloc W (.cells #[.int .i64 (p : Nat), .bool tu, .int .i64 (mi : Nat), .slice ya yn yc] 42) none
    have F2 : Frm (fun k => k = bA ∨ (Value.slice av nv cv).ownBlock = some k) W (w1.setCell ⟨bA, 0, none⟩ (.slice (some ⟨g', 0, none⟩) (pre.length + 1) cap')) :=
      ((Frm.of (p := fun k => k = bA ∨ (Value.slice av nv cv).ownBlock = some k) gA (fun k e _ => by cases e)).trans (Frm.of (p := fun k => (Value.slice av nv cv).ownBlock = some k) hgrow (fun k e _ => e)) (fun i _ h => .inr h)).trans (Frm.of (p := fun k => k = bA) (grown_set w1 bA 0 _) (fun k e _ => by cases e; rfl)) (fun i _ h => .inl h)
    have hAn : ∀ {a n c L}, Ans W w.heap.size a n c L → Ans (w1.setCell ⟨bA, 0, none⟩ (.slice (some ⟨g', 0, none⟩) (pre.length + 1) cap')) w.heap.size a n c L := fun {a n c L} hA => hA.frm F2 (fun x hx hp => by
      obtain ⟨_, cur, hcur⟩ := row_lt hA.own hx
      rcases hp with rfl | hp
      · exact cells_ne hcur hv (by decide)
      · obtain ⟨_, cur2, hcur2⟩ := row_lt hrow hp
        exact cells_ne hcur hcur2 (by decide))
    refine ⟨(((KeepsOthers.alloc W _).trans (KeepsOthers.of_grownBy hgrow (fun j o ej hj => ?_))).trans (KeepsOthers.setCell _ _ _)).from _, ⟨fun k hk => F2.block k (by have := HL.out k hk; omega) (fun hp => ?_), F2.size⟩, ⟨⟨_, b3, by rw [List.length_append]; exact r3⟩, ?_, ?_⟩⟩
    · obtain ⟨_, cur, hcur⟩ := row_lt (hrow.alloc (.cells #[.int .i64 (p : Nat), .bool tu, .int .i64 (mi : Nat), .slice ya yn yc] 42)) ej
      rw [hcur] at hj; cases hj; rfl
    · rcases hp with rfl | hp
      · exact HH.out hk
      · have := HL.out k hk; have := hbs k hp; omega
    · intro y hy
      rcases List.mem_append.1 hy with hy | hy
      · exact hAn (hd y hy)
      · rw [List.mem_singleton.1 hy]; exact hAn hAns
    · exact hf.trans F2 (fun i hi hp => by
        rcases hp with rfl | hp
        · rfl
        · have := hbs i hp; omega)
  case done =>
    intro D xs W hD hS hI hk
    exact hQ D xs W hD hS hI hk
  case stop =>
    intro D c pre W _ _ h _
    exact h.elim

set_option maxHeartbeats 4000000 in
theorem li_14 {fb : Nat} {v dv : Value} {fs : List Fv} {ds : List Deferred} {u0 u1 u2 u3 u4 u5 u6 u7 u8 u9 u10 u11 u13 u14 u15 u16 u17 u18 u19 u20 u21 u22 u23 u24 u25 u26 u27 u28 u29 u30 u31 u32 u33 u34 u35 u36 u37 u38 u39 u40 u41 u42 u43 u44 u45 u46 u47 u48 u49 u50 u51 u52 u53 u54 u55 u56 u57 u58 u59 u60 u61 u62 u63 u64 u65 u66 u67 : Value} {Q : Exit → Act → World → Prop} (w : World) (h : FdB w fb v dv fs) (hn : ∀ f, f ∈ fs → 0 < f.n ∧ f.n ≤ 2048) (hlen : fs.length ≤ 4194304)
    (hQ : ∀ D W, w.heap.size ≤ D → Frm (fun _ => False) w W → W.heap[D]? = some (.deferred (some [])) → Q .normal (Act.mk (List.toArray (u0 :: u1 :: u2 :: u3 :: u4 :: u5 :: u6 :: u7 :: u8 :: u9 :: u10 :: u11 :: (.func (.func 28) #[] #[.pointer (some ⟨fb, 0, none⟩)]) :: u13 :: u14 :: u15 :: u16 :: u17 :: u18 :: u19 :: u20 :: u21 :: u22 :: u23 :: u24 :: u25 :: u26 :: u27 :: u28 :: u29 :: u30 :: u31 :: u32 :: u33 :: u34 :: u35 :: u36 :: u37 :: u38 :: u39 :: u40 :: u41 :: u42 :: (.func (.func 28) #[] #[.pointer (some ⟨fb, 0, none⟩)]) :: u44 :: u45 :: u46 :: u47 :: u48 :: u49 :: u50 :: u51 :: u52 :: u53 :: u54 :: u55 :: u56 :: u57 :: u58 :: u59 :: u60 :: u61 :: u62 :: u63 :: u64 :: u65 :: u66 :: u67 :: [])) (mark D :: ds)) W) :
    Code.wp Try.prog (headT (tailR 14 (Try.f8.body.getD .skip))) Q (Act.mk (List.toArray (u0 :: u1 :: u2 :: u3 :: u4 :: u5 :: u6 :: u7 :: u8 :: u9 :: u10 :: u11 :: (.func (.func 28) #[] #[.pointer (some ⟨fb, 0, none⟩)]) :: u13 :: u14 :: u15 :: u16 :: u17 :: u18 :: u19 :: u20 :: u21 :: u22 :: u23 :: u24 :: u25 :: u26 :: u27 :: u28 :: u29 :: u30 :: u31 :: u32 :: u33 :: u34 :: u35 :: u36 :: u37 :: u38 :: u39 :: u40 :: u41 :: u42 :: u43 :: u44 :: u45 :: u46 :: u47 :: u48 :: u49 :: u50 :: u51 :: u52 :: u53 :: u54 :: u55 :: u56 :: u57 :: u58 :: u59 :: u60 :: u61 :: u62 :: u63 :: u64 :: u65 :: u66 :: u67 :: [])) ds) w := by
  conv => enter [2]; whnf
  go_wp2

  have hst := take2_stops 7 w.heap.size fb v dv fs w (by decide) h hn hlen (Nat.le_refl _)
  have hput := KeepS.put (p := FdP fb v fs) (w := w) (fun k hk => h.lt k hk)
  have hent := enters_of Try.func28 (by kernel_rfl) rfl
  have hown : ∀ k, w.heap.size ≤ k → OwnFrom k (fun (_ : List Fy) W => Frm (fun _ => False) w W) := fun k hk => by rintro s X Y row h hg hr; exact frm_from h hg hk hr
  refine wpIn_wide.1 (range_E (n := 8) (F := Fence.wide) rfl (by decide) (gf := 28) (lb := #[.pointer (some ⟨fb, 0, none⟩)]) rfl trivial hent hst KeepS.trans hput (Below.refl _ _) (fun _ => rfl)
    (fun _ W => Frm (fun _ => False) w W) (fun c _ W => c = .exit 4 ∧ Frm (fun _ => False) w W) (hown _ (Nat.le_refl _)) (fun c => by rintro s X Y row ⟨h0, h⟩ hg hr; exact ⟨h0, frm_from h hg (Nat.le_refl _) hr⟩) (Frm.refl _ _) (fun _ _ _ => True) (fun _ _ => by rintro s X Y row h _ _; trivial) ?assign ?body ?done ?stop)
  case assign =>
    intro l pre x W K hI hE hK
    gi_wp2
    exact hK _ _ ((KeepsOthers.refl W).from _) ⟨KeepB.refl _ _, Nat.le_refl _⟩ hI trivial
  case body =>
    intro l pre x a' W hI _ _
    refine wpIn_block (wpIn_exit ?_)
    exact ⟨(KeepsOthers.refl W).from _, rfl, hI⟩
  case done =>
    intro D xs W hD hS hI hk
    exact hQ D W hD hI hk
  case stop =>
    rintro D c pre W hD _ ⟨rfl, hI⟩ hk
    refine wpIn_exit ?_
    exact hQ D W hD hI hk

set_option maxHeartbeats 4000000 in
theorem li_15 {fb bA : Nat} {v dv : Value} {fs : List Fv} {ds : List Deferred} {u0 u1 u2 u3 u4 u5 u6 u7 u8 u9 u10 u11 u13 u15 u16 u17 u18 u19 u20 u21 u22 u23 u24 u25 u26 u27 u28 u29 u30 u31 u32 u33 u34 u35 u36 u37 u38 u39 u40 u41 u42 u43 u44 u45 u46 u47 u48 u49 u50 u51 u52 u53 u54 u55 u56 u57 u58 u59 u60 u61 u62 u63 u64 u65 u66 u67 : Value} {Q : Exit → Act → World → Prop} (w : World) (h : FdB w fb v dv fs) (hn : ∀ f, f ∈ fs → 0 < f.n ∧ f.n ≤ 2048) (hlen : fs.length ≤ 4194304)
    (hA : Boxed w bA 33 (.slice none 0 0)) (hne : ¬ FdP fb v fs bA)
    (hQ : ∀ D ys W, w.heap.size ≤ D → ys.map (fun y => absF y.1) = fs.map absF → CoI w bA ys W → W.heap[D]? = some (.deferred (some [])) → Q .normal (Act.mk (List.toArray (u0 :: u1 :: u2 :: u3 :: u4 :: u5 :: u6 :: u7 :: u8 :: u9 :: u10 :: u11 :: (.func (.func 28) #[] #[.pointer (some ⟨fb, 0, none⟩)]) :: u13 :: (.pointer (some ⟨bA, 0, none⟩)) :: u15 :: u16 :: u17 :: u18 :: u19 :: u20 :: u21 :: u22 :: u23 :: u24 :: u25 :: u26 :: u27 :: u28 :: u29 :: u30 :: u31 :: u32 :: u33 :: u34 :: u35 :: u36 :: u37 :: u38 :: u39 :: u40 :: u41 :: u42 :: u43 :: u44 :: (.func (.func 28) #[] #[.pointer (some ⟨fb, 0, none⟩)]) :: u46 :: u47 :: u48 :: u49 :: u50 :: u51 :: u52 :: u53 :: u54 :: u55 :: u56 :: u57 :: u58 :: u59 :: u60 :: u61 :: u62 :: u63 :: u64 :: u65 :: u66 :: u67 :: [])) (mark D :: ds)) W) :
    Code.wp Try.prog (headT (tailR 15 (Try.f8.body.getD .skip))) Q (Act.mk (List.toArray (u0 :: u1 :: u2 :: u3 :: u4 :: u5 :: u6 :: u7 :: u8 :: u9 :: u10 :: u11 :: (.func (.func 28) #[] #[.pointer (some ⟨fb, 0, none⟩)]) :: u13 :: (.pointer (some ⟨bA, 0, none⟩)) :: u15 :: u16 :: u17 :: u18 :: u19 :: u20 :: u21 :: u22 :: u23 :: u24 :: u25 :: u26 :: u27 :: u28 :: u29 :: u30 :: u31 :: u32 :: u33 :: u34 :: u35 :: u36 :: u37 :: u38 :: u39 :: u40 :: u41 :: u42 :: u43 :: u44 :: u45 :: u46 :: u47 :: u48 :: u49 :: u50 :: u51 :: u52 :: u53 :: u54 :: u55 :: u56 :: u57 :: u58 :: u59 :: u60 :: u61 :: u62 :: u63 :: u64 :: u65 :: u66 :: u67 :: [])) ds) w := by
  conv => enter [2]; whnf
  go_wp2

  obtain ⟨i0, hi, hz0, hz1, hz2⟩ := info_parts Try.info_fd
  have hst := take2_stops 7 w.heap.size fb v dv fs w (by decide) h hn hlen (Nat.le_refl _)
  have hput := KeepS.put (p := FdP fb v fs) (w := w) (fun k hk => h.lt k hk)
  have hent := enters_of Try.func28 (by kernel_rfl) rfl
  have hI0 : CoI w bA [] w := ⟨⟨_, hA, World.ownsRow_nil _ _ _ _⟩, (fun y hy => by cases hy), Frm.refl _ _⟩
  have hlt := h.lt
  have hAlt := hA.lt
  obtain ⟨FF, hFF⟩ : ∃ FF : Fy → Nat → Act, FF = fun y q => (Act.mk (List.toArray (u0 :: u1 :: u2 :: u3 :: u4 :: u5 :: u6 :: u7 :: u8 :: u9 :: u10 :: u11 :: (.func (.func 28) #[] #[.pointer (some ⟨fb, 0, none⟩)]) :: u13 :: (.pointer (some ⟨bA, 0, none⟩)) :: u15 :: (.pointer (some ⟨q, 0, none⟩)) :: u17 :: u18 :: u19 :: u20 :: u21 :: u22 :: u23 :: u24 :: u25 :: u26 :: u27 :: u28 :: u29 :: u30 :: u31 :: u32 :: u33 :: u34 :: u35 :: u36 :: u37 :: u38 :: u39 :: u40 :: u41 :: u42 :: u43 :: u44 :: (.func (.func 28) #[] #[.pointer (some ⟨fb, 0, none⟩)]) :: (aggY y) :: u47 :: u48 :: u49 :: u50 :: u51 :: u52 :: u53 :: u54 :: u55 :: u56 :: u57 :: u58 :: u59 :: u60 :: u61 :: u62 :: u63 :: u64 :: u65 :: u66 :: u67 :: [])) []) := ⟨_, rfl⟩
  refine wpIn_wide.1 (range_E (n := 8) (F := Fence.wide) rfl (by decide) (gf := 28) (lb := #[.pointer (some ⟨fb, 0, none⟩)]) rfl trivial hent hst KeepS.trans hput (Below.refl _ _) (fun _ => rfl)
    (CoI w bA) (fun _ _ _ => False) (CoI.own w bA _ (Nat.le_refl _)) (fun _ => by rintro s X Y row h _ _; exact h) hI0 (fun y a W => AxY w (FF y) y a W) (fun y a' => AxY.own w (FF y) y a' _) ?assign ?body ?done ?stop)
  case assign =>
    rintro l pre ⟨⟨p, tu, mi, ya, yn, yD⟩, yc⟩ W K hI hE hK
    simp only [List.zip_toArray, List.zip_cons_cons, List.zip_nil_left, List.zip_nil_right, List.size_toArray, List.length_cons, List.length_nil, List.foldl_toArray', List.foldl_toArray, List.foldl_cons, List.foldl_nil, List.setIfInBounds_toArray, List.set_cons_succ, List.set_cons_zero]
    unfold aggY
    have HK : Hid _ := hK
    clear hK
    have hsz : w.heap.size ≤ W.heap.size := hI.frm.size
    gi_wp2
    refine HK.out _ _ ((KeepsOthers.alloc W _).from _) ⟨fun k hk => (World.grownBy_alloc W _ none).block k (by have := hlt k hk; omega) (by simp), by simp⟩ (CoI.own w bA _ (Nat.le_refl _) _ _ _ none hI (World.grownBy_alloc W _ none) (fun r e => by cases e)) ?_
    rw [hFF]
    exact ⟨W.heap.size, rfl, hsz, heap_alloc_new _ _, hE.keep (World.grownBy_alloc W _ none)⟩
  case body =>
    rintro l pre ⟨⟨p, tu, mi, ya, yn, yD⟩, yc⟩ a' W ⟨⟨v0, hv, hrow⟩, hd, hf⟩ ⟨q, ha, hq, hb, hAns⟩ hl
    rw [hFF] at ha
    subst ha
    clear hFF
    unfold aggY
    have hsz : w.heap.size ≤ W.heap.size := hf.size
    have hc := hv.cell
    have c0 : W.cell? ⟨q, 0, none⟩ = some (.int .i64 (p : Nat)) := cell_of_row W q 0 _ _ _ hb
    have c1 : W.cell? ⟨q, 1, none⟩ = some (.bool tu) := cell_of_row W q 1 _ _ _ hb
    have c2 : W.cell? ⟨q, 2, none⟩ = some (.int .i64 (mi : Nat)) := cell_of_row W q 2 _ _ _ hb
    have c3 : W.cell? ⟨q, 3, none⟩ = some (.slice ya yn yc) := cell_of_row W q 3 _ _ _ hb
    obtain ⟨av, nv, cv, rfl⟩ : ∃ av nv cv, v0 = .slice av nv cv := by
      rcases hrow.2 with ⟨rfl, _⟩ | ⟨g, cap, cur, rfl, _⟩
      · exact ⟨_, _, _, rfl⟩
      · exact ⟨_, _, _, rfl⟩
    have hfl := flY_len pre
    have HH : Hid (FdP fb v fs bA → False) := hne
    have HL : Hid (∀ k, FdP fb v fs k → k < w.heap.size) := hlt
    have HX : Hid _ := hent
    have HS : Hid _ := hst
    have HP : Hid _ := hput
    clear hne hlt hent hst hput hb
    refine wpIn_block ?_
    gi_wp2_with (gi_at_builtin; refine wpListIn_append_own _ rfl _ _ 33 rfl w.heap.size 42 i0 _ 4 48 Try.underlying33 hi hz0 hz1 hz2 rfl (by decide) (.slice av nv cv) pre.length (flY pre) rfl (hrow.alloc _) ⟨W.heap.size, 0, none⟩ 1 1 (cellsY (⟨p, tu, mi, ya, yn, yD⟩, yc)) rfl rfl (by exact cells_four _ _ _ _ _) (by simp [cellsY, Value.oneCell']) (by unfold maxLen; omega) (by omega) (by simp; omega) ?_; intro v' w1 hown' hgrow _; obtain ⟨g', cap', rfl⟩ := ownsRow_succ hown'; have nb := (hv.alloc (.cells #[.int .i64 (p : Nat), .bool tu, .int .i64 (mi : Nat), .slice ya yn yc] 42)).not_row (e := 42) (by decide) (hrow.alloc (.cells #[.int .i64 (p : Nat), .bool tu, .int .i64 (mi : Nat), .slice ya yn yc] 42)); have b2 := (hv.alloc (.cells #[.int .i64 (p : Nat), .bool tu, .int .i64 (mi : Nat), .slice ya yn yc] 42)).kept hgrow nb; have hc2 := b2.cell; have hf2 := b2.frozen)
    have b3 := b2.set (.slice (some ⟨g', 0, none⟩) (pre.length + 1) cap')
    have r3 := hown'.kept (grown_set w1 bA 0 (.slice (some ⟨g', 0, none⟩) (pre.length + 1) cap')) (.inr (b2.not_row (e := 42) (by decide) hown').symm)
    rw [flY_add] at r3
    have hbs : ∀ i, (Value.slice av nv cv).ownBlock = some i → w.heap.size ≤ i := fun i hi => by
      rcases hrow.2 with ⟨e, _⟩ | ⟨g, cap, cur, e, h1, _⟩
      · rw [e] at hi; cases hi
      · rw [e] at hi; have e2 : g = i := Option.some.inj hi; omega
    have gA := World.grownBy_alloc W (.cells #[.int .i64 (p : Nat), .bool tu, .int .i64 (mi : Nat), .slice ya yn yc] 42) none
    have F2 : Frm (fun k => k = bA ∨ (Value.slice av nv cv).ownBlock = some k) W (w1.setCell ⟨bA, 0, none⟩ (.slice (some ⟨g', 0, none⟩) (pre.length + 1) cap')) :=
      ((Frm.of (p := fun k => k = bA ∨ (Value.slice av nv cv).ownBlock = some k) gA (fun k e _ => by cases e)).trans (Frm.of (p := fun k => (Value.slice av nv cv).ownBlock = some k) hgrow (fun k e _ => e)) (fun i _ h => .inr h)).trans (Frm.of (p := fun k => k = bA) (grown_set w1 bA 0 _) (fun k e _ => by cases e; rfl)) (fun i _ h => .inl h)
    have hAn : ∀ {a n c L}, Ans W w.heap.size a n c L → Ans (w1.setCell ⟨bA, 0, none⟩ (.slice (some ⟨g', 0, none⟩) (pre.length + 1) cap')) w.heap.size a n c L := fun {a n c L} hA => hA.frm F2 (fun x hx hp => by
      obtain ⟨_, cur, hcur⟩ := row_lt hA.own hx
      rcases hp with rfl | hp
      · exact cells_ne hcur hv (by decide)
      · obtain ⟨_, cur2, hcur2⟩ := row_lt hrow hp
        exact cells_ne hcur hcur2 (by decide))
    refine ⟨(((KeepsOthers.alloc W _).trans (KeepsOthers.of_grownBy hgrow (fun j o ej hj => ?_))).trans (KeepsOthers.setCell _ _ _)).from _, ⟨fun k hk => F2.block k (by have := HL.out k hk; omega) (fun hp => ?_), F2.size⟩, ⟨⟨_, b3, by rw [List.length_append]; exact r3⟩, ?_, ?_⟩⟩
    · obtain ⟨_, cur, hcur⟩ := row_lt (hrow.alloc (.cells #[.int .i64 (p : Nat), .bool tu, .int .i64 (mi : Nat), .slice ya yn yc] 42)) ej
      rw [hcur] at hj; cases hj; rfl
    · rcases hp with rfl | hp
      · exact HH.out hk
      · have := HL.out k hk; have := hbs k hp; omega
    · intro y hy
      rcases List.mem_append.1 hy with hy | hy
      · exact hAn (hd y hy)
      · rw [List.mem_singleton.1 hy]; exact hAn hAns
    · exact hf.trans F2 (fun i hi hp => by
        rcases hp with rfl | hp
        · rfl
        · have := hbs i hp; omega)
  case done =>
    intro D xs W hD hS hI hk
    exact hQ D xs W hD hS hI hk
  case stop =>
    intro D c pre W _ _ h _
    exact h.elim
end

section
/-- From a slice of bytes that came in to how it is read. -/
theorem rd_of_row {w : World} {a : Option Addr} {len cap : Nat} {zs : List Int}
    (h : (a = none ∧ len = 0 ∧ cap = 0 ∧ zs = []) ∨ ∃ x, a = some x ∧ len ≤ cap ∧ cap ≤ maxLen ∧ zs.length = cap ∧ (∀ i, i < zs.length → w.cell? (x.add i) = some (.int .u8 (zs.getD i 0))) ∧ ∀ n ∈ zs, (Lit.int .u8 n).wf = true) :
    ∃ L, Rd w a len cap L ∧ len ≤ cap := by
  rcases h with ⟨rfl, rfl, rfl, rfl⟩ | ⟨x, rfl, hl, hm, hz, hcell, hwf⟩
  · exact ⟨[], ⟨rfl, Nat.le_refl _, Nat.zero_le _, fun _ => rfl, (fun x hx => by cases hx), fun h => by omega⟩, Nat.le_refl _⟩
  · have hget : ∀ i, i < len → zs.getD i 0 = ((nth ((zs.take len).map Int.toNat) i : Nat) : Int) ∧ 0 ≤ zs.getD i 0 := by
      intro i hi
      have hi' : i < zs.length := by omega
      have hb := bounds_u8 (hwf zs[i] (List.getElem_mem hi'))
      unfold nth
      rw [List.getD_eq_getElem?_getD, List.getD_eq_getElem?_getD, List.getElem?_map, List.getElem?_take, if_pos hi, List.getElem?_eq_getElem hi']
      simp only [Option.map_some, Option.getD_some]
      omega
    refine ⟨(zs.take len).map Int.toNat, ⟨by simp; omega, hl, hm, (fun h => by cases h), ?_, fun h0 => ?_⟩, hl⟩
    · intro y hy
      obtain ⟨n, hn, rfl⟩ := List.mem_map.1 hy
      have hb := bounds_u8 (hwf n (List.mem_of_mem_take hn))
      omega
    · have hc0 := hcell 0 (by omega)
      obtain ⟨b, off, spot⟩ := x
      have hspot : spot = none := by simpa [Addr.add] using World.cell?_spot hc0
      subst hspot
      refine ⟨b, off, rfl, ?_, fun i hi => ?_⟩
      · exact World.block_lt_of_cell? w _ hc0
      · rw [← (hget i hi).1]
        have := hcell i (by omega)
        have e : (⟨b, off, none⟩ : Addr).add i = ⟨b, off + i, none⟩ := by unfold Addr.add; split <;> simp_all
        rw [e] at this
        exact this
end

section
/-- a value of several cells in a box -/
def BxS (w : World) (g : Nat) (t : TypeId) (cs : Array Value) : Prop := w.heap[g]? = some (.cells cs t)
theorem BxS.lt {w : World} {g : Nat} {t : TypeId} {cs : Array Value} (h : BxS w g t cs) : g < w.heap.size := (Array.getElem?_eq_some_iff.1 h).1
theorem BxS.free {w : World} {g : Nat} {t : TypeId} {cs : Array Value} (h : BxS w g t cs) (i : Nat) : w.frozen? ⟨g, i, none⟩ = false := frozen_of_row w g i _ _ h
theorem BxS.cell {w : World} {g : Nat} {t : TypeId} {cs : Array Value} (h : BxS w g t cs) (i : Nat) (hi : i < cs.size) : w.cell? ⟨g, i, none⟩ = some cs[i] := by
  rw [cell_of_row w g i cs t (0, 0) h, Array.getElem?_eq_getElem hi]
theorem BxS.keep {w w' : World} {g : Nat} {t : TypeId} {cs : Array Value} {r : Option Nat} (h : BxS w g t cs) (hg : w.grownBy w' r) (hne : some g ≠ r) : BxS w' g t cs := (hg.block g h.lt hne).trans h
theorem BxS.new (w : World) (t : TypeId) (cs : Array Value) : BxS (w.alloc (.cells cs t)) w.heap.size t cs := heap_alloc_new w _
theorem BxS.set {w : World} {g : Nat} {t : TypeId} {cs : Array Value} (h : BxS w g t cs) (i : Nat) (v : Value) : BxS (w.setCell ⟨g, i, none⟩ v) g t (cs.set! i v) := by
  unfold BxS
  rw [setCell_eq_setRow w g i _ _ _ _ h]
  exact setRow_heap w g _ _ _ _ h
theorem BxS.row {w : World} {g : Nat} {t : TypeId} {cs : Array Value} (h : BxS w g t cs) (ds : Array Value) : BxS (w.setRow g ds) g t ds := setRow_heap w g _ _ _ _ h
end

section
/-- a slice as it is read -/
structure RdX (w : World) (a : Option Addr) (n cap : Nat) (X : List Value) : Prop where
  len : X.length = n
  le : n ≤ cap
  max : cap ≤ maxLen
  nil : a = none → cap = 0
  one : ∀ u, u ∈ X → u.oneCell' = true
  at' : 0 < n → ∃ b off, a = some ⟨b, off, none⟩ ∧ b < w.heap.size ∧ ∀ i u, X[i]? = some u → w.cell? ⟨b, off + i, none⟩ = some u
theorem RdX.grown {w w' : World} {a : Option Addr} {n cap : Nat} {X : List Value} {r : Option Nat} (h : RdX w a n cap X) (hg : w.grownBy w' r) (hne : ∀ b off, a = some ⟨b, off, none⟩ → some b ≠ r) : RdX w' a n cap X := by
  refine ⟨h.len, h.le, h.max, h.nil, h.one, fun h0 => ?_⟩
  obtain ⟨b, off, rfl, hb, hc⟩ := h.at' h0
  refine ⟨b, off, rfl, Nat.lt_of_lt_of_le hb hg.size, fun i u hu => ?_⟩
  exact (World.cell?_of_block (w := w) (hg.block b hb (hne b off rfl))).trans (hc i u hu)
theorem RdX.keep {w w' : World} {a : Option Addr} {n cap : Nat} {X : List Value} (h : RdX w a n cap X) (hg : w.grownBy w' none) : RdX w' a n cap X := h.grown hg (fun _ _ _ => by simp)
theorem RdX.nil0 (w : World) : RdX w none 0 0 [] := ⟨rfl, Nat.le_refl _, Nat.zero_le _, fun _ => rfl, (fun u h => by cases h), fun h => absurd h (by decide)⟩
/-- a row of the call's own, in memory from block lo on -/
structure AnsX (e : TypeId) (w : World) (lo : Nat) (a : Option Addr) (n cap : Nat) (X : List Value) : Prop where
  own : w.ownsRow 0 e 1 (.slice a n cap) n X
  one : ∀ u, u ∈ X → u.oneCell' = true
  new : ∀ g, (Value.slice a n cap).ownBlock = some g → lo ≤ g
theorem AnsX.len {e : TypeId} {w : World} {lo : Nat} {a : Option Addr} {n cap : Nat} {X : List Value} (h : AnsX e w lo a n cap X) : X.length = n := by
  have := h.own.1; omega
theorem AnsX.cases {e : TypeId} {w : World} {lo : Nat} {a : Option Addr} {n cap : Nat} {X : List Value} (h : AnsX e w lo a n cap X) :
    (a = none ∧ n = 0 ∧ cap = 0) ∨ ∃ g, a = some ⟨g, 0, none⟩ ∧ lo ≤ g ∧ g < w.heap.size := by
  rcases h.own.2 with ⟨h1, h2⟩ | ⟨g, cap', cur, h1, _, h3, _⟩
  · simp only [Value.slice.injEq] at h1; exact .inl h1
  · simp only [Value.slice.injEq] at h1
    obtain ⟨rfl, _, _⟩ := h1
    exact .inr ⟨g, rfl, h.new g rfl, (Array.getElem?_eq_some_iff.1 h3).1⟩
theorem AnsX.max {e : TypeId} {w : World} {lo : Nat} {a : Option Addr} {n cap : Nat} {X : List Value} (h : AnsX e w lo a n cap X) : n ≤ cap ∧ cap ≤ maxLen := by
  rcases h.own.2 with ⟨h1, h2⟩ | ⟨g, cap', cur, h1, _, h3, h4, h5, _⟩
  · simp only [Value.slice.injEq] at h1; obtain ⟨_, h6, h7⟩ := h1; subst h6; subst h7; exact ⟨Nat.le_refl _, Nat.zero_le _⟩
  · simp only [Value.slice.injEq] at h1; obtain ⟨_, _, h7⟩ := h1; subst h7; exact ⟨h4, h5⟩
theorem AnsX.rd {e : TypeId} {w : World} {lo : Nat} {a : Option Addr} {n cap : Nat} {X : List Value} (h : AnsX e w lo a n cap X) : RdX w a n cap X := by
  refine ⟨h.len, h.max.1, h.max.2, fun h0 => ?_, h.one, fun h0 => ?_⟩
  · rcases h.cases with ⟨_, _, h3⟩ | ⟨g, h1, _⟩
    · exact h3
    · rw [h0] at h1; cases h1
  · rcases h.cases with ⟨_, h2, _⟩ | ⟨g, rfl, _, hl⟩
    · omega
    · refine ⟨g, 0, rfl, hl, fun i u hu => ?_⟩
      have := h.own.cells (g := g) rfl i u hu
      rw [addr_add] at this
      exact this
theorem AnsX.kept {e : TypeId} {w w' : World} {lo : Nat} {a : Option Addr} {n cap : Nat} {X : List Value} {r : Option Nat} (h : AnsX e w lo a n cap X) (hg : w.grownBy w' r) (hne : (Value.slice a n cap).ownBlock = none ∨ (Value.slice a n cap).ownBlock ≠ r) : AnsX e w' lo a n cap X :=
  ⟨h.own.kept hg hne, h.one, h.new⟩
theorem AnsX.keep {e : TypeId} {w w' : World} {lo : Nat} {a : Option Addr} {n cap : Nat} {X : List Value} (h : AnsX e w lo a n cap X) (hg : w.grownBy w' none) : AnsX e w' lo a n cap X :=
  h.kept hg (by cases (Value.slice a n cap).ownBlock <;> simp)
theorem AnsX.low {e : TypeId} {w : World} {lo lo' : Nat} {a : Option Addr} {n cap : Nat} {X : List Value} (h : AnsX e w lo a n cap X) (hl : lo' ≤ lo) : AnsX e w lo' a n cap X :=
  ⟨h.own, h.one, fun g hg => Nat.le_trans hl (h.new g hg)⟩
theorem AnsX.lt {e : TypeId} {w : World} {lo : Nat} {a : Option Addr} {n cap : Nat} {X : List Value} (h : AnsX e w lo a n cap X) : ∀ g, (Value.slice a n cap).ownBlock = some g → g < w.heap.size := by
  intro g hg
  rcases h.cases with ⟨rfl, _, _⟩ | ⟨g', rfl, _, hl⟩
  · simp [Value.ownBlock] at hg
  · have : g' = g := by simpa [Value.ownBlock] using hg
    omega
theorem AnsX.nil0 (e : TypeId) (w : World) (lo : Nat) : AnsX e w lo none 0 0 [] := ⟨World.ownsRow_nil _ _ _ _, (fun u h => by cases h), fun g h => by simp [Value.ownBlock] at h⟩
theorem AnsX.up {e : TypeId} {w : World} {lo : Nat} {a : Option Addr} {n cap : Nat} {X : List Value} (h : AnsX e w lo a n cap X) : w.ownsRow lo e 1 (.slice a n cap) n X := by
  refine ⟨h.own.1, ?_⟩
  rcases h.own.2 with h1 | ⟨g, c1, cur, h1, h2, h3⟩
  · exact .inl h1
  · refine .inr ⟨g, c1, cur, h1, ?_, h3⟩
    simp only [Value.slice.injEq] at h1
    obtain ⟨rfl, _, _⟩ := h1
    exact h.new g rfl
theorem AnsX.cell {e : TypeId} {w : World} {lo g n cap : Nat} {X : List Value} (h : AnsX e w lo (some ⟨g, 0, none⟩) n cap X) (i : Nat) (u : Value) (hu : X[i]? = some u) : w.cell? ⟨g, i, none⟩ = some u := by
  have := h.own.cells (g := g) rfl i u hu
  rw [addr_add, Nat.zero_add] at this
  exact this
theorem AnsX.free {e : TypeId} {w : World} {lo g n cap : Nat} {X : List Value} (h : AnsX e w lo (some ⟨g, 0, none⟩) n cap X) (i : Nat) : w.frozen? ⟨g, i, none⟩ = false := h.own.frozenAt i
theorem AnsX.set {e : TypeId} {w : World} {lo g n cap : Nat} {X : List Value} (h : AnsX e w lo (some ⟨g, 0, none⟩) n cap X) (i : Nat) (u : Value) (h1 : u.oneCell' = true) : AnsX e (w.setCell ⟨g, i, none⟩ u) lo (some ⟨g, 0, none⟩) n cap (X.set i u) := by
  refine ⟨(h.own.stored i u).1, fun v hv => ?_, h.new⟩
  rcases List.mem_or_eq_of_mem_set hv with h2 | h2
  · exact h.one v h2
  · rw [h2]; exact h1
end

section
section
variable {P : Program} {ops : Array Oper} {Q : Exit → Act → World → Prop} {md : Region.Mode} {S : World → Prop}
/-- those of C have not come up, and none of them can ahead of i -/
def waitZ (md : Region.Mode) (ops : Array Oper) (listed : Array Bool) (i : Nat) (C : List Nat) : Bool :=
  C.all fun c => !(listed.getD c true) && match ops[c]? with | some oc => oc.after.any (fun e => Region.binds md e && (e.on == i || C.contains e.on)) | none => false
theorem waitZ_no {listed : Array Bool} {i : Nat} {C : List Nat} (h : waitZ md ops listed i C = true) (hi : i ∈ Region.ready md ops listed) {j : Nat} (hj : j ∈ Region.ready md ops listed) : j ∉ C := by
  intro hc
  have h1 := List.all_eq_true.1 h j hc
  obtain ⟨hjun, oj, hoj, hall⟩ := mem_ready.1 hj
  simp only [hoj, Bool.and_eq_true, Bool.not_eq_true'] at h1
  obtain ⟨e, he, hb⟩ := Array.any_eq_true'.1 h1.2
  simp only [Bool.and_eq_true, Bool.or_eq_true, beq_iff_eq, List.contains_iff_mem] at hb
  have hd := hall e he hb.1
  have hun : listed.getD e.on true = false := by
    rcases hb.2 with h2 | h2
    · rw [h2]; exact (mem_ready.1 hi).1
    · have := List.all_eq_true.1 h e.on h2
      simp only [Bool.and_eq_true, Bool.not_eq_true'] at this
      exact this.1
  rcases Nat.lt_or_ge e.on listed.size with h' | h'
  · simp [h'] at hun hd; rw [hun] at hd; cases hd
  · simp [Array.getElem?_eq_none h'] at hun
theorem waitZ_step {listed : Array Bool} {i : Nat} {C : List Nat} (h : waitZ md ops listed i C = true) {j : Nat} (hj : j ∉ C) : waitZ md ops (listed.setIfInBounds j true) i C = true := by
  unfold waitZ at *
  rw [List.all_eq_true] at *
  intro c hc
  have h1 := h c hc
  have : j ≠ c := fun e => hj (e ▸ hc)
  rw [getD_set_ne true this]
  exact h1
end

section
variable {P : Program} {ops : Array Oper} {Q : Exit → Act → World → Prop} {md : Region.Mode} {S : World → Prop}
end
end
end Go.Proofs.Ythdjpbfknbafgaa
