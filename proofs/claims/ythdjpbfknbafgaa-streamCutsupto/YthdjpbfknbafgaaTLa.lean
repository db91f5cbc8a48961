import Derived.Test.YthdjpbfknbafgaaTTk2
import Derived.Test.YthdjpbfknbafgaaTLs1
import Derived.Test.YthdjpbfknbafgaaZSub
namespace Go.Proofs.Ythdjpbfknbafgaa
open Go.RowKit Go.Shelf
set_option maxRecDepth 100000
set_option linter.unusedVariables false
set_option linter.unusedSimpArgs false
attribute [local go_sem] Oper.semAt_some

/-- the first of two pieces of code -/
def headT : Code → Code
  | .seq a _ => a
  | c => c
def cellsY (y : Fy) : List Value := [.int .i64 y.1.p, .bool y.1.tu, .int .i64 y.1.mi, .slice y.1.a y.1.n y.2]
def flY (ys : List Fy) : List Value := ys.flatMap cellsY
theorem flY_len (ys : List Fy) : (flY ys).length = ys.length * 4 := by
  induction ys with
  | nil => rfl
  | cons f fs ih => show (cellsY f ++ flY fs).length = _; rw [List.length_append, ih, List.length_cons]; show 4 + _ = _; omega
theorem flY_add (ys : List Fy) (y : Fy) : flY ys ++ cellsY y = flY (ys ++ [y]) := by simp [flY]
/-- what a range has collected so far, in the box bA -/
structure CoI (w : World) (bA : Nat) (ys : List Fy) (W : World) : Prop where
  box : ∃ v, Boxed W bA 33 v ∧ W.ownsRow w.heap.size 42 4 v ys.length (flY ys)
  dat : ∀ y, y ∈ ys → Ans W w.heap.size y.1.a y.1.n y.2 y.1.D
  frm : Frm (fun k => k = bA) w W
theorem ans_from {W W' : World} {row : Option Nat} {lo n c k : Nat} {a : Option Addr} {L : List Nat} (h : Ans W lo a n c L) (hg : W.grownBy W' row) (hr : ∀ r, row = some r → k ≤ r ∧ ∃ o : Obj, W.heap[r]? = some o ∧ o.isCells = false) : Ans W' lo a n c L :=
  ⟨row_from h.own hg hr, h.byte, h.new⟩
theorem frm_from {p : Nat → Prop} {w W W' : World} {row : Option Nat} {k : Nat} (h : Frm p w W) (hg : W.grownBy W' row) (hk : w.heap.size ≤ k) (hr : ∀ r, row = some r → k ≤ r ∧ ∃ o : Obj, W.heap[r]? = some o ∧ o.isCells = false) : Frm p w W' :=
  h.trans (Frm.of (p := fun i => w.heap.size ≤ i) hg (fun i e _ => by have := (hr i e).1; omega)) (fun i hi h => absurd h (by omega))
theorem CoI.own (w : World) (bA k : Nat) (hk : w.heap.size ≤ k) : OwnFrom k (CoI w bA) := by
  rintro s X Y row ⟨⟨v, hv, hrow⟩, hd, hf⟩ hg hr
  exact ⟨⟨v, boxed_from hv hg hr, row_from hrow hg hr⟩, fun y hy => ans_from (hd y hy) hg hr, frm_from hf hg hk hr⟩
/-- what an element is that was handed over: it lies in a box of its own -/
def AxY (w : World) (F : Nat → Act) (y : Fy) (a : Act) (W : World) : Prop := ∃ q, a = F q ∧ w.heap.size ≤ q ∧ W.heap[q]? = some (.cells (cellsY y).toArray 42) ∧ Ans W w.heap.size y.1.a y.1.n y.2 y.1.D
theorem AxY.own (w : World) (F : Nat → Act) (y : Fy) (a : Act) (k : Nat) : OwnFrom k (fun (_ : Unit) W => AxY w F y a W) := by
  rintro s X Y row ⟨q, e, hq, hb, hA⟩ hg hr
  refine ⟨q, e, hq, ?_, ans_from hA hg hr⟩
  have hlt : q < X.heap.size := (Array.getElem?_eq_some_iff.1 hb).1
  refine (hg.block q hlt (fun e' => ?_)).trans hb
  obtain ⟨_, o, ho, hc⟩ := hr q e'.symm
  rw [hb] at ho; cases ho; cases hc

set_option maxHeartbeats 4000000 in
theorem li_11 {fb bA : Nat} {v dv : Value} {fs : List Fv} {ds : List Deferred} {u0 u1 u2 u3 u4 u5 u6 u7 u8 u9 u10 u11 u14 u15 u16 u17 u18 u19 u20 u21 u22 u23 u24 u25 u26 u27 u28 u29 u30 u31 u32 u33 u34 u35 u36 u37 u38 u39 u40 u41 u42 u43 u44 u45 u46 u47 u48 u49 u50 u51 u52 u53 u54 u55 u56 u57 u58 u59 u60 u61 u62 u63 u64 u65 u66 u67 : Value} {Q : Exit → Act → World → Prop} (w : World) (h : FdB w fb v dv fs) (hn : ∀ f, f ∈ fs → 0 < f.n ∧ f.n ≤ 2048) (hlen : fs.length ≤ 4194304)
    (hA : Boxed w bA 33 (.slice none 0 0)) (hne : ¬ FdP fb v fs bA)
    (hQ : ∀ D ys W, w.heap.size ≤ D → ys.map (fun y => absF y.1) = fs.map absF → CoI w bA ys W → W.heap[D]? = some (.deferred (some [])) → Q .normal (Act.mk (List.toArray (u0 :: u1 :: u2 :: u3 :: u4 :: u5 :: u6 :: u7 :: u8 :: u9 :: u10 :: u11 :: (.func (.func 28) #[] #[.pointer (some ⟨fb, 0, none⟩)]) :: (.pointer (some ⟨bA, 0, none⟩)) :: u14 :: u15 :: u16 :: u17 :: u18 :: u19 :: u20 :: u21 :: u22 :: u23 :: u24 :: u25 :: u26 :: u27 :: u28 :: u29 :: u30 :: u31 :: u32 :: u33 :: u34 :: u35 :: u36 :: (.func (.func 28) #[] #[.pointer (some ⟨fb, 0, none⟩)]) :: u38 :: u39 :: u40 :: u41 :: u42 :: u43 :: u44 :: u45 :: u46 :: u47 :: u48 :: u49 :: u50 :: u51 :: u52 :: u53 :: u54 :: u55 :: u56 :: u57 :: u58 :: u59 :: u60 :: u61 :: u62 :: u63 :: u64 :: u65 :: u66 :: u67 :: [])) (mark D :: ds)) W) :
    Code.wp Try.prog (headT (tailR 11 (Try.f8.body.getD .skip))) Q (Act.mk (List.toArray (u0 :: u1 :: u2 :: u3 :: u4 :: u5 :: u6 :: u7 :: u8 :: u9 :: u10 :: u11 :: (.func (.func 28) #[] #[.pointer (some ⟨fb, 0, none⟩)]) :: (.pointer (some ⟨bA, 0, none⟩)) :: u14 :: u15 :: u16 :: u17 :: u18 :: u19 :: u20 :: u21 :: u22 :: u23 :: u24 :: u25 :: u26 :: u27 :: u28 :: u29 :: u30 :: u31 :: u32 :: u33 :: u34 :: u35 :: u36 :: u37 :: u38 :: u39 :: u40 :: u41 :: u42 :: u43 :: u44 :: u45 :: u46 :: u47 :: u48 :: u49 :: u50 :: u51 :: u52 :: u53 :: u54 :: u55 :: u56 :: u57 :: u58 :: u59 :: u60 :: u61 :: u62 :: u63 :: u64 :: u65 :: u66 :: u67 :: [])) ds) w := by
  conv => enter [2]; whnf
  go_wp2

  obtain ⟨i0, hi, hz0, hz1, hz2⟩ := info_parts Try.info_fd
  have hst := take2_stops 7 w.heap.size fb v dv fs w (by decide) h hn hlen (Nat.le_refl _)
  have hput := KeepS.put (p := FdP fb v fs) (w := w) (fun k hk => h.lt k hk)
  have hent := enters_of Try.func28 (by kernel_rfl) rfl
  have hI0 : CoI w bA [] w := ⟨⟨_, hA, World.ownsRow_nil _ _ _ _⟩, (fun y hy => by cases hy), Frm.refl _ _⟩
  have hlt := h.lt
  have hAlt := hA.lt
  obtain ⟨FF, hFF⟩ : ∃ FF : Fy → Nat → Act, FF = fun y q => (Act.mk (List.toArray (u0 :: u1 :: u2 :: u3 :: u4 :: u5 :: u6 :: u7 :: u8 :: u9 :: u10 :: u11 :: (.func (.func 28) #[] #[.pointer (some ⟨fb, 0, none⟩)]) :: (.pointer (some ⟨bA, 0, none⟩)) :: u14 :: (.pointer (some ⟨q, 0, none⟩)) :: u16 :: u17 :: u18 :: u19 :: u20 :: u21 :: u22 :: u23 :: u24 :: u25 :: u26 :: u27 :: u28 :: u29 :: u30 :: u31 :: u32 :: u33 :: u34 :: u35 :: u36 :: (.func (.func 28) #[] #[.pointer (some ⟨fb, 0, none⟩)]) :: (aggY y) :: u39 :: u40 :: u41 :: u42 :: u43 :: u44 :: u45 :: u46 :: u47 :: u48 :: u49 :: u50 :: u51 :: u52 :: u53 :: u54 :: u55 :: u56 :: u57 :: u58 :: u59 :: u60 :: u61 :: u62 :: u63 :: u64 :: u65 :: u66 :: u67 :: [])) []) := ⟨_, rfl⟩
  refine wpIn_wide.1 (range_E (n := 8) (F := Fence.wide) rfl (by decide) (gf := 28) (lb := #[.pointer (some ⟨fb, 0, none⟩)]) rfl trivial hent hst KeepS.trans hput (Below.refl _ _) (fun _ => rfl)
    (CoI w bA) (fun _ _ _ => False) (CoI.own w bA _ (Nat.le_refl _)) (fun _ => by rintro s X Y row h _ _; exact h) hI0 (fun y a W => AxY w (FF y) y a W) (fun y a' => AxY.own w (FF y) y a' _) ?assign ?body ?done ?stop)
  case assign =>
    rintro l pre ⟨⟨p, tu, mi, ya, yn, yD⟩, yc⟩ W K hI hE hK
    simp only [List.zip_toArray, List.zip_cons_cons, List.zip_nil_left, List.zip_nil_right, List.size_toArray, List.length_cons, List.length_nil, List.foldl_toArray', List.foldl_toArray, List.foldl_cons, List.foldl_nil, List.setIfInBounds_toArray, List.set_cons_succ, List.set_cons_zero]
    unfold aggY
    have HK : Hid _ := hK
    clear hK
    have hsz : w.heap.size ≤ W.heap.size := hI.frm.size
    gi_wp2
    refine HK.out _ _ ((KeepsOthers.alloc W _).from _) ⟨fun k hk => (World.grownBy_alloc W _ none).block k (by have := hlt k hk; omega) (by simp), by simp⟩ (CoI.own w bA _ (Nat.le_refl _) _ _ _ none hI (World.grownBy_alloc W _ none) (fun r e => by cases e)) ?_
    rw [hFF]
    exact ⟨W.heap.size, rfl, hsz, heap_alloc_new _ _, hE.keep (World.grownBy_alloc W _ none)⟩
  case body =>
    rintro l pre ⟨⟨p, tu, mi, ya, yn, yD⟩, yc⟩ a' W ⟨⟨v0, hv, hrow⟩, hd, hf⟩ ⟨q, ha, hq, hb, hAns⟩ hl
    rw [hFF] at ha
    subst ha
    clear hFF
    unfold aggY
    have hsz : w.heap.size ≤ W.heap.size := hf.size
    have hc := hv.cell
    have c0 : W.cell? ⟨q, 0, none⟩ = some (.int .i64 (p : Nat)) := cell_of_row W q 0 _ _ _ hb
    have c1 : W.cell? ⟨q, 1, none⟩ = some (.bool tu) := cell_of_row W q 1 _ _ _ hb
    have c2 : W.cell? ⟨q, 2, none⟩ = some (.int .i64 (mi : Nat)) := cell_of_row W q 2 _ _ _ hb
    have c3 : W.cell? ⟨q, 3, none⟩ = some (.slice ya yn yc) := cell_of_row W q 3 _ _ _ hb
    obtain ⟨av, nv, cv, rfl⟩ : ∃ av nv cv, v0 = .slice av nv cv := by
      rcases hrow.2 with ⟨rfl, _⟩ | ⟨g, cap, cur, rfl, _⟩
      · exact ⟨_, _, _, rfl⟩
      · exact ⟨_, _, _, rfl⟩
    have hfl := flY_len pre
    have HH : Hid (FdP fb v fs bA → False) := hne
    have HL : Hid (∀ k, FdP fb v fs k → k < w.heap.size) := hlt
    have HX : Hid _ := hent
    have HS : Hid _ := hst
    have HP : Hid _ := hput
    clear hne hlt hent hst hput hb
    refine wpIn_block ?_
    gi_wp2_with (gi_at_builtin; refine wpListIn_append_own _ rfl _ _ 33 rfl w.heap.size 42 i0 _ 4 48 Try.underlying33 hi hz0 hz1 hz2 rfl (by decide) (.slice av nv cv) pre.length (flY pre) rfl (hrow.alloc _) ⟨W.heap.size, 0, none⟩ 1 1 (cellsY (⟨p, tu, mi, ya, yn, yD⟩, yc)) rfl rfl (by exact cells_four _ _ _ _ _) (by simp [cellsY, Value.oneCell']) (by unfold maxLen; omega) (by omega) (by simp; omega) ?_; intro v' w1 hown' hgrow _; obtain ⟨g', cap', rfl⟩ := ownsRow_succ hown'; have nb := (hv.alloc (.cells #[.int .i64 (p : Nat), .bool tu, .int .i64 (mi : Nat), .slice ya yn yc] 42)).not_row (e := 42) (by decide) (hrow.alloc (.cells #[.int .i64 (p : Nat), .bool tu, .int .i64 (mi : Nat), .slice ya yn yc] 42)); have b2 := (hv.alloc (.cells #[.int .i64 (p : Nat), .bool tu, .int .i64 (mi : Nat), .slice ya yn yc] 42)).kept hgrow nb; have hc2 := b2.cell; have hf2 := b2.frozen)
    have b3 := b2.set (.slice (some ⟨g', 0, none⟩) (pre.length + 1) cap')
    have r3 := hown'.kept (grown_set w1 bA 0 (.slice (some ⟨g', 0, none⟩) (pre.length + 1) cap')) (.inr (b2.not_row (e := 42) (by decide) hown').symm)
    rw [flY_add] at r3
    have hbs : ∀ i, (Value.slice av nv cv).ownBlock = some i → w.heap.size ≤ i := fun i hi => by
      rcases hrow.2 with ⟨e, _⟩ | ⟨g, cap, cur, e, h1, _⟩
      · rw [e] at hi; cases hi
      · rw [e] at hi; have e2 : g = i := Option.some.inj hi; omega
    have gA := World.grownBy_alloc W (.cells #[.int .i64 (p : Nat), .bool tu, .int .i64 (mi : Nat), .slice ya yn yc] 42) none
    have F2 : Frm (fun k => k = bA ∨ (Value.slice av nv cv).ownBlock = some k) W (w1.setCell ⟨bA, 0, none⟩ (.slice (some ⟨g', 0, none⟩) (pre.length + 1) cap')) :=
      ((Frm.of (p := fun k => k = bA ∨ (Value.slice av nv cv).ownBlock = some k) gA (fun k e _ => by cases e)).trans (Frm.of (p := fun k => (Value.slice av nv cv).ownBlock = some k) hgrow (fun k e _ => e)) (fun i _ h => .inr h)).trans (Frm.of (p := fun k => k = bA) (grown_set w1 bA 0 _) (fun k e _ => by cases e; rfl)) (fun i _ h => .inl h)
    have hAn : ∀ {a n c L}, Ans W w.heap.size a n c L → Ans (w1.setCell ⟨bA, 0, none⟩ (.slice (some ⟨g', 0, none⟩) (pre.length + 1) cap')) w.heap.size a n c L := fun {a n c L} hA => hA.frm F2 (fun x hx hp => by
      obtain ⟨_, cur, hcur⟩ := row_lt hA.own hx
      rcases hp with rfl | hp
      · exact cells_ne hcur hv (by decide)
      · obtain ⟨_, cur2, hcur2⟩ := row_lt hrow hp
        exact cells_ne hcur hcur2 (by decide))
    refine ⟨(((KeepsOthers.alloc W _).trans (KeepsOthers.of_grownBy hgrow (fun j o ej hj => ?_))).trans (KeepsOthers.setCell _ _ _)).from _, ⟨fun k hk => F2.block k (by have := HL.out k hk; omega) (fun hp => ?_), F2.size⟩, ⟨⟨_, b3, by rw [List.length_append]; exact r3⟩, ?_, ?_⟩⟩
    · obtain ⟨_, cur, hcur⟩ := row_lt (hrow.alloc (.cells #[.int .i64 (p : Nat), .bool tu, .int .i64 (mi : Nat), .slice ya yn yc] 42)) ej
      rw [hcur] at hj; cases hj; rfl
    · rcases hp with rfl | hp
      · exact HH.out hk
      · have := HL.out k hk; have := hbs k hp; omega
    · intro y hy
      rcases List.mem_append.1 hy with hy | hy
      · exact hAn (hd y hy)
      · rw [List.mem_singleton.1 hy]; exact hAn hAns
    · exact hf.trans F2 (fun i hi hp => by
        rcases hp with rfl | hp
        · rfl
        · have := hbs i hp; omega)
  case done =>
    intro D xs W hD hS hI hk
    exact hQ D xs W hD hS hI hk
  case stop =>
    intro D c pre W _ _ h _
    exact h.elim

set_option maxHeartbeats 4000000 in
theorem li_14 {fb : Nat} {v dv : Value} {fs : List Fv} {ds : List Deferred} {u0 u1 u2 u3 u4 u5 u6 u7 u8 u9 u10 u11 u13 u14 u15 u16 u17 u18 u19 u20 u21 u22 u23 u24 u25 u26 u27 u28 u29 u30 u31 u32 u33 u34 u35 u36 u37 u38 u39 u40 u41 u42 u43 u44 u45 u46 u47 u48 u49 u50 u51 u52 u53 u54 u55 u56 u57 u58 u59 u60 u61 u62 u63 u64 u65 u66 u67 : Value} {Q : Exit → Act → World → Prop} (w : World) (h : FdB w fb v dv fs) (hn : ∀ f, f ∈ fs → 0 < f.n ∧ f.n ≤ 2048) (hlen : fs.length ≤ 4194304)
    (hQ : ∀ D W, w.heap.size ≤ D → Frm (fun _ => False) w W → W.heap[D]? = some (.deferred (some [])) → Q .normal (Act.mk (List.toArray (u0 :: u1 :: u2 :: u3 :: u4 :: u5 :: u6 :: u7 :: u8 :: u9 :: u10 :: u11 :: (.func (.func 28) #[] #[.pointer (some ⟨fb, 0, none⟩)]) :: u13 :: u14 :: u15 :: u16 :: u17 :: u18 :: u19 :: u20 :: u21 :: u22 :: u23 :: u24 :: u25 :: u26 :: u27 :: u28 :: u29 :: u30 :: u31 :: u32 :: u33 :: u34 :: u35 :: u36 :: u37 :: u38 :: u39 :: u40 :: u41 :: u42 :: (.func (.func 28) #[] #[.pointer (some ⟨fb, 0, none⟩)]) :: u44 :: u45 :: u46 :: u47 :: u48 :: u49 :: u50 :: u51 :: u52 :: u53 :: u54 :: u55 :: u56 :: u57 :: u58 :: u59 :: u60 :: u61 :: u62 :: u63 :: u64 :: u65 :: u66 :: u67 :: [])) (mark D :: ds)) W) :
    Code.wp Try.prog (headT (tailR 14 (Try.f8.body.getD .skip))) Q (Act.mk (List.toArray (u0 :: u1 :: u2 :: u3 :: u4 :: u5 :: u6 :: u7 :: u8 :: u9 :: u10 :: u11 :: (.func (.func 28) #[] #[.pointer (some ⟨fb, 0, none⟩)]) :: u13 :: u14 :: u15 :: u16 :: u17 :: u18 :: u19 :: u20 :: u21 :: u22 :: u23 :: u24 :: u25 :: u26 :: u27 :: u28 :: u29 :: u30 :: u31 :: u32 :: u33 :: u34 :: u35 :: u36 :: u37 :: u38 :: u39 :: u40 :: u41 :: u42 :: u43 :: u44 :: u45 :: u46 :: u47 :: u48 :: u49 :: u50 :: u51 :: u52 :: u53 :: u54 :: u55 :: u56 :: u57 :: u58 :: u59 :: u60 :: u61 :: u62 :: u63 :: u64 :: u65 :: u66 :: u67 :: [])) ds) w := by
  conv => enter [2]; whnf
  go_wp2

  have hst := take2_stops 7 w.heap.size fb v dv fs w (by decide) h hn hlen (Nat.le_refl _)
  have hput := KeepS.put (p := FdP fb v fs) (w := w) (fun k hk => h.lt k hk)
  have hent := enters_of Try.func28 (by kernel_rfl) rfl
  have hown : ∀ k, w.heap.size ≤ k → OwnFrom k (fun (_ : List Fy) W => Frm (fun _ => False) w W) := fun k hk => by rintro s X Y row h hg hr; exact frm_from h hg hk hr
  refine wpIn_wide.1 (range_E (n := 8) (F := Fence.wide) rfl (by decide) (gf := 28) (lb := #[.pointer (some ⟨fb, 0, none⟩)]) rfl trivial hent hst KeepS.trans hput (Below.refl _ _) (fun _ => rfl)
    (fun _ W => Frm (fun _ => False) w W) (fun c _ W => c = .exit 4 ∧ Frm (fun _ => False) w W) (hown _ (Nat.le_refl _)) (fun c => by rintro s X Y row ⟨h0, h⟩ hg hr; exact ⟨h0, frm_from h hg (Nat.le_refl _) hr⟩) (Frm.refl _ _) (fun _ _ _ => True) (fun _ _ => by rintro s X Y row h _ _; trivial) ?assign ?body ?done ?stop)
  case assign =>
    intro l pre x W K hI hE hK
    gi_wp2
    exact hK _ _ ((KeepsOthers.refl W).from _) ⟨KeepB.refl _ _, Nat.le_refl _⟩ hI trivial
  case body =>
    intro l pre x a' W hI _ _
    refine wpIn_block (wpIn_exit ?_)
    exact ⟨(KeepsOthers.refl W).from _, rfl, hI⟩
  case done =>
    intro D xs W hD hS hI hk
    exact hQ D W hD hI hk
  case stop =>
    rintro D c pre W hD _ ⟨rfl, hI⟩ hk
    refine wpIn_exit ?_
    exact hQ D W hD hI hk

set_option maxHeartbeats 4000000 in
theorem li_15 {fb bA : Nat} {v dv : Value} {fs : List Fv} {ds : List Deferred} {u0 u1 u2 u3 u4 u5 u6 u7 u8 u9 u10 u11 u13 u15 u16 u17 u18 u19 u20 u21 u22 u23 u24 u25 u26 u27 u28 u29 u30 u31 u32 u33 u34 u35 u36 u37 u38 u39 u40 u41 u42 u43 u44 u45 u46 u47 u48 u49 u50 u51 u52 u53 u54 u55 u56 u57 u58 u59 u60 u61 u62 u63 u64 u65 u66 u67 : Value} {Q : Exit → Act → World → Prop} (w : World) (h : FdB w fb v dv fs) (hn : ∀ f, f ∈ fs → 0 < f.n ∧ f.n ≤ 2048) (hlen : fs.length ≤ 4194304)
    (hA : Boxed w bA 33 (.slice none 0 0)) (hne : ¬ FdP fb v fs bA)
    (hQ : ∀ D ys W, w.heap.size ≤ D → ys.map (fun y => absF y.1) = fs.map absF → CoI w bA ys W → W.heap[D]? = some (.deferred (some [])) → Q .normal (Act.mk (List.toArray (u0 :: u1 :: u2 :: u3 :: u4 :: u5 :: u6 :: u7 :: u8 :: u9 :: u10 :: u11 :: (.func (.func 28) #[] #[.pointer (some ⟨fb, 0, none⟩)]) :: u13 :: (.pointer (some ⟨bA, 0, none⟩)) :: u15 :: u16 :: u17 :: u18 :: u19 :: u20 :: u21 :: u22 :: u23 :: u24 :: u25 :: u26 :: u27 :: u28 :: u29 :: u30 :: u31 :: u32 :: u33 :: u34 :: u35 :: u36 :: u37 :: u38 :: u39 :: u40 :: u41 :: u42 :: u43 :: u44 :: (.func (.func 28) #[] #[.pointer (some ⟨fb, 0, none⟩)]) :: u46 :: u47 :: u48 :: u49 :: u50 :: u51 :: u52 :: u53 :: u54 :: u55 :: u56 :: u57 :: u58 :: u59 :: u60 :: u61 :: u62 :: u63 :: u64 :: u65 :: u66 :: u67 :: [])) (mark D :: ds)) W) :
    Code.wp Try.prog (headT (tailR 15 (Try.f8.body.getD .skip))) Q (Act.mk (List.toArray (u0 :: u1 :: u2 :: u3 :: u4 :: u5 :: u6 :: u7 :: u8 :: u9 :: u10 :: u11 :: (.func (.func 28) #[] #[.pointer (some ⟨fb, 0, none⟩)]) :: u13 :: (.pointer (some ⟨bA, 0, none⟩)) :: u15 :: u16 :: u17 :: u18 :: u19 :: u20 :: u21 :: u22 :: u23 :: u24 :: u25 :: u26 :: u27 :: u28 :: u29 :: u30 :: u31 :: u32 :: u33 :: u34 :: u35 :: u36 :: u37 :: u38 :: u39 :: u40 :: u41 :: u42 :: u43 :: u44 :: u45 :: u46 :: u47 :: u48 :: u49 :: u50 :: u51 :: u52 :: u53 :: u54 :: u55 :: u56 :: u57 :: u58 :: u59 :: u60 :: u61 :: u62 :: u63 :: u64 :: u65 :: u66 :: u67 :: [])) ds) w := by
  conv => enter [2]; whnf
  go_wp2

  obtain ⟨i0, hi, hz0, hz1, hz2⟩ := info_parts Try.info_fd
  have hst := take2_stops 7 w.heap.size fb v dv fs w (by decide) h hn hlen (Nat.le_refl _)
  have hput := KeepS.put (p := FdP fb v fs) (w := w) (fun k hk => h.lt k hk)
  have hent := enters_of Try.func28 (by kernel_rfl) rfl
  have hI0 : CoI w bA [] w := ⟨⟨_, hA, World.ownsRow_nil _ _ _ _⟩, (fun y hy => by cases hy), Frm.refl _ _⟩
  have hlt := h.lt
  have hAlt := hA.lt
  obtain ⟨FF, hFF⟩ : ∃ FF : Fy → Nat → Act, FF = fun y q => (Act.mk (List.toArray (u0 :: u1 :: u2 :: u3 :: u4 :: u5 :: u6 :: u7 :: u8 :: u9 :: u10 :: u11 :: (.func (.func 28) #[] #[.pointer (some ⟨fb, 0, none⟩)]) :: u13 :: (.pointer (some ⟨bA, 0, none⟩)) :: u15 :: (.pointer (some ⟨q, 0, none⟩)) :: u17 :: u18 :: u19 :: u20 :: u21 :: u22 :: u23 :: u24 :: u25 :: u26 :: u27 :: u28 :: u29 :: u30 :: u31 :: u32 :: u33 :: u34 :: u35 :: u36 :: u37 :: u38 :: u39 :: u40 :: u41 :: u42 :: u43 :: u44 :: (.func (.func 28) #[] #[.pointer (some ⟨fb, 0, none⟩)]) :: (aggY y) :: u47 :: u48 :: u49 :: u50 :: u51 :: u52 :: u53 :: u54 :: u55 :: u56 :: u57 :: u58 :: u59 :: u60 :: u61 :: u62 :: u63 :: u64 :: u65 :: u66 :: u67 :: [])) []) := ⟨_, rfl⟩
  refine wpIn_wide.1 (range_E (n := 8) (F := Fence.wide) rfl (by decide) (gf := 28) (lb := #[.pointer (some ⟨fb, 0, none⟩)]) rfl trivial hent hst KeepS.trans hput (Below.refl _ _) (fun _ => rfl)
    (CoI w bA) (fun _ _ _ => False) (CoI.own w bA _ (Nat.le_refl _)) (fun _ => by rintro s X Y row h _ _; exact h) hI0 (fun y a W => AxY w (FF y) y a W) (fun y a' => AxY.own w (FF y) y a' _) ?assign ?body ?done ?stop)
  case assign =>
    rintro l pre ⟨⟨p, tu, mi, ya, yn, yD⟩, yc⟩ W K hI hE hK
    simp only [List.zip_toArray, List.zip_cons_cons, List.zip_nil_left, List.zip_nil_right, List.size_toArray, List.length_cons, List.length_nil, List.foldl_toArray', List.foldl_toArray, List.foldl_cons, List.foldl_nil, List.setIfInBounds_toArray, List.set_cons_succ, List.set_cons_zero]
    unfold aggY
    have HK : Hid _ := hK
    clear hK
    have hsz : w.heap.size ≤ W.heap.size := hI.frm.size
    gi_wp2
    refine HK.out _ _ ((KeepsOthers.alloc W _).from _) ⟨fun k hk => (World.grownBy_alloc W _ none).block k (by have := hlt k hk; omega) (by simp), by simp⟩ (CoI.own w bA _ (Nat.le_refl _) _ _ _ none hI (World.grownBy_alloc W _ none) (fun r e => by cases e)) ?_
    rw [hFF]
    exact ⟨W.heap.size, rfl, hsz, heap_alloc_new _ _, hE.keep (World.grownBy_alloc W _ none)⟩
  case body =>
    rintro l pre ⟨⟨p, tu, mi, ya, yn, yD⟩, yc⟩ a' W ⟨⟨v0, hv, hrow⟩, hd, hf⟩ ⟨q, ha, hq, hb, hAns⟩ hl
    rw [hFF] at ha
    subst ha
    clear hFF
    unfold aggY
    have hsz : w.heap.size ≤ W.heap.size := hf.size
    have hc := hv.cell
    have c0 : W.cell? ⟨q, 0, none⟩ = some (.int .i64 (p : Nat)) := cell_of_row W q 0 _ _ _ hb
    have c1 : W.cell? ⟨q, 1, none⟩ = some (.bool tu) := cell_of_row W q 1 _ _ _ hb
    have c2 : W.cell? ⟨q, 2, none⟩ = some (.int .i64 (mi : Nat)) := cell_of_row W q 2 _ _ _ hb
    have c3 : W.cell? ⟨q, 3, none⟩ = some (.slice ya yn yc) := cell_of_row W q 3 _ _ _ hb
    obtain ⟨av, nv, cv, rfl⟩ : ∃ av nv cv, v0 = .slice av nv cv := by
      rcases hrow.2 with ⟨rfl, _⟩ | ⟨g, cap, cur, rfl, _⟩
      · exact ⟨_, _, _, rfl⟩
      · exact ⟨_, _, _, rfl⟩
    have hfl := flY_len pre
    have HH : Hid (FdP fb v fs bA → False) := hne
    have HL : Hid (∀ k, FdP fb v fs k → k < w.heap.size) := hlt
    have HX : Hid _ := hent
    have HS : Hid _ := hst
    have HP : Hid _ := hput
    clear hne hlt hent hst hput hb
    refine wpIn_block ?_
    gi_wp2_with (gi_at_builtin; refine wpListIn_append_own _ rfl _ _ 33 rfl w.heap.size 42 i0 _ 4 48 Try.underlying33 hi hz0 hz1 hz2 rfl (by decide) (.slice av nv cv) pre.length (flY pre) rfl (hrow.alloc _) ⟨W.heap.size, 0, none⟩ 1 1 (cellsY (⟨p, tu, mi, ya, yn, yD⟩, yc)) rfl rfl (by exact cells_four _ _ _ _ _) (by simp [cellsY, Value.oneCell']) (by unfold maxLen; omega) (by omega) (by simp; omega) ?_; intro v' w1 hown' hgrow _; obtain ⟨g', cap', rfl⟩ := ownsRow_succ hown'; have nb := (hv.alloc (.cells #[.int .i64 (p : Nat), .bool tu, .int .i64 (mi : Nat), .slice ya yn yc] 42)).not_row (e := 42) (by decide) (hrow.alloc (.cells #[.int .i64 (p : Nat), .bool tu, .int .i64 (mi : Nat), .slice ya yn yc] 42)); have b2 := (hv.alloc (.cells #[.int .i64 (p : Nat), .bool tu, .int .i64 (mi : Nat), .slice ya yn yc] 42)).kept hgrow nb; have hc2 := b2.cell; have hf2 := b2.frozen)
    have b3 := b2.set (.slice (some ⟨g', 0, none⟩) (pre.length + 1) cap')
    have r3 := hown'.kept (grown_set w1 bA 0 (.slice (some ⟨g', 0, none⟩) (pre.length + 1) cap')) (.inr (b2.not_row (e := 42) (by decide) hown').symm)
    rw [flY_add] at r3
    have hbs : ∀ i, (Value.slice av nv cv).ownBlock = some i → w.heap.size ≤ i := fun i hi => by
      rcases hrow.2 with ⟨e, _⟩ | ⟨g, cap, cur, e, h1, _⟩
      · rw [e] at hi; cases hi
      · rw [e] at hi; have e2 : g = i := Option.some.inj hi; omega
    have gA := World.grownBy_alloc W (.cells #[.int .i64 (p : Nat), .bool tu, .int .i64 (mi : Nat), .slice ya yn yc] 42) none
    have F2 : Frm (fun k => k = bA ∨ (Value.slice av nv cv).ownBlock = some k) W (w1.setCell ⟨bA, 0, none⟩ (.slice (some ⟨g', 0, none⟩) (pre.length + 1) cap')) :=
      ((Frm.of (p := fun k => k = bA ∨ (Value.slice av nv cv).ownBlock = some k) gA (fun k e _ => by cases e)).trans (Frm.of (p := fun k => (Value.slice av nv cv).ownBlock = some k) hgrow (fun k e _ => e)) (fun i _ h => .inr h)).trans (Frm.of (p := fun k => k = bA) (grown_set w1 bA 0 _) (fun k e _ => by cases e; rfl)) (fun i _ h => .inl h)
    have hAn : ∀ {a n c L}, Ans W w.heap.size a n c L → Ans (w1.setCell ⟨bA, 0, none⟩ (.slice (some ⟨g', 0, none⟩) (pre.length + 1) cap')) w.heap.size a n c L := fun {a n c L} hA => hA.frm F2 (fun x hx hp => by
      obtain ⟨_, cur, hcur⟩ := row_lt hA.own hx
      rcases hp with rfl | hp
      · exact cells_ne hcur hv (by decide)
      · obtain ⟨_, cur2, hcur2⟩ := row_lt hrow hp
        exact cells_ne hcur hcur2 (by decide))
    refine ⟨(((KeepsOthers.alloc W _).trans (KeepsOthers.of_grownBy hgrow (fun j o ej hj => ?_))).trans (KeepsOthers.setCell _ _ _)).from _, ⟨fun k hk => F2.block k (by have := HL.out k hk; omega) (fun hp => ?_), F2.size⟩, ⟨⟨_, b3, by rw [List.length_append]; exact r3⟩, ?_, ?_⟩⟩
    · obtain ⟨_, cur, hcur⟩ := row_lt (hrow.alloc (.cells #[.int .i64 (p : Nat), .bool tu, .int .i64 (mi : Nat), .slice ya yn yc] 42)) ej
      rw [hcur] at hj; cases hj; rfl
    · rcases hp with rfl | hp
      · exact HH.out hk
      · have := HL.out k hk; have := hbs k hp; omega
    · intro y hy
      rcases List.mem_append.1 hy with hy | hy
      · exact hAn (hd y hy)
      · rw [List.mem_singleton.1 hy]; exact hAn hAns
    · exact hf.trans F2 (fun i hi hp => by
        rcases hp with rfl | hp
        · rfl
        · have := hbs i hp; omega)
  case done =>
    intro D xs W hD hS hI hk
    exact hQ D xs W hD hS hI hk
  case stop =>
    intro D c pre W _ _ h _
    exact h.elim
end Go.Proofs.Ythdjpbfknbafgaa
