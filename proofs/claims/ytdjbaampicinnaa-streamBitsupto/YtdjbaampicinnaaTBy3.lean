import Derived.Test.YtdjbaampicinnaaTBy2
namespace Go.Proofs.Ytdjbaampicinnaa
open Go.RowKit Go.Shelf
set_option maxRecDepth 100000
set_option linter.unusedVariables false
set_option linter.unusedSimpArgs false
attribute [local go_sem] Oper.semAt_some

theorem results_cells2 {fn : Func} {p q : Tmp} {t u : TypeId} (h : fn.results = #[.cell p t, .cell q u]) (tmps : Array Value) (P : Program) (w : World) (a b : Addr) (v x : Value) (ha : tmps.getD p undef = .pointer (some a)) (hl : (loadVar t a).run P w = .ok v w) (hb : tmps.getD q undef = .pointer (some b)) (hx : (loadVar u b).run P w = .ok x w) :
    (results fn tmps).run P w = .ok (.tuple #[v, x]) w := by
  rw [Array.getD_eq_getD_getElem?] at ha hb
  simp only [results, h]
  simp [Sem.run_bind, Result.andThen, ha, hb, asAddr, hl, hx]
theorem Try.cells_sl (w : World) (B : Nat) (v : Value) (h : w.cell? ⟨B, 0, none⟩ = some v) : (loadVar 22 ⟨B, 0, none⟩).run Try.prog w = .ok v w := by
  simp [go_sem, h]
theorem Try.cells_er (w : World) (B : Nat) (v : Value) (h : w.cell? ⟨B, 0, none⟩ = some v) : (loadVar 24 ⟨B, 0, none⟩).run Try.prog w = .ok v w := by
  simp [go_sem, h]
theorem ans_of_row {W : World} {base k : Nat} {v : Value} {L : List Nat} (h : W.ownsRow base 5 1 v k (bys L)) (hL : IsB L) : ∃ a n c, v = .slice a n c ∧ Ans W base a n c L := by
  have hk : L.length = k := by have := h.1; rw [bys_length] at this; omega
  have h0 := own_base h
  rcases h.2 with ⟨rfl, h2⟩ | ⟨g, cap, cur, rfl, hge, _⟩
  · subst h2; exact ⟨none, 0, 0, rfl, h0, hL, fun g hg => by simp [Value.ownBlock] at hg⟩
  · exact ⟨_, _, _, rfl, h0, hL, fun g' hg => by have e : g = g' := Option.some.inj hg; omega⟩
theorem bys_isB {B : List Nat} {m : Nat} (ys : List (Pc m)) (h : ∀ x, x ∈ ys → BitTo (pcL B x.1) 8) : IsB (ys.map fun x => pcV B x.1) := by
  intro y hy
  obtain ⟨x, hx, rfl⟩ := List.mem_map.1 hy
  exact pcV_lt B x.1 ((pc_bit B x.1).1 (h x hx))
theorem all_bits (B : List Nat) (m : Nat) (ys : List (Pc m)) (hys : ys.map (·.1) = List.range m) (h : ∀ x, x ∈ ys → BitTo (pcL B x.1) 8) : BitTo B (8 * m) := by
  intro i hi
  have hin : i / 8 ∈ List.range m := List.mem_range.2 (by omega)
  rw [← hys] at hin
  obtain ⟨x, hx, e⟩ := List.mem_map.1 hin
  have := (pc_bit B x.1).1 (h x hx) (i % 8) (by omega)
  rw [show 8 * x.1 + i % 8 = i from by rw [e]; omega] at this
  exact this
/-- between two rounds; a round has left -/
def byI (B : List Nat) (w : World) (o m cap : Nat) (a : Option Addr) (pre : List (Pc m)) (W : World) : Prop :=
  (∃ v, Boxed W o 22 v ∧ W.ownsRow w.heap.size 5 1 v pre.length (bys (pre.map fun x => pcV B x.1)) ∧ True) ∧ (Boxed W w.heap.size 22 (.slice none 0 0) ∧ Boxed W (w.heap.size + 1) 24 (.int .i64 0) ∧ Boxed W (o + 1) 22 (.slice a (8 * m) cap) ∧ Boxed W (o + 1 + 1) 3 (.int .i64 8)) ∧ (∀ x, x ∈ pre → BitTo (pcL B x.1) 8) ∧ Below w.heap.size w W
def byX (B : List Nat) (w : World) (m : Nat) (c : Code) (pre : List (Pc m)) (W : World) : Prop :=
  (c = .ret ∧ Boxed W w.heap.size 22 (.slice none 0 0) ∧ Boxed W (w.heap.size + 1) 24 (.int .i64 2) ∧ ∃ x : Pc m, ¬ BitTo (pcL B x.1) 8) ∧ Below w.heap.size w W
theorem boxed_from {W W' : World} {row : Option Nat} {B k : Nat} {t : TypeId} {v : Value} (h : Boxed W B t v) (hg : W.grownBy W' row) (hr : ∀ r, row = some r → k ≤ r ∧ ∃ o : Obj, W.heap[r]? = some o ∧ o.isCells = false) : Boxed W' B t v :=
  h.kept hg (fun e => by
    obtain ⟨_, o, ho, hc⟩ := hr B e.symm
    rw [show W.heap[B]? = _ from h] at ho; cases ho; cases hc)
theorem row_from {W W' : World} {row : Option Nat} {base e size n k : Nat} {v : Value} {xs : List Value} (h : W.ownsRow base e size v n xs) (hg : W.grownBy W' row) (hr : ∀ r, row = some r → k ≤ r ∧ ∃ o : Obj, W.heap[r]? = some o ∧ o.isCells = false) : W'.ownsRow base e size v n xs := by
  refine h.kept hg ?_
  rcases h.2 with ⟨rfl, _⟩ | ⟨g, cap, cur, rfl, _, hgb, _⟩
  · exact .inl rfl
  · refine .inr fun e' => ?_
    obtain ⟨_, o, ho, hc⟩ := hr g e'.symm
    rw [hgb] at ho; cases ho; cases hc
theorem below_from {w W W' : World} {row : Option Nat} {k : Nat} (h : Below w.heap.size w W) (hg : W.grownBy W' row) (hk : w.heap.size ≤ k) (hr : ∀ r, row = some r → k ≤ r ∧ ∃ o : Obj, W.heap[r]? = some o ∧ o.isCells = false) : Below w.heap.size w W' :=
  h.grown hg h.size (fun r e => by have := (hr r e).1; omega)
theorem byI_own (B : List Nat) (w : World) (o m cap : Nat) (a : Option Addr) (k : Nat) (hk : w.heap.size ≤ k) : OwnFrom k (byI B w o m cap a) := by
  rintro s X Y row ⟨⟨v, hv, hrow, ht⟩, ⟨h2, h3, h4, h5⟩, h6, h7⟩ hg hr
  exact ⟨⟨v, boxed_from hv hg hr, row_from hrow hg hr, ht⟩, ⟨boxed_from h2 hg hr, boxed_from h3 hg hr, boxed_from h4 hg hr, boxed_from h5 hg hr⟩, h6, below_from h7 hg hk hr⟩
theorem byX_own (B : List Nat) (w : World) (m k : Nat) (hk : w.heap.size ≤ k) (c : Code) : OwnFrom k (byX B w m c) := by
  rintro s X Y row ⟨⟨h1, h2, h3, h4⟩, h7⟩ hg hr
  exact ⟨⟨h1, boxed_from h2 hg hr, boxed_from h3 hg hr, h4⟩, below_from h7 hg hk hr⟩
set_option maxHeartbeats 4000000 in
theorem bytes_in (a : Option Addr) (m cap : Nat) (B : List Nat) (w : World) (hp : Rd w a (8 * m) cap B) (hn : 8 * m ≤ 140737488351232) :
    CallsIn Fence.wide 5 Try.prog 6 #[.slice a (8 * m : Nat) cap] w fun e w' => ∃ a' n' c', e = .returned (.tuple #[.slice a' n' c', .int .i64 (bytE B)]) ∧ Ans w' w.heap.size a' n' c' (bytR B) ∧ w.grownBy w' none := by
  obtain ⟨i0, hi, hz0, hz1, hz2⟩ := info_parts Try.info_u8
  have hd1 : ((8 * m : Nat) : Int) / 8 = (m : Int) := by omega
  have hm0 : ((8 * m : Nat) : Int) % 8 = 0 := by omega
  have hd2 : (8 * (m : Int)) / 8 = (m : Int) := by omega
  have hm2 : (8 * (m : Int)) % 8 = 0 := by omega
  refine callsIn_of_wp_marks Try.func6 rfl trivial ?_ rfl
  simp only [Try.ntmps6, List.size_toArray, List.length_cons, List.length_nil, Nat.reduceAdd, Nat.reduceSub, Array.replicate_succ, Array.replicate_zero, List.push_toArray, List.append_toArray, List.nil_append, List.cons_append]
  gi_wp2_with (first
    | (gi_at_make; refine wpListIn_make_own _ rfl _ _ 22 rfl w.heap.size 5 i0 (.int .u8 0) 1 Try.underlying22 hi hz0 hz1 .i64 .i64 (m : Int) m rfl rfl rfl (by rw [hz2]; omega) (by unfold maxLen; omega) (by simp; omega) ?_; intro w3 hown3 g3)
    | (refine ⟨trivial, ?_⟩; gi_at_call 13; refine (pieces_in 4 a (8 * m) cap _).mono ?_; rintro e w4 ⟨rfl, hw4⟩; have HW4 : Hid _ := hw4; clear hw4))
  have hw4 := HW4.out
  clear HW4
  have HL : Hid (B.length = 8 * m) := hp.len
  have g03 : w.grownBy w3 none := grown_trans (grown_trans (World.grownBy_alloc w _ none) (World.grownBy_alloc _ _ none)) g3
  have hs3 : w.heap.size + 1 + 1 ≤ w3.heap.size := by have := g3.size; simpa using this
  have r1 : Boxed w3 w.heap.size 22 (.slice none 0 0) := ((Boxed.new w 22 (.slice none 0 0)).alloc _).kept g3 (by simp)
  have r2 : Boxed w3 (w.heap.size + 1) 24 (.int .i64 0) := by
    have h := Boxed.new (w.alloc (.cells #[.slice none 0 0] 22)) 24 (.int .i64 0)
    rw [World.size_alloc] at h
    exact h.kept g3 (by simp)
  have bO := Boxed.new w3 22 (.slice (some ⟨w.heap.size + 1 + 1, 0, none⟩) 0 m)
  have bL := Boxed.new (w3.alloc (.cells #[.slice (some ⟨w.heap.size + 1 + 1, 0, none⟩) 0 m] 22)) 22 (.slice a (8 * m) cap)
  have b8 := Boxed.new ((w3.alloc (.cells #[.slice (some ⟨w.heap.size + 1 + 1, 0, none⟩) 0 m] 22)).alloc (.cells #[.slice a (8 * m) cap] 22)) 3 (.int .i64 8)
  simp only [World.size_alloc] at bL b8
  have g34 : w3.grownBy w4 none := by rw [hw4]; exact grown_trans (grown_trans (World.grownBy_alloc w3 _ none) (World.grownBy_alloc _ _ none)) (World.grownBy_alloc _ _ none)
  have bO4 : Boxed w4 w3.heap.size 22 (.slice (some ⟨w.heap.size + 1 + 1, 0, none⟩) 0 m) := by rw [hw4]; exact (bO.alloc _).alloc _
  have bL4 : Boxed w4 (w3.heap.size + 1) 22 (.slice a (8 * m) cap) := by rw [hw4]; exact bL.alloc _
  have b84 : Boxed w4 (w3.heap.size + 1 + 1) 3 (.int .i64 8) := by rw [hw4]; exact b8
  have hs4 : w4.heap.size = w3.heap.size + 1 + 1 + 1 := by rw [hw4]; simp
  have r14 := r1.kept g34 (by simp)
  have r24 := r2.kept g34 (by simp)
  have hrow4 : w4.ownsRow w.heap.size 5 1 (.slice (some ⟨w.heap.size + 1 + 1, 0, none⟩) 0 m) 0 [] := by
    have h := hown3
    simp only [World.size_alloc] at h
    exact h.kept g34 (by simp [Value.ownBlock])
  have hB4 : Below w.heap.size w w4 := below_of_grown (grown_trans g03 g34)
  have hp4 := hp.keep (grown_trans g03 g34)
  clear hw4 bO bL b8 r1 r2 hown3 g3
  have hI0 : byI B w w3.heap.size m cap a [] w4 := ⟨⟨_, bO4, hrow4, trivial⟩, ⟨r14, r24, bL4, b84⟩, (fun x hx => by cases hx), hB4⟩
  have hIo := byI_own B w w3.heap.size m cap a w4.heap.size (by omega)
  have hXo := byX_own B w m w4.heap.size (by omega)
  have hst := pieces_stops 4 (w3.heap.size + 1) (w3.heap.size + 1 + 1) m cap (fun k => k < w.heap.size ∨ k = w3.heap.size + 1 ∨ k = w3.heap.size + 1 + 1) a B w4 (by decide) hp4 hn (.inr (.inl rfl)) (.inr (.inr rfl)) (fun k hk => by omega) bL4.cell b84.cell
  have hput := KeepB.put (p := fun k => k < w.heap.size ∨ k = w3.heap.size + 1 ∨ k = w3.heap.size + 1 + 1) (w := w4) (fun k hk => by omega)
  have hent := enters_of Try.func19 (by kernel_rfl) rfl
  clear r14 r24 bO4 bL4 b84 hrow4 hp4
  refine wpIn_rangeFunc_ownG (n := 5) (F := Fence.wide) rfl (by decide) (gf := 19) (lb := #[.pointer (some ⟨w3.heap.size + 1, 0, none⟩), .pointer (some ⟨w3.heap.size + 1 + 1, 0, none⟩)]) rfl trivial hent hst KeepB.trans hput (Below.refl _ _) (fun _ => rfl)
    (byI B w w3.heap.size m cap a) (byX B w m) hIo hXo hI0
    (fun x => { tmps := #[.slice a (8 * m : Nat) cap, undef, .pointer (some ⟨w.heap.size, 0, none⟩), .pointer (some ⟨w.heap.size + 1, 0, none⟩), .pointer (some ⟨w3.heap.size, 0, none⟩), .slice (pcA a x.1) 8 (cap - 8 * x.1), undef, undef, .slice a (8 * m : Nat) cap, .int .i64 (8 * (m : Int)), .int .i64 0, .bool false, .slice a (8 * m : Nat) cap, .int .i64 (8 * (m : Int)), .int .i64 m, .slice (some ⟨w.heap.size + 1 + 1, 0, none⟩) 0 m, .slice a (8 * m : Nat) cap, .func (.func 19) #[] #[.pointer (some ⟨w3.heap.size + 1, 0, none⟩), .pointer (some ⟨w3.heap.size + 1 + 1, 0, none⟩)], .slice (pcA a x.1) 8 (cap - 8 * x.1), undef, undef, undef, undef, undef, undef, undef, undef, undef, undef, undef, undef], defers := [] }) ?assign ?body ?done ?stop
  case assign =>
    intro l x W K hK
    gi_wp2
    exact hK
  case body =>
    rintro l pre x W ⟨⟨v, hv, hrow, _⟩, ⟨r1, r2, b1, b2⟩, hgood, hB⟩ hlt
    have hc := hv.cell
    have hP := pc_rd (hp.keep (grown_of_below hB)) x.1 x.2
    have HP : Hid _ := hP
    clear hP
    by_cases hg : BitTo (pcL B x.1) 8
    · have hvl := pcV_lt B x.1 ((pc_bit B x.1).1 hg)
      have HJ : Hid (jN (pcL B x.1) 0 8 = pcV B x.1) := pc_jN B x.1 8 (Nat.le_refl _)
      have hJ := joined_good _ _ _ W HP.out hg
      rw [HJ.out] at hJ
      obtain ⟨z, hz⟩ : ∃ z, z = pcV B x.1 := ⟨_, rfl⟩
      have HZ : Hid (pcV B x.1 = z) := hz.symm
      rw [← hz] at hJ hvl
      clear hz HJ
      have HG : Hid (BitTo (pcL B x.1) 8) := hg
      clear hg
      gi_wp2_with (first
        | (refine ⟨trivial, ?_⟩; gi_at_call 14; refine (CallsIn.inRound l (callsIn_wide.2 hJ)).mono ?_; rintro e w' ⟨rfl, hw⟩; have hw := hw.symm; subst hw)
        | (gi_at_builtin; refine wpListIn_append_own _ rfl _ _ 22 rfl w.heap.size 5 i0 (.int .u8 0) 1 1 Try.underlying22 hi hz0 hz1 hz2 rfl (by decide) _ _ _ rfl (hrow.alloc _) ⟨W.heap.size, 0, none⟩ 1 1 [.int .u8 (z : Int)] rfl rfl (cell_one_new _ _ _) (by simp [Value.oneCell']) (by unfold maxLen; omega) (by omega) (by have := hB.size; simp; omega) ?_; intro v' w1 hown' hgrow _; obtain ⟨g', cap', rfl⟩ := ownsRow_succ hown'; obtain ⟨hv1, hv2, hr2, hk2, hb2⟩ := hv.appended (by decide) hrow hB.size (by omega) hown' hgrow; have hc1 := hv1.cell; have hf1 := hv1.frozen))
      have n1 := r1.not_row (e := 5) (by decide) hrow
      have n2 := r2.not_row (e := 5) (by decide) hrow
      have n3 := b1.not_row (e := 5) (by decide) hrow
      have n4 := b2.not_row (e := 5) (by decide) hrow
      have r1' := ((r1.alloc _).kept hgrow n1).other (by omega : w.heap.size ≠ w3.heap.size) (Value.slice (some ⟨g', 0, none⟩) (pre.length + 1) cap')
      have r2' := ((r2.alloc _).kept hgrow n2).other (by omega : w.heap.size + 1 ≠ w3.heap.size) (Value.slice (some ⟨g', 0, none⟩) (pre.length + 1) cap')
      have b1' := ((b1.alloc _).kept hgrow n3).other (by omega : w3.heap.size + 1 ≠ w3.heap.size) (Value.slice (some ⟨g', 0, none⟩) (pre.length + 1) cap')
      have b2' := ((b2.alloc _).kept hgrow n4).other (by omega : w3.heap.size + 1 + 1 ≠ w3.heap.size) (Value.slice (some ⟨g', 0, none⟩) (pre.length + 1) cap')
      refine ⟨hk2.from _, ?_, ⟨⟨_, hv2, ?_, trivial⟩, ⟨r1', r2', b1', b2'⟩, ?_, hB.trans hb2⟩⟩
      · intro k hk
        rcases hk with hk | hk | hk
        · exact hb2.block k hk
        · subst hk; exact Eq.trans b1' (Eq.symm b1)
        · subst hk; exact Eq.trans b2' (Eq.symm b2)
      · rw [List.length_append, List.map_append]
        have e : bys (List.map (fun x => pcV B x.1) pre ++ List.map (fun x => pcV B x.1) [x]) = bys (List.map (fun x => pcV B x.1) pre) ++ [.int .u8 (pcV B x.1 : Nat)] := by simp [bys]
        rw [e, HZ.out]; exact hr2
      · intro y hy
        rcases List.mem_append.1 hy with h | h
        · exact hgood y h
        · simp only [List.mem_singleton] at h; subst h; exact HG.out
    · have hJ := joined_bad _ _ _ W HP.out hg
      have HG : Hid (¬ BitTo (pcL B x.1) 8) := hg
      clear hg
      have hr1 := r1.cell
      have hr1f := r1.frozen
      have hr2 := (r2.other (by omega : w.heap.size + 1 ≠ w.heap.size) (.slice none 0 0)).cell
      have hr2f := (r2.other (by omega : w.heap.size + 1 ≠ w.heap.size) (.slice none 0 0)).frozen
      gi_wp2_with (first
        | (refine ⟨trivial, ?_⟩; gi_at_call 14; refine (CallsIn.inRound l (callsIn_wide.2 hJ)).mono ?_; rintro e w' ⟨rfl, hw⟩; have hw := hw.symm; subst hw))
      have hne : w.heap.size ≠ w.heap.size + 1 := by omega
      exact ⟨((KeepsOthers.setCell _ _ _).trans (KeepsOthers.setCell _ _ _)).from _, ⟨rfl, (r1.set _).other hne _, (r2.other hne.symm _).set _, x, HG.out⟩, (hB.setCell (p := ⟨w.heap.size, 0, none⟩) (Nat.le_refl _) _).setCell (p := ⟨w.heap.size + 1, 0, none⟩) (by simp) _⟩
  case done =>
    rintro D ys W hD hys ⟨⟨v, hv, hrow, _⟩, ⟨r1, r2, b1, b2⟩, hgood, hB⟩ hK
    obtain ⟨av, nv, cv, rfl, hA⟩ := ans_of_row hrow (bys_isB ys hgood)
    have hc := hv.cell
    have hr1 := r1.cell
    have hr1f := r1.frozen
    have hne : w.heap.size ≠ w.heap.size + 1 := by omega
    have r2' := r2.other hne.symm (.slice av nv cv)
    have hr2 := r2'.cell
    have hr2f := r2'.frozen
    have q1 := (r1.set (.slice av nv cv)).other hne (.int .i64 0)
    have q2 := r2'.set (.int .i64 0)
    have hB2 := (hB.setCell (p := ⟨w.heap.size, 0, none⟩) (Nat.le_refl _) (.slice av nv cv)).setCell (p := ⟨w.heap.size + 1, 0, none⟩) (by simp) (.int .i64 0)
    have hA2 := (hA.kept (grown_set W w.heap.size 0 (.slice av nv cv)) (.inr (r1.not_row (e := 5) (by decide) hrow).symm)).kept (grown_set _ (w.heap.size + 1) 0 (.int .i64 0)) (.inr (r2.not_row (e := 5) (by decide) hrow).symm)
    have hK' := ((KeepsOthers.setCell W ⟨w.heap.size, 0, none⟩ (.slice av nv cv)).trans (KeepsOthers.setCell _ ⟨w.heap.size + 1, 0, none⟩ (.int .i64 0))).same D _ hK rfl
    have HE : Hid (bytE B = 0) := by
      show _ = _
      unfold bytE
      rw [HL.out, if_neg (by omega), if_pos (all_bits B m ys hys hgood)]
    have HR : Hid (bytR B = ys.map fun x => pcV B x.1) := by
      show _ = _
      unfold bytR bytL
      rw [HE.out, if_pos rfl, HL.out, show 8 * m / 8 = m from by omega]
      unfold tab
      rw [← hys, List.map_map]; rfl
    gi_wp2
    refine ⟨by simp, .inl ⟨_, _, rfl, run_takeDeferred hK', ?_⟩⟩
    have s1 := q1.kept (grownBy_putObj' _ D (.deferred none)) (fun e => by cases e; rw [show _ = _ from q1] at hK'; cases hK')
    have s2 := q2.kept (grownBy_putObj' _ D (.deferred none)) (fun e => by cases e; rw [show _ = _ from q2] at hK'; cases hK')
    refine ⟨_, results_cells2 (p := 2) (q := 3) (by kernel_rfl) _ _ _ _ _ _ _ rfl (Try.cells_sl _ _ _ s1.cell) rfl (Try.cells_er _ _ _ s2.cell), av, nv, cv, by rw [HE.out], ?_, ?_⟩
    · rw [HR.out]; exact ⟨ownsRow_putObj hA2.own _ hK' rfl, hA2.byte, hA2.new⟩
    · exact grown_of_below (hB2.trans (belowK_b (w := w) (Nat.le_refl _) _ D _ _ (by omega) hK' rfl rfl))
  case stop =>
    rintro D c pre W hD hpre ⟨⟨rfl, r1, r2, ⟨x, hbad⟩⟩, hB⟩ hK
    have HE : Hid (bytE B = 2) := by
      show _ = _
      unfold bytE
      rw [HL.out, if_neg (by omega), if_neg (fun h => hbad ((pc_bit B x.1).2 (fun j hj => h _ (by have := x.2; omega))))]
    have HR : Hid (bytR B = []) := by show _ = _; unfold bytR; rw [HE.out, if_neg (by decide)]
    gi_wp2
    refine ⟨by simp, .inl ⟨_, _, rfl, run_takeDeferred hK, ?_⟩⟩
    have s1 := r1.kept (grownBy_putObj' _ D (.deferred none)) (fun e => by cases e; rw [show _ = _ from r1] at hK; cases hK)
    have s2 := r2.kept (grownBy_putObj' _ D (.deferred none)) (fun e => by cases e; rw [show _ = _ from r2] at hK; cases hK)
    refine ⟨_, results_cells2 (p := 2) (q := 3) (by kernel_rfl) _ _ _ _ _ _ _ rfl (Try.cells_sl _ _ _ s1.cell) rfl (Try.cells_er _ _ _ s2.cell), none, 0, 0, by rw [HE.out], ?_, ?_⟩
    · rw [HR.out]; exact ans_nil _ _
    · exact grown_of_below (hB.trans (belowK_b (w := w) (Nat.le_refl _) _ D _ _ (by omega) hK rfl rfl))
theorem bytes_any (a : Option Addr) (n cap : Nat) (B : List Nat) (w : World) (hp : Rd w a n cap B) (hn : n ≤ 140737488351232) :
    Calls Try.prog 6 #[.slice a n cap] w fun e w' => ∃ a' n' c', e = .returned (.tuple #[.slice a' n' c', .int .i64 (bytE B)]) ∧ Ans w' w.heap.size a' n' c' (bytR B) ∧ w.grownBy w' none := by
  have HL : Hid (B.length = n) := hp.len
  by_cases h8 : n % 8 = 0
  · obtain ⟨m, rfl⟩ : ∃ m, n = 8 * m := ⟨n / 8, by omega⟩
    exact callsIn_wide.1 (bytes_in a m cap B w hp hn)
  · have HE : Hid (bytE B = 1) := by show _ = _; unfold bytE; rw [HL.out, if_pos h8]
    have HR : Hid (bytR B = []) := by show _ = _; unfold bytR; rw [HE.out, if_neg (by decide)]
    have hr : (((n : Int) % 8) == 0) = false := by simp; omega
    go_enter Try.func6, Try.ntmps6
    go_wp2
    have b1 := Boxed.new w 22 (.slice none 0 0)
    have b2 := Boxed.new (w.alloc (.cells #[.slice none 0 0] 22)) 24 (.int .i64 1)
    rw [World.size_alloc] at b2
    exact bodyPost_ret (results_cells2 (p := 2) (q := 3) (by kernel_rfl) _ _ _ ⟨w.heap.size, 0, none⟩ ⟨w.heap.size + 1, 0, none⟩ (.slice none 0 0) (.int .i64 1) rfl (Try.cells_sl _ _ _ (b1.alloc _).cell) rfl (Try.cells_er _ _ _ b2.cell)) rfl ⟨none, 0, 0, by rw [HE.out], by rw [HR.out]; exact ans_nil _ _, grown_trans (World.grownBy_alloc _ _ _) (World.grownBy_alloc _ _ _)⟩
end Go.Proofs.Ytdjbaampicinnaa
