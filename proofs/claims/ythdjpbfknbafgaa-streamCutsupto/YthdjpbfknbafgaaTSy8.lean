import Derived.Test.YthdjpbfknbafgaaTSy7
namespace Go.Proofs.Ythdjpbfknbafgaa
open Go.RowKit Go.Shelf
set_option maxRecDepth 100000
set_option linter.unusedVariables false
set_option linter.unusedSimpArgs false

abbrev Fa := Nat × Bool × Nat × List Nat
def absF (f : Fv) : Fa := (f.p, f.tu, f.mi, f.D)
/-- what is told: a frame's own place, and its bytes -/
def gaX (r : Rx) (s : Mx) : Mx × List Fa :=
  if (s.tk - s.p) % 8 ≠ 0 then (s, []) else
    if s.da.length + 1 = r.L then ({ s with mode := 2, p := s.tk, da := [] }, [(s.p, s.tu, s.mi, scrL (tuD s.tu (s.da ++ [s.la % 256])))])
    else ({ s with da := s.da ++ [s.la % 256] }, [])
/-- the frames that were told lie in memory, apart from what is gathered -/
def FdOk (w : World) (dv : Value) (fs : List Fv) : Prop := ∀ f, f ∈ fs → Ans w 0 f.a f.n f.n f.D ∧ ((Value.slice f.a f.n f.n).ownBlock = none ∨ (Value.slice f.a f.n f.n).ownBlock ≠ dv.ownBlock)
structure FdB (w : World) (fb : Nat) (v dv : Value) (fs : List Fv) : Prop where
  box : Boxed w fb 33 v
  row : w.ownsRow 0 42 4 v fs.length (flatF fs)
  ok : FdOk w dv fs
theorem box_frm {w w' : World} {p : Nat → Prop} {B : Nat} {t : TypeId} {v : Value} (h : Boxed w B t v) (hF : Frm p w w') (hn : ¬ p B) : Boxed w' B t v := (hF.block B h.lt hn).trans h
theorem row_frm {w w' : World} {p : Nat → Prop} {base e sz n : Nat} {v : Value} {xs : List Value} (h : w.ownsRow base e sz v n xs) (hF : Frm p w w') (hn : ∀ x, v.ownBlock = some x → ¬ p x) : w'.ownsRow base e sz v n xs := by
  refine ⟨h.1, ?_⟩
  rcases h.2 with h2 | ⟨g, cap, cur, rfl, h4, h5, h6⟩
  · exact .inl h2
  · exact .inr ⟨g, cap, cur, rfl, h4, (hF.block g (Array.getElem?_eq_some_iff.1 h5).1 (hn g rfl)).trans h5, h6⟩
theorem row_lt {w : World} {base e sz n x : Nat} {v : Value} {xs : List Value} (h : w.ownsRow base e sz v n xs) (hx : v.ownBlock = some x) : x < w.heap.size ∧ ∃ cur, w.heap[x]? = some (.cells cur e) := by
  rcases h.2 with ⟨rfl, _⟩ | ⟨g, cap, cur, rfl, h4, h5, h6⟩
  · simp [Value.ownBlock] at hx
  · have e : g = x := Option.some.inj hx
    subst e
    exact ⟨(Array.getElem?_eq_some_iff.1 h5).1, cur, h5⟩
theorem cells_ne {w : World} {x : Nat} {A B : Array Value} {t u : TypeId} (h : w.heap[x]? = some (.cells A t)) (k : w.heap[x]? = some (.cells B u)) (hne : t ≠ u) : False := by
  rw [h] at k; cases k; exact hne rfl
theorem Ans.frm {w w' : World} {p : Nat → Prop} {lo n c : Nat} {a : Option Addr} {L : List Nat} (h : Ans w lo a n c L) (hF : Frm p w w') (hn : ∀ x, (Value.slice a n c).ownBlock = some x → ¬ p x) : Ans w' lo a n c L := ⟨row_frm h.own hF hn, h.byte, h.new⟩
/-- the blocks that a step may write -/
def Wr (g fb : Nat) (dv v : Value) (k : Nat) : Prop := k = g ∨ some k = dv.ownBlock ∨ k = fb ∨ some k = v.ownBlock
theorem FdB.frm {w w' : World} {p : Nat → Prop} {fb : Nat} {v dv dv' : Value} {fs : List Fv} (h : FdB w fb v dv fs) (hF : Frm p w w') (hb : ¬ p fb) (hv : ∀ x, v.ownBlock = some x → ¬ p x)
    (hf : ∀ f, f ∈ fs → ∀ x, (Value.slice f.a f.n f.n).ownBlock = some x → ¬ p x) (hd : ∀ x, dv'.ownBlock = some x → dv.ownBlock = some x ∨ w.heap.size ≤ x) : FdB w' fb v dv' fs := by
  refine ⟨box_frm h.box hF hb, row_frm h.row hF hv, fun f hm => ⟨(h.ok f hm).1.frm hF (hf f hm), ?_⟩⟩
  rcases (h.ok f hm).2 with h1 | h1
  · exact .inl h1
  · cases hx : (Value.slice f.a f.n f.n).ownBlock with
    | none => exact .inl rfl
    | some x =>
      refine .inr fun e => ?_
      rcases hd x e.symm with h2 | h2
      · exact h1 (by rw [hx, h2])
      · have := (row_lt (h.ok f hm).1.own hx).1; omega
/-- what a step writes beside the frames that were told is apart from them -/
theorem FdB.apart {w : World} {g fb L F H M k : Nat} {lk : Bool} {tk la p : Nat} {tu : Bool} {mi : Nat} {d v dv : Value} {fs : List Fv} (h : FdB w fb v dv fs) (hB : SyB w g L F H M k lk tk la p tu mi d) (gd : Nat) (hgd : dv.ownBlock = some gd) (hc : ∃ cur, w.heap[gd]? = some (.cells cur 5)) :
    (fb ≠ g ∧ fb ≠ gd) ∧ (∀ x, v.ownBlock = some x → ¬ (x = g ∨ x = gd)) ∧ (∀ f, f ∈ fs → ∀ x, (Value.slice f.a f.n f.n).ownBlock = some x → ¬ (x = g ∨ x = gd)) := by
  obtain ⟨cur, hc⟩ := hc
  refine ⟨⟨fun e => ?_, fun e => ?_⟩, fun x hx e => ?_, fun f hm x hx e => ?_⟩
  · subst e; exact cells_ne h.box hB (by decide)
  · subst e; exact cells_ne h.box hc (by decide)
  · obtain ⟨_, c2, h2⟩ := row_lt h.row hx
    rcases e with e | e
    · subst e; exact cells_ne h2 hB (by decide)
    · subst e; exact cells_ne h2 hc (by decide)
  · obtain ⟨_, c2, h2⟩ := row_lt (h.ok f hm).1.own hx
    rcases e with e | e
    · subst e; exact cells_ne h2 hB (by decide)
    · subst e
      rcases (h.ok f hm).2 with h1 | h1
      · rw [h1] at hx; cases hx
      · exact h1 (by rw [hx, hgd])
set_option maxHeartbeats 4000000 in
theorem gather1_any (g fb : Nat) (r : Rx) (s : Mx) (dv v : Value) (fs : List Fv) (w : World) (h : SyM w g r s dv) (hf : FdB w fb v dv fs) (hm : s.mode = 1) (hk : ¬ (s.tk - s.p) % 8 = 0) (hp : s.p ≤ s.tk) (htk : s.tk ≤ 4611686018427387904) :
    Calls Try.prog 40 #[.pointer (some ⟨g, 0, none⟩), .func (.func 27) #[] #[.pointer (some ⟨fb, 0, none⟩)]] w fun e w' => e = .returned (.tuple #[]) ∧ ∃ n, w' = w.drewN n := by
  obtain ⟨mode, tk, la, p, tu, mi, da⟩ := s
  obtain ⟨L, F, H, M⟩ := r
  simp only at hm hk hp htk
  subst hm
  have hB : SyB w g L F H M 40 true tk la p tu mi dv := h.blk
  have c6 := hB.c 6 (.int .i64 tk) rfl
  have c8 := hB.c 8 (.int .i64 p) rfl
  obtain ⟨d, hd⟩ : ∃ d, d = tk - p := ⟨_, rfl⟩
  have hw1 : IntKind.i64.wrap ((tk : Int) - (p : Int)) = (d : Int) := by rw [wrap_i64_in _ (by omega) (by omega)]; omega
  have hr1 : (d : Int).tmod 8 = ((d % 8 : Nat) : Int) := by rw [Int.tmod_eq_emod_of_nonneg (by omega)]; omega
  have hr2 : IntKind.i64.wrap ((d : Int).tmod 8) = ((d % 8 : Nat) : Int) := by rw [hr1, wrap_i64_in _ (by omega) (by omega)]
  have hr3 : (((d % 8 : Nat) : Int) == 0) = false := by simp; omega
  have hr4 : IntKind.i64.wrap ((d % 8 : Nat) : Int) = ((d % 8 : Nat) : Int) := wrap_i64_in _ (by omega) (by omega)
  generalize d % 8 = m8 at *
  clear hd hk h
  go_enter Try.func40, Try.ntmps40
  go_wp2
  go_quiet (fail)
  go_wp2
  exact bodyPost_ret (results_none rfl _ _ _) rfl ⟨rfl, nq, rfl⟩
theorem byte_of (la : Nat) : IntKind.u8.wrap (la : Int) = ((la % 256 : Nat) : Int) := by rw [IntKind.wrap_u8']; omega
set_option maxHeartbeats 8000000 in
theorem gather2_any (g fb : Nat) (r : Rx) (s : Mx) (dv v : Value) (fs : List Fv) (w : World) (h : SyM w g r s dv) (hf : FdB w fb v dv fs) (hm : s.mode = 1) (hk : (s.tk - s.p) % 8 = 0) (hp : s.p ≤ s.tk) (htk : s.tk ≤ 4611686018427387904) (hL : r.L ≤ 2048) (hda : s.da.length + 1 < r.L) :
    Calls Try.prog 40 #[.pointer (some ⟨g, 0, none⟩), .func (.func 27) #[] #[.pointer (some ⟨fb, 0, none⟩)]] w fun e w' => e = .returned (.tuple #[]) ∧ ∃ dv', SyM w' g r { s with da := s.da ++ [s.la % 256] } dv' ∧ FdB w' fb v dv' fs ∧ dv'.ownBlock = dv.ownBlock ∧ Frm (Wr g fb dv v) w w' := by
  obtain ⟨mode, tk, la, p, tu, mi, da⟩ := s
  obtain ⟨L, F, H, M⟩ := r
  simp only at hm hk hp htk hL hda
  subst hm
  obtain ⟨hB0, _, hbusy⟩ := h
  obtain ⟨gd, hdv, hne, hrow, hisB⟩ := hbusy rfl
  simp only at hdv hrow hisB
  subst hdv
  have hB : SyB w g L F H M 40 true tk la p tu mi (.slice (some ⟨gd, 0, none⟩) da.length L) := hB0
  clear hB0 hbusy
  have c6 := hB.c 6 (.int .i64 tk) rfl
  have c8 := hB.c 8 (.int .i64 p) rfl
  obtain ⟨d, hd⟩ : ∃ d, d = tk - p := ⟨_, rfl⟩
  have hw1 : IntKind.i64.wrap ((tk : Int) - (p : Int)) = (d : Int) := by rw [wrap_i64_in _ (by omega) (by omega)]; omega
  have hr1 : (d : Int).tmod 8 = 0 := by rw [Int.tmod_eq_emod_of_nonneg (by omega)]; omega
  have hr4 : IntKind.i64.wrap 0 = 0 := wrap_i64_in _ (by omega) (by omega)
  obtain ⟨i0, hi, hz0, hz1, hz2⟩ := info_parts Try.info_u8
  obtain ⟨b, hb⟩ : ∃ b, b = la % 256 := ⟨_, rfl⟩
  have hbw := byte_of la
  rw [← hb] at hbw
  have hbl : b < 256 := by omega
  have HBe : Hid (b = la % 256) := hb
  obtain ⟨n, hn⟩ : ∃ n, n = da.length := ⟨_, rfl⟩
  rw [← hn] at hB hrow hda
  have HN : Hid (n = da.length) := hn
  clear hd hk hb hn
  go_enter Try.func40, Try.ntmps40
  go_wp2
  go_quiet (fail)
  have hB1 := hB.keep (grown_drewN w nq none)
  have G1 := grown_drewN w nq none
  have hrow1 := hrow.kept (grown_drewN w nq none) (.inr (by simp [Value.ownBlock]))
  generalize w.drewN nq = w1 at hB1 G1 hrow1 ⊢
  have c7 := hB1.c 7 (.int .u64 la) rfl
  have c11 := hB1.c 11 (.slice (some ⟨gd, 0, none⟩) n L) rfl
  have hrA : (w1.drew.alloc (.cells #[.int .u8 (b : Int)] 5)).ownsRow 0 5 1 (.slice (some ⟨gd, 0, none⟩) n L) n (bys da) := hrow1.drew.alloc _
  have c11a := (hB1.keep (World.grownBy_alloc w1 (.cells #[.int .u8 (b : Int)] 5) none)).c 11 (.slice (some ⟨gd, 0, none⟩) n L) rfl
  go_wp2
  go_region_law (first
    | (refine step_append_fits rfl (.tmp 19) (.tmp 25) 25 rfl 0 5 i0 1 Try.underlying25 hi hz1 gd n L (bys da) rfl hrA ⟨w1.heap.size, 0, none⟩ 1 1 [.int .u8 (b : Int)] rfl rfl (cell_one w1.drew _) (by simp [Value.oneCell']) (by omega) ?_; intro w2 hown2 g2; have gW : w1.grownBy w2 (some gd) := grown_trans (grown_trans (grown_drew _ _) (World.grownBy_alloc _ _ _)) g2; have hB2 := hB1.kept gW (fun e => hne (Option.some.inj e).symm); have c11' := hB2.c 11 (.slice (some ⟨gd, 0, none⟩) n L) rfl; have f11' := hB2.f 11))
  all_goals
    have hB3 : SyB (w2.setCell ⟨g, 11, none⟩ (.slice (some ⟨gd, 0, none⟩) (n + 1) L)) g L F H M 40 true tk la p tu mi (.slice (some ⟨gd, 0, none⟩) (n + 1) L) := by
      show _ = _
      rw [heap_setCell_same w2 g 11 _ _ _ hB2]; exact congrArg (fun A => some (Obj.cells A _)) (sy11 ..)
    have hr3 := hown2.kept (grown_set w2 g 11 (.slice (some ⟨gd, 0, none⟩) (n + 1) L)) (.inr (by simp only [Value.ownBlock]; exact fun e => hne (Option.some.inj e)))
    have gW3 : Frm (fun k => k = g ∨ k = gd) w (w2.setCell ⟨g, 11, none⟩ (.slice (some ⟨gd, 0, none⟩) (n + 1) L)) := ((Frm.of (p := fun k => k = g ∨ k = gd) (grown_trans (grown_weak G1 _) gW) (fun k e _ => by cases e; exact .inr rfl)).trans (Frm.of (p := fun k => k = g) (grown_set w2 g 11 _) (fun k e _ => by cases e; rfl)) (fun i _ h => .inl h))
    generalize w2.setCell ⟨g, 11, none⟩ (.slice (some ⟨gd, 0, none⟩) (n + 1) L) = w3 at hB3 hr3 gW3 ⊢
    have d11 := hB3.c 11 (.slice (some ⟨gd, 0, none⟩) (n + 1) L) rfl
    have d0 := hB3.c 0 (.int .i64 L) rfl
    have hnl : (((n : Int) + 1) == (L : Int)) = false := by simp; omega
    clear c11' f11' c7 c11 c11a hB2 hown2
    go_wp2
    go_quiet (fail)
    go_wp2
    go_end0
    have hgdc : ∃ cur, w.heap[gd]? = some (.cells cur 5) := (row_lt hrow rfl).2
    obtain ⟨⟨a1, a2⟩, a3, a4⟩ := hf.apart hB gd rfl hgdc
    have gW4 := gW3.trans (Frm.of (p := fun k => k = g ∨ k = gd) (grown_drewN w3 nq none) (fun k e _ => by cases e)) (fun i _ h => h)
    rw [bys_add] at hr3
    refine ⟨rfl, .slice (some ⟨gd, 0, none⟩) (n + 1) L, ⟨hB3.keep (grown_drewN _ _ _), fun h => absurd rfl h, fun _ => ⟨gd, ?_, hne, ?_, ?_⟩⟩, hf.frm gW4 (fun h => h.elim a1 a2) a3 a4 (fun x hx => .inl hx), rfl, gW4.weak (fun i _ h => h.elim .inl (fun h => .inr (.inl (congrArg some h))))⟩
    · show Value.slice _ (n + 1) L = Value.slice _ (da ++ [la % 256]).length L
      rw [List.length_append, HN.out]; rfl
    · show World.ownsRow _ 0 _ 1 _ (da ++ [la % 256]).length _
      rw [List.length_append, ← HBe.out, ← HN.out]
      exact hr3.kept (grown_drewN _ _ none) (.inr (by simp [Value.ownBlock]))
    · exact isB_append hisB (isB_single _ (by rw [← HBe.out]; exact hbl))
end Go.Proofs.Ythdjpbfknbafgaa
