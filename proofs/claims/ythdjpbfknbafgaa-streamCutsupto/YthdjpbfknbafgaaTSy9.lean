import Derived.Test.YthdjpbfknbafgaaTSy8
namespace Go.Proofs.Ythdjpbfknbafgaa
open Go.RowKit Go.Shelf
set_option maxRecDepth 100000
set_option linter.unusedVariables false
set_option linter.unusedSimpArgs false

theorem sy_frm {w w' : World} {q : Nat → Prop} {g L F H M k : Nat} {lk : Bool} {tk la p : Nat} {tu : Bool} {mi : Nat} {d : Value} (h : SyB w g L F H M k lk tk la p tu mi d) (hF : Frm q w w') (hn : ¬ q g) : SyB w' g L F H M k lk tk la p tu mi d := (hF.block g h.lt hn).trans h
theorem fframe_any (g gd L F H M k : Nat) (lk : Bool) (tk la p : Nat) (tu : Bool) (mi : Nat) (D : List Nat) (w : World) (h : SyB w g L F H M k lk tk la p tu mi (.slice (some ⟨gd, 0, none⟩) L L)) (hrow : Ans w 0 (some ⟨gd, 0, none⟩) L L D) (hne : gd ≠ g) (hL : L ≤ 2048) :
    Calls Try.prog 41 #[.pointer (some ⟨g, 0, none⟩)] w fun e w' => ∃ a', e = .returned (FrA p tu mi a' L) ∧ SyB w' g L F H M k lk tk la p tu mi (.slice (some ⟨gd, 0, none⟩) L L) ∧ Ans w' w.heap.size a' L L (scrL (tuD tu D)) ∧ w.grownBy w' (some gd) := by
  cases tu
  · refine (frame0_any g gd L F H M k lk tk la p mi D w h hrow hne hL).mono ?_
    rintro e w' ⟨a', rfl, h1, h2, h3⟩
    exact ⟨a', rfl, h1, h2, grown_weak h3 _⟩
  · exact frame1_any g gd L F H M k lk tk la p mi D w h hrow hne hL
set_option maxHeartbeats 8000000 in
theorem gather3_any (g fb : Nat) (r : Rx) (s : Mx) (dv v : Value) (fs : List Fv) (w : World) (h : SyM w g r s dv) (hf : FdB w fb v dv fs) (hm : s.mode = 1) (hk : (s.tk - s.p) % 8 = 0) (hp : s.p ≤ s.tk) (htk : s.tk ≤ 4611686018427387904) (hL : r.L ≤ 2048) (hda : s.da.length + 1 = r.L) (hfs : fs.length ≤ 4194304) :
    Calls Try.prog 40 #[.pointer (some ⟨g, 0, none⟩), .func (.func 27) #[] #[.pointer (some ⟨fb, 0, none⟩)]] w fun e w' => e = .returned (.tuple #[]) ∧ ∃ v' f, SyM w' g r { s with mode := 2, p := s.tk, da := [] } (.slice none 0 0) ∧ FdB w' fb v' (.slice none 0 0) (fs ++ [f]) ∧ absF f = (s.p, s.tu, s.mi, scrL (tuD s.tu (s.da ++ [s.la % 256]))) ∧ (∀ x, v'.ownBlock = some x → v.ownBlock = some x ∨ w.heap.size ≤ x) ∧ Frm (Wr g fb dv v) w w' := by
  obtain ⟨mode, tk, la, p, tu, mi, da⟩ := s
  obtain ⟨L, F, H, M⟩ := r
  simp only at hm hk hp htk hL hda
  subst hm
  obtain ⟨hB0, _, hbusy⟩ := h
  obtain ⟨gd, hdv, hne, hrow, hisB⟩ := hbusy rfl
  simp only at hdv hrow hisB
  subst hdv
  have hB : SyB w g L F H M 40 true tk la p tu mi (.slice (some ⟨gd, 0, none⟩) da.length L) := hB0
  clear hB0 hbusy
  have c6 := hB.c 6 (.int .i64 tk) rfl
  have c8 := hB.c 8 (.int .i64 p) rfl
  obtain ⟨d, hd⟩ : ∃ d, d = tk - p := ⟨_, rfl⟩
  have hw1 : IntKind.i64.wrap ((tk : Int) - (p : Int)) = (d : Int) := by rw [wrap_i64_in _ (by omega) (by omega)]; omega
  have hr1 : (d : Int).tmod 8 = 0 := by rw [Int.tmod_eq_emod_of_nonneg (by omega)]; omega
  have hr4 : IntKind.i64.wrap 0 = 0 := wrap_i64_in _ (by omega) (by omega)
  obtain ⟨i0, hi, hz0, hz1, hz2⟩ := info_parts Try.info_u8
  obtain ⟨b, hb⟩ : ∃ b, b = la % 256 := ⟨_, rfl⟩
  have hbw := byte_of la
  rw [← hb] at hbw
  have hbl : b < 256 := by omega
  have HBe : Hid (b = la % 256) := hb
  obtain ⟨n, hn⟩ : ∃ n, n = da.length := ⟨_, rfl⟩
  rw [← hn] at hB hrow hda
  have HN : Hid (n = da.length) := hn
  have HLn : Hid (n + 1 = L) := hda
  have hdl : n < L := by omega
  clear hd hk hb hn hda
  go_enter Try.func40, Try.ntmps40
  go_wp2
  go_quiet (fail)
  have hB1 := hB.keep (grown_drewN w nq none)
  have G1 := grown_drewN w nq none
  have hrow1 := hrow.kept (grown_drewN w nq none) (.inr (by simp [Value.ownBlock]))
  generalize w.drewN nq = w1 at hB1 G1 hrow1 ⊢
  have c7 := hB1.c 7 (.int .u64 la) rfl
  have c11 := hB1.c 11 (.slice (some ⟨gd, 0, none⟩) n L) rfl
  have hrA : (w1.drew.alloc (.cells #[.int .u8 (b : Int)] 5)).ownsRow 0 5 1 (.slice (some ⟨gd, 0, none⟩) n L) n (bys da) := hrow1.drew.alloc _
  have c11a := (hB1.keep (World.grownBy_alloc w1 (.cells #[.int .u8 (b : Int)] 5) none)).c 11 (.slice (some ⟨gd, 0, none⟩) n L) rfl
  go_wp2
  go_region_law (first
    | (refine step_append_fits rfl (.tmp 19) (.tmp 25) 25 rfl 0 5 i0 1 Try.underlying25 hi hz1 gd n L (bys da) rfl hrA ⟨w1.heap.size, 0, none⟩ 1 1 [.int .u8 (b : Int)] rfl rfl (cell_one w1.drew _) (by simp [Value.oneCell']) (by omega) ?_; intro w2 hown2 g2; have gW : w1.grownBy w2 (some gd) := grown_trans (grown_trans (grown_drew _ _) (World.grownBy_alloc _ _ _)) g2; have hB2 := hB1.kept gW (fun e => hne (Option.some.inj e).symm); have c11' := hB2.c 11 (.slice (some ⟨gd, 0, none⟩) n L) rfl; have f11' := hB2.f 11))
  all_goals
    have hB3 : SyB (w2.setCell ⟨g, 11, none⟩ (.slice (some ⟨gd, 0, none⟩) (n + 1) L)) g L F H M 40 true tk la p tu mi (.slice (some ⟨gd, 0, none⟩) (n + 1) L) := by
      show _ = _
      rw [heap_setCell_same w2 g 11 _ _ _ hB2]; exact congrArg (fun A => some (Obj.cells A _)) (sy11 ..)
    have hr3 := hown2.kept (grown_set w2 g 11 (.slice (some ⟨gd, 0, none⟩) (n + 1) L)) (.inr (by simp only [Value.ownBlock]; exact fun e => hne (Option.some.inj e)))
    have gW3 : Frm (fun k => k = g ∨ k = gd) w (w2.setCell ⟨g, 11, none⟩ (.slice (some ⟨gd, 0, none⟩) (n + 1) L)) := ((Frm.of (p := fun k => k = g ∨ k = gd) (grown_trans (grown_weak G1 _) gW) (fun k e _ => by cases e; exact .inr rfl)).trans (Frm.of (p := fun k => k = g) (grown_set w2 g 11 _) (fun k e _ => by cases e; rfl)) (fun i _ h => .inl h))
    generalize w2.setCell ⟨g, 11, none⟩ (.slice (some ⟨gd, 0, none⟩) (n + 1) L) = w3 at hB3 hr3 gW3 ⊢
    have d11 := hB3.c 11 (.slice (some ⟨gd, 0, none⟩) (n + 1) L) rfl
    have d0 := hB3.c 0 (.int .i64 L) rfl
    have hnl : (((n : Int) + 1) == (L : Int)) = true := by have := HLn.out; simp; omega
    clear c11' f11' c7 c11 c11a hB2 hown2
    have hgdc : ∃ cur, w.heap[gd]? = some (.cells cur 5) := (row_lt hrow rfl).2
    obtain ⟨⟨a1, a2⟩, a3, a4⟩ := hf.apart hB gd rfl hgdc
    rw [bys_add] at hr3
    have hdb : IsB (da ++ [b]) := isB_append hisB (isB_single _ hbl)
    have hA3 : Ans w3 0 (some ⟨gd, 0, none⟩) (n + 1) L (da ++ [b]) := ⟨hr3, hdb, fun _ _ => Nat.zero_le _⟩
    go_wp2
    go_quiet (fail)
    have hB4 := hB3.keep (grown_drewN w3 nq none)
    have hA4 := hA3.keep (grown_drewN w3 nq none)
    have gW4 := gW3.trans (Frm.of (p := fun k => k = g ∨ k = gd) (grown_drewN w3 nq none) (fun k e _ => by cases e)) (fun i _ h => h)
    generalize w3.drewN nq = w4 at hB4 hA4 gW4 ⊢
    rw [HLn.out] at hB4 hA4
    have hf4 := hf.frm (dv' := .slice (some ⟨gd, 0, none⟩) L L) gW4 (fun h => h.elim a1 a2) a3 a4 (fun x hx => .inl hx)
    have t1 : True := trivial
    go_wp2_with (first
      | (go_at_call 41; have _t := t1; clear t1; refine (fframe_any g gd L F H M _ true tk la p tu mi _ w4 hB4 hA4 hne hL).mono ?_; rintro e w5 ⟨a5, rfl, hB5, hA5, g5⟩; have F5 := Frm.of (p := fun k => k = gd) g5 (fun k e _ => (Option.some.inj e).symm); have hf5 := hf4.frm (dv' := .slice (some ⟨gd, 0, none⟩) L L) F5 a2 (fun x hx e => a3 x hx (.inr e)) (fun f hm x hx e => a4 f hm x hx (.inr e)) (fun x hx => .inl hx); have t2 : True := trivial)
      | (go_at_call 27; have _t := t2; clear t2; refine (tell_any fb v fs ⟨p, tu, mi, a5, L, scrL (tuD tu (da ++ [b]))⟩ w5 hf5.box hf5.row hfs).mono ?_; rintro e w6 ⟨rfl, v', hb6, hr6, hn6, F6⟩; have hB6 := sy_frm hB5 F6 (fun h => h.elim (fun e => a1 e.symm) (fun e => a3 g e.symm (.inl rfl))); have t3 : True := trivial)
      | (go_at_call 42; have _t := t3; clear t3; refine (expect_any g L F H M _ true tk la p tu mi _ w6 hB6).mono ?_; rintro e w7 ⟨rfl, hB7, g7⟩))
    go_end0
    have F7 := Frm.of (p := fun k => k = g) g7 (fun k e _ => (Option.some.inj e).symm)
    have s45 := gW4.size
    have s56 := F5.size
    have s67 := F6.size
    have hfa : ∀ x, (Value.slice a5 L L).ownBlock = some x → w4.heap.size ≤ x := hA5.new
    have A6 : Ans w6 0 a5 L L (scrL (tuD tu (da ++ [b]))) := (hA5.wide (Nat.zero_le _)).frm F6 (fun x hx h => by
      obtain ⟨_, c2, h2⟩ := row_lt hA5.own hx
      rcases h with e | e
      · subst e; exact cells_ne h2 hf5.box (by decide)
      · obtain ⟨_, c3, h3⟩ := row_lt hf5.row e.symm
        exact cells_ne h2 h3 (by decide))
    have ok6 : FdOk w6 (.slice none 0 0) (fs ++ [⟨p, tu, mi, a5, L, scrL (tuD tu (da ++ [b]))⟩]) := by
      intro f hm
      rcases List.mem_append.1 hm with h1 | h1
      · refine ⟨(hf5.ok f h1).1.frm F6 (fun x hx h => ?_), ?_⟩
        · obtain ⟨_, c2, h2⟩ := row_lt (hf5.ok f h1).1.own hx
          rcases h with e | e
          · subst e; exact cells_ne h2 hf5.box (by decide)
          · obtain ⟨_, c3, h3⟩ := row_lt hf5.row e.symm
            exact cells_ne h2 h3 (by decide)
        · cases hx : (Value.slice f.a f.n f.n).ownBlock with
          | none => exact .inl rfl
          | some x => exact .inr (by simp [Value.ownBlock])
      · have e := List.mem_singleton.1 h1
        subst e
        refine ⟨A6, ?_⟩
        show (Value.slice a5 L L).ownBlock = none ∨ (Value.slice a5 L L).ownBlock ≠ _
        cases hx : (Value.slice a5 L L).ownBlock with
        | none => exact .inl rfl
        | some x => exact .inr (by simp [Value.ownBlock])
    have hf6 : FdB w6 fb v' (.slice none 0 0) (fs ++ [⟨p, tu, mi, a5, L, scrL (tuD tu (da ++ [b]))⟩]) := ⟨hb6, hr6, ok6⟩
    have hf7 := hf6.frm (dv' := .slice none 0 0) F7 a1 (fun x hx e => by
      obtain ⟨_, c2, h2⟩ := row_lt hr6 hx
      subst e; exact cells_ne h2 hB6 (by decide)) (fun f hm x hx e => by
      obtain ⟨_, c2, h2⟩ := row_lt (ok6 f hm).1.own hx
      subst e; exact cells_ne h2 hB6 (by decide)) (fun x hx => .inl hx)
    refine ⟨rfl, v', _, ⟨hB7, fun _ => ⟨rfl, rfl⟩, fun h => absurd h (show ¬ (2 : Nat) = 1 by decide)⟩, hf7, by rw [HBe.out]; rfl, fun x hx => (hn6 x hx).elim .inl (fun h => .inr (by omega)), ?_⟩
    have T1 := gW4.weak (q := Wr g fb (.slice (some ⟨gd, 0, none⟩) da.length L) v) (fun i _ h => h.elim .inl (fun h => .inr (.inl (congrArg some h))))
    have T2 := T1.trans F5 (fun i _ h => .inr (.inl (congrArg some h)))
    have T3 := T2.trans F6 (fun i _ h => h.elim (fun h => .inr (.inr (.inl h))) (fun h => .inr (.inr (.inr h))))
    exact T3.trans F7 (fun i _ h => .inl h)
end Go.Proofs.Ythdjpbfknbafgaa
