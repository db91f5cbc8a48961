import Derived.Test.YthdjpbfknbafgaaLi4
import Derived.Test.YthdjpbfknbafgaaLi3
namespace Go.Proofs.Ythdjpbfknbafgaa
open Go.RowKit
set_option maxRecDepth 100000
set_option linter.unusedVariables false
set_option linter.unusedSimpArgs false

section
open Go.RowKit Go.Shelf

theorem sy_frm {w w' : World} {q : Nat → Prop} {g L F H M k : Nat} {lk : Bool} {tk la p : Nat} {tu : Bool} {mi : Nat} {d : Value} (h : SyB w g L F H M k lk tk la p tu mi d) (hF : Frm q w w') (hn : ¬ q g) : SyB w' g L F H M k lk tk la p tu mi d := (hF.block g h.lt hn).trans h
theorem fframe_any (g gd L F H M k : Nat) (lk : Bool) (tk la p : Nat) (tu : Bool) (mi : Nat) (D : List Nat) (w : World) (h : SyB w g L F H M k lk tk la p tu mi (.slice (some ⟨gd, 0, none⟩) L L)) (hrow : Ans w 0 (some ⟨gd, 0, none⟩) L L D) (hne : gd ≠ g) (hL : L ≤ 2048) :
    Calls Try.prog 41 #[.pointer (some ⟨g, 0, none⟩)] w fun e w' => ∃ a', e = .returned (FrA p tu mi a' L) ∧ SyB w' g L F H M k lk tk la p tu mi (.slice (some ⟨gd, 0, none⟩) L L) ∧ Ans w' w.heap.size a' L L (scrL (tuD tu D)) ∧ w.grownBy w' (some gd) := by
  cases tu
  · refine (frame0_any g gd L F H M k lk tk la p mi D w h hrow hne hL).mono ?_
    rintro e w' ⟨a', rfl, h1, h2, h3⟩
    exact ⟨a', rfl, h1, h2, grown_weak h3 _⟩
  · exact frame1_any g gd L F H M k lk tk la p mi D w h hrow hne hL
set_option maxHeartbeats 8000000 in
theorem gather3_any (g fb : Nat) (r : Rx) (s : Mx) (dv v : Value) (fs : List Fv) (w : World) (h : SyM w g r s dv) (hf : FdB w fb v dv fs) (hm : s.mode = 1) (hk : (s.tk - s.p) % 8 = 0) (hp : s.p ≤ s.tk) (htk : s.tk ≤ 4611686018427387904) (hL : r.L ≤ 2048) (hda : s.da.length + 1 = r.L) (hfs : fs.length ≤ 4194304) :
    Calls Try.prog 40 #[.pointer (some ⟨g, 0, none⟩), .func (.func 27) #[] #[.pointer (some ⟨fb, 0, none⟩)]] w fun e w' => e = .returned (.tuple #[]) ∧ ∃ v' f, SyM w' g r { s with mode := 2, p := s.tk, da := [] } (.slice none 0 0) ∧ FdB w' fb v' (.slice none 0 0) (fs ++ [f]) ∧ absF f = (s.p, s.tu, s.mi, scrL (tuD s.tu (s.da ++ [s.la % 256]))) ∧ (∀ x, v'.ownBlock = some x → v.ownBlock = some x ∨ w.heap.size ≤ x) ∧ Frm (Wr g fb dv v) w w' := by
  obtain ⟨mode, tk, la, p, tu, mi, da⟩ := s
  obtain ⟨L, F, H, M⟩ := r
  simp only at hm hk hp htk hL hda
  subst hm
  obtain ⟨hB0, _, hbusy⟩ := h
  obtain ⟨gd, hdv, hne, hrow, hisB⟩ := hbusy rfl
  simp only at hdv hrow hisB
  subst hdv
  have hB : SyB w g L F H M 40 true tk la p tu mi (.slice (some ⟨gd, 0, none⟩) da.length L) := hB0
  clear hB0 hbusy
  have c6 := hB.c 6 (.int .i64 tk) rfl
  have c8 := hB.c 8 (.int .i64 p) rfl
  obtain ⟨d, hd⟩ : ∃ d, d = tk - p := ⟨_, rfl⟩
  have hw1 : IntKind.i64.wrap ((tk : Int) - (p : Int)) = (d : Int) := by rw [wrap_i64_in _ (by omega) (by omega)]; omega
  have hr1 : (d : Int).tmod 8 = 0 := by rw [Int.tmod_eq_emod_of_nonneg (by omega)]; omega
  have hr4 : IntKind.i64.wrap 0 = 0 := wrap_i64_in _ (by omega) (by omega)
  obtain ⟨i0, hi, hz0, hz1, hz2⟩ := info_parts Try.info_u8
  obtain ⟨b, hb⟩ : ∃ b, b = la % 256 := ⟨_, rfl⟩
  have hbw := byte_of la
  rw [← hb] at hbw
  have hbl : b < 256 := by omega
  have HBe : Hid (b = la % 256) := hb
  obtain ⟨n, hn⟩ : ∃ n, n = da.length := ⟨_, rfl⟩
  rw [← hn] at hB hrow hda
  have HN : Hid (n = da.length) := hn
  have HLn : Hid (n + 1 = L) := hda
  have hdl : n < L := by omega
  clear hd hk hb hn hda
  go_enter Try.func40, Try.ntmps40
  go_wp2
  go_quiet (fail)
  have hB1 := hB.keep (grown_drewN w nq none)
  have G1 := grown_drewN w nq none
  have hrow1 := hrow.kept (grown_drewN w nq none) (.inr (by simp [Value.ownBlock]))
  generalize w.drewN nq = w1 at hB1 G1 hrow1 ⊢
  have c7 := hB1.c 7 (.int .u64 la) rfl
  have c11 := hB1.c 11 (.slice (some ⟨gd, 0, none⟩) n L) rfl
  have hrA : (w1.drew.alloc (.cells #[.int .u8 (b : Int)] 5)).ownsRow 0 5 1 (.slice (some ⟨gd, 0, none⟩) n L) n (bys da) := hrow1.drew.alloc _
  have c11a := (hB1.keep (World.grownBy_alloc w1 (.cells #[.int .u8 (b : Int)] 5) none)).c 11 (.slice (some ⟨gd, 0, none⟩) n L) rfl
  go_wp2
  go_region_law (first
    | (refine step_append_fits rfl (.tmp 19) (.tmp 25) 25 rfl 0 5 i0 1 Try.underlying25 hi hz1 gd n L (bys da) rfl hrA ⟨w1.heap.size, 0, none⟩ 1 1 [.int .u8 (b : Int)] rfl rfl (cell_one w1.drew _) (by simp [Value.oneCell']) (by omega) ?_; intro w2 hown2 g2; have gW : w1.grownBy w2 (some gd) := grown_trans (grown_trans (grown_drew _ _) (World.grownBy_alloc _ _ _)) g2; have hB2 := hB1.kept gW (fun e => hne (Option.some.inj e).symm); have c11' := hB2.c 11 (.slice (some ⟨gd, 0, none⟩) n L) rfl; have f11' := hB2.f 11))
  all_goals
    have hB3 : SyB (w2.setCell ⟨g, 11, none⟩ (.slice (some ⟨gd, 0, none⟩) (n + 1) L)) g L F H M 40 true tk la p tu mi (.slice (some ⟨gd, 0, none⟩) (n + 1) L) := by
      show _ = _
      rw [heap_setCell_same w2 g 11 _ _ _ hB2]; exact congrArg (fun A => some (Obj.cells A _)) (sy11 ..)
    have hr3 := hown2.kept (grown_set w2 g 11 (.slice (some ⟨gd, 0, none⟩) (n + 1) L)) (.inr (by simp only [Value.ownBlock]; exact fun e => hne (Option.some.inj e)))
    have gW3 : Frm (fun k => k = g ∨ k = gd) w (w2.setCell ⟨g, 11, none⟩ (.slice (some ⟨gd, 0, none⟩) (n + 1) L)) := ((Frm.of (p := fun k => k = g ∨ k = gd) (grown_trans (grown_weak G1 _) gW) (fun k e _ => by cases e; exact .inr rfl)).trans (Frm.of (p := fun k => k = g) (grown_set w2 g 11 _) (fun k e _ => by cases e; rfl)) (fun i _ h => .inl h))
    generalize w2.setCell ⟨g, 11, none⟩ (.slice (some ⟨gd, 0, none⟩) (n + 1) L) = w3 at hB3 hr3 gW3 ⊢
    have d11 := hB3.c 11 (.slice (some ⟨gd, 0, none⟩) (n + 1) L) rfl
    have d0 := hB3.c 0 (.int .i64 L) rfl
    have hnl : (((n : Int) + 1) == (L : Int)) = true := by have := HLn.out; simp; omega
    clear c11' f11' c7 c11 c11a hB2 hown2
    have hgdc : ∃ cur, w.heap[gd]? = some (.cells cur 5) := (row_lt hrow rfl).2
    obtain ⟨⟨a1, a2⟩, a3, a4⟩ := hf.apart hB gd rfl hgdc
    rw [bys_add] at hr3
    have hdb : IsB (da ++ [b]) := isB_append hisB (isB_single _ hbl)
    have hA3 : Ans w3 0 (some ⟨gd, 0, none⟩) (n + 1) L (da ++ [b]) := ⟨hr3, hdb, fun _ _ => Nat.zero_le _⟩
    go_wp2
    go_quiet (fail)
    have hB4 := hB3.keep (grown_drewN w3 nq none)
    have hA4 := hA3.keep (grown_drewN w3 nq none)
    have gW4 := gW3.trans (Frm.of (p := fun k => k = g ∨ k = gd) (grown_drewN w3 nq none) (fun k e _ => by cases e)) (fun i _ h => h)
    generalize w3.drewN nq = w4 at hB4 hA4 gW4 ⊢
    rw [HLn.out] at hB4 hA4
    have hf4 := hf.frm (dv' := .slice (some ⟨gd, 0, none⟩) L L) gW4 (fun h => h.elim a1 a2) a3 a4 (fun x hx => .inl hx)
    have t1 : True := trivial
    go_wp2_with (first
      | (go_at_call 41; have _t := t1; clear t1; refine (fframe_any g gd L F H M _ true tk la p tu mi _ w4 hB4 hA4 hne hL).mono ?_; rintro e w5 ⟨a5, rfl, hB5, hA5, g5⟩; have F5 := Frm.of (p := fun k => k = gd) g5 (fun k e _ => (Option.some.inj e).symm); have hf5 := hf4.frm (dv' := .slice (some ⟨gd, 0, none⟩) L L) F5 a2 (fun x hx e => a3 x hx (.inr e)) (fun f hm x hx e => a4 f hm x hx (.inr e)) (fun x hx => .inl hx); have t2 : True := trivial)
      | (go_at_call 27; have _t := t2; clear t2; refine (tell_any fb v fs ⟨p, tu, mi, a5, L, scrL (tuD tu (da ++ [b]))⟩ w5 hf5.box hf5.row hfs).mono ?_; rintro e w6 ⟨rfl, v', hb6, hr6, hn6, F6⟩; have hB6 := sy_frm hB5 F6 (fun h => h.elim (fun e => a1 e.symm) (fun e => a3 g e.symm (.inl rfl))); have t3 : True := trivial)
      | (go_at_call 42; have _t := t3; clear t3; refine (expect_any g L F H M _ true tk la p tu mi _ w6 hB6).mono ?_; rintro e w7 ⟨rfl, hB7, g7⟩))
    go_end0
    have F7 := Frm.of (p := fun k => k = g) g7 (fun k e _ => (Option.some.inj e).symm)
    have s45 := gW4.size
    have s56 := F5.size
    have s67 := F6.size
    have hfa : ∀ x, (Value.slice a5 L L).ownBlock = some x → w4.heap.size ≤ x := hA5.new
    have A6 : Ans w6 0 a5 L L (scrL (tuD tu (da ++ [b]))) := (hA5.wide (Nat.zero_le _)).frm F6 (fun x hx h => by
      obtain ⟨_, c2, h2⟩ := row_lt hA5.own hx
      rcases h with e | e
      · subst e; exact cells_ne h2 hf5.box (by decide)
      · obtain ⟨_, c3, h3⟩ := row_lt hf5.row e.symm
        exact cells_ne h2 h3 (by decide))
    have ok6 : FdOk w6 (.slice none 0 0) (fs ++ [⟨p, tu, mi, a5, L, scrL (tuD tu (da ++ [b]))⟩]) := by
      intro f hm
      rcases List.mem_append.1 hm with h1 | h1
      · refine ⟨(hf5.ok f h1).1.frm F6 (fun x hx h => ?_), ?_⟩
        · obtain ⟨_, c2, h2⟩ := row_lt (hf5.ok f h1).1.own hx
          rcases h with e | e
          · subst e; exact cells_ne h2 hf5.box (by decide)
          · obtain ⟨_, c3, h3⟩ := row_lt hf5.row e.symm
            exact cells_ne h2 h3 (by decide)
        · cases hx : (Value.slice f.a f.n f.n).ownBlock with
          | none => exact .inl rfl
          | some x => exact .inr (by simp [Value.ownBlock])
      · have e := List.mem_singleton.1 h1
        subst e
        refine ⟨A6, ?_⟩
        show (Value.slice a5 L L).ownBlock = none ∨ (Value.slice a5 L L).ownBlock ≠ _
        cases hx : (Value.slice a5 L L).ownBlock with
        | none => exact .inl rfl
        | some x => exact .inr (by simp [Value.ownBlock])
    have hf6 : FdB w6 fb v' (.slice none 0 0) (fs ++ [⟨p, tu, mi, a5, L, scrL (tuD tu (da ++ [b]))⟩]) := ⟨hb6, hr6, ok6⟩
    have hf7 := hf6.frm (dv' := .slice none 0 0) F7 a1 (fun x hx e => by
      obtain ⟨_, c2, h2⟩ := row_lt hr6 hx
      subst e; exact cells_ne h2 hB6 (by decide)) (fun f hm x hx e => by
      obtain ⟨_, c2, h2⟩ := row_lt (ok6 f hm).1.own hx
      subst e; exact cells_ne h2 hB6 (by decide)) (fun x hx => .inl hx)
    refine ⟨rfl, v', _, ⟨hB7, fun _ => ⟨rfl, rfl⟩, fun h => absurd h (show ¬ (2 : Nat) = 1 by decide)⟩, hf7, by rw [HBe.out]; rfl, fun x hx => (hn6 x hx).elim .inl (fun h => .inr (by omega)), ?_⟩
    have T1 := gW4.weak (q := Wr g fb (.slice (some ⟨gd, 0, none⟩) da.length L) v) (fun i _ h => h.elim .inl (fun h => .inr (.inl (congrArg some h))))
    have T2 := T1.trans F5 (fun i _ h => .inr (.inl (congrArg some h)))
    have T3 := T2.trans F6 (fun i _ h => h.elim (fun h => .inr (.inr (.inl h))) (fun h => .inr (.inr (.inr h))))
    exact T3.trans F7 (fun i _ h => .inl h)
end

section
open Go.RowKit Go.Shelf

def stX (r : Rx) (s : Mx) : Mx × List Fa := if s.mode = 0 then (sgX r s, []) else if s.mode = 1 then gaX r s else (exX r s, [])
def inX (s : Mx) (b : Nat) : Mx := { s with tk := s.tk + 1, la := (s.la * 2 + b % 2) % 18446744073709551616 }
/-- what holds between two bits -/
structure Inv (r : Rx) (s : Mx) : Prop where
  la : s.la < 18446744073709551616
  mi : s.mi ≤ r.M
  mode : s.mode ≤ 2
  le : s.p ≤ s.tk
  m0 : s.mode = 0 → s.tk ≤ s.p + 31 ∧ s.tu = false ∧ s.mi = 0
  m1 : s.mode = 1 → s.da.length < r.L
  m2 : s.mode = 2 → s.tk ≤ s.p + 32 ∧ 1 ≤ s.p
/-- what holds behind a bit, ahead of the step -/
structure Mid (r : Rx) (s : Mx) : Prop where
  la : s.la < 18446744073709551616
  mi : s.mi ≤ r.M
  mode : s.mode ≤ 2
  le : s.p ≤ s.tk
  one : 1 ≤ s.tk
  m0 : s.mode = 0 → s.tk ≤ s.p + 32 ∧ s.tu = false ∧ s.mi = 0
  m1 : s.mode = 1 → s.da.length < r.L
  m2 : s.mode = 2 → s.tk ≤ s.p + 33 ∧ 1 ≤ s.p
theorem Inv.mid {r : Rx} {s : Mx} (h : Inv r s) (b : Nat) : Mid r (inX s b) := by
  refine ⟨Nat.mod_lt _ (by decide), h.mi, h.mode, Nat.le_succ_of_le h.le, Nat.succ_pos _, fun e => ?_, h.m1, fun e => ?_⟩
  · have := h.m0 e; exact ⟨by show s.tk + 1 ≤ s.p + 32; omega, this.2⟩
  · have := h.m2 e; exact ⟨by show s.tk + 1 ≤ s.p + 33; omega, this.2⟩
theorem bgX_inv {r : Rx} {s : Mx} (h : s.la < 18446744073709551616) (hL : 1 ≤ r.L) (q : Nat) (t : Bool) (m : Nat) (hm : m ≤ r.M) (hq : q ≤ s.tk) : Inv r (bgX s q t m) :=
  ⟨h, hm, (by show (1 : Nat) ≤ 2; decide), hq, fun e => absurd e (show ¬ (1 : Nat) = 0 by decide), fun _ => hL, fun e => absurd e (show ¬ (1 : Nat) = 2 by decide)⟩
theorem sgN_inv {r : Rx} (hL : 1 ≤ r.L) (N : Nat) : ∀ s : Mx, s.la < 18446744073709551616 → s.mode = 0 → s.tu = false → s.mi = 0 → s.p ≤ s.tk → s.tk + 1 - s.p ≤ N → Inv r (sgN r N s) := by
  induction N with
  | zero => intro s _ _ _ _ h5 h6; omega
  | succ N ih =>
    intro s h1 h2 h3 h4 h5 h6
    unfold sgN
    by_cases hlt : s.tk < s.p + 32
    · rw [if_pos hlt]
      exact ⟨h1, by omega, by omega, h5, fun _ => ⟨by omega, h3, h4⟩, fun e => by omega, fun e => by omega⟩
    · rw [if_neg hlt]
      split
      · exact bgX_inv h1 hL _ _ _ (Nat.zero_le _) h5
      · split
        · exact bgX_inv h1 hL _ _ _ (Nat.zero_le _) h5
        · exact ih _ h1 h2 h3 h4 (by show s.p + 1 ≤ s.tk; omega) (by show s.tk + 1 - (s.p + 1) ≤ N; omega)
theorem stX_inv {r : Rx} {s : Mx} (hL : 1 ≤ r.L) (h : Mid r s) : Inv r (stX r s).1 := by
  unfold stX
  have hsg : ∀ s' : Mx, s'.la < 18446744073709551616 → s'.mode = 0 → s'.tu = false → s'.mi = 0 → s'.p ≤ s'.tk → Inv r (sgX r s') := fun s' a b c d e => sgN_inv hL _ s' a b c d e (Nat.le_refl _)
  by_cases h0 : s.mode = 0
  · rw [if_pos h0]
    exact hsg s h.la h0 (h.m0 h0).2.1 (h.m0 h0).2.2 h.le
  · rw [if_neg h0]
    by_cases h1 : s.mode = 1
    · rw [if_pos h1]
      unfold gaX
      by_cases h8 : (s.tk - s.p) % 8 ≠ 0
      · rw [if_pos h8]
        exact ⟨h.la, h.mi, h.mode, h.le, fun e => absurd e h0, h.m1, fun e => absurd (h1.symm.trans e) (by decide)⟩
      · rw [if_neg h8]
        by_cases hf : s.da.length + 1 = r.L
        · rw [if_pos hf]
          exact ⟨h.la, h.mi, Nat.le_refl _, Nat.le_refl _, fun e => absurd e (show ¬ (2 : Nat) = 0 by decide), fun e => absurd e (show ¬ (2 : Nat) = 1 by decide), fun _ => ⟨by show s.tk ≤ s.tk + 32; omega, h.one⟩⟩
        · rw [if_neg hf]
          have := h.m1 h1
          exact ⟨h.la, h.mi, h.mode, h.le, fun e => absurd e h0, fun _ => by show (s.da ++ [_]).length < _; rw [List.length_append]; show _ + 1 < _; omega, fun e => absurd (h1.symm.trans e) (by decide)⟩
    · rw [if_neg h1]
      have h2 : s.mode = 2 := by have := h.mode; omega
      have hh := h.m2 h2
      unfold exX
      by_cases a : s.tk = s.p + 32
      · rw [if_pos a]
        split
        · exact bgX_inv h.la hL _ _ _ (Nat.zero_le _) h.le
        · exact ⟨h.la, h.mi, h.mode, h.le, fun e => absurd e h0, fun e => absurd e h1, fun _ => ⟨by show s.tk ≤ s.p + 32; omega, hh.2⟩⟩
      · rw [if_neg a]
        by_cases b : s.tk = s.p + 33
        · rw [if_pos b]
          unfold deX
          split
          · exact bgX_inv h.la hL _ _ _ (Nat.zero_le _) (by omega)
          · split
            · exact bgX_inv h.la hL _ _ _ (Nat.zero_le _) (by omega)
            · split
              · exact bgX_inv h.la hL _ _ _ (Nat.zero_le _) h.le
              · split
                · exact bgX_inv h.la hL _ _ _ (by omega) h.le
                · exact hsg _ h.la rfl rfl rfl h.le
        · rw [if_neg b]
          exact ⟨h.la, h.mi, h.mode, h.le, fun e => absurd e h0, fun e => absurd e h1, fun _ => ⟨by show s.tk ≤ s.p + 32; omega, hh.2⟩⟩
theorem FdB.apart_g {w : World} {g fb L F H M k : Nat} {lk : Bool} {tk la p : Nat} {tu : Bool} {mi : Nat} {d v dv : Value} {fs : List Fv} (h : FdB w fb v dv fs) (hB : SyB w g L F H M k lk tk la p tu mi d) :
    fb ≠ g ∧ (∀ x, v.ownBlock = some x → ¬ x = g) ∧ (∀ f, f ∈ fs → ∀ x, (Value.slice f.a f.n f.n).ownBlock = some x → ¬ x = g) := by
  refine ⟨fun e => ?_, fun x hx e => ?_, fun f hm x hx e => ?_⟩
  · subst e; exact cells_ne h.box hB (by decide)
  · obtain ⟨_, c2, h2⟩ := row_lt h.row hx
    subst e; exact cells_ne h2 hB (by decide)
  · obtain ⟨_, c2, h2⟩ := row_lt (h.ok f hm).1.own hx
    subst e; exact cells_ne h2 hB (by decide)
/-- what the step does, whatever its mode -/
theorem step_any (g fb : Nat) (r : Rx) (s : Mx) (dv v : Value) (fs : List Fv) (w : World) (h : SyM w g r s dv) (hf : FdB w fb v dv fs) (hM : Mid r s) (htk : s.tk ≤ 4611686018427387904) (hL : r.L ≤ 2048) (hF : r.F ≤ 64) (hMs : r.M ≤ 64) (hfs : fs.length ≤ 4194304) :
    Calls Try.prog (kM s.mode) #[.pointer (some ⟨g, 0, none⟩), .func (.func 27) #[] #[.pointer (some ⟨fb, 0, none⟩)]] w fun e w' => e = .returned (.tuple #[]) ∧ ∃ dv' v' fs', SyM w' g r (stX r s).1 dv' ∧ FdB w' fb v' dv' fs' ∧ fs'.map absF = fs.map absF ++ (stX r s).2 ∧
      (∀ x, dv'.ownBlock = some x → dv.ownBlock = some x ∨ w.heap.size ≤ x) ∧ (∀ x, v'.ownBlock = some x → v.ownBlock = some x ∨ w.heap.size ≤ x) ∧ Frm (Wr g fb dv v) w w' := by
  obtain ⟨p1, p2, p3⟩ := hf.apart_g h.blk
  by_cases h0 : s.mode = 0
  · obtain ⟨rfl, _⟩ := h.idle (by omega)
    have hk : kM s.mode = 32 := by rw [h0]; rfl
    rw [hk]
    have hst : stX r s = (sgX r s, []) := if_pos h0
    rw [hst]
    refine (searching_any g r s _ w h h0 (by have := hM.m0 h0; omega) hM.le htk hM.la hL hF (hM.m0 h0).2).mono ?_
    rintro e w' ⟨rfl, dv', hS, hN, hg⟩
    have F1 := Frm.of (p := fun k => k = g) hg (fun k e _ => (Option.some.inj e).symm)
    exact ⟨rfl, dv', v, fs, hS, hf.frm F1 p1 p2 p3 hN, by simp, hN, fun x hx => .inl hx, F1.weak (fun i _ h => .inl h)⟩
  · by_cases h1 : s.mode = 1
    · have hk : kM s.mode = 40 := by rw [h1]; rfl
      rw [hk]
      have hst : stX r s = gaX r s := by unfold stX; rw [if_neg h0, if_pos h1]
      rw [hst]
      by_cases h8 : (s.tk - s.p) % 8 = 0
      · by_cases hfull : s.da.length + 1 = r.L
        · have hg : gaX r s = ({ s with mode := 2, p := s.tk, da := [] }, [(s.p, s.tu, s.mi, scrL (tuD s.tu (s.da ++ [s.la % 256])))]) := by
            unfold gaX; rw [if_neg (by omega), if_pos hfull]
          rw [hg]
          refine (gather3_any g fb r s dv v fs w h hf h1 h8 hM.le htk hL hfull hfs).mono ?_
          rintro e w' ⟨rfl, v', f, hS, hF', ha, hn, hFr⟩
          exact ⟨rfl, _, v', _, hS, hF', by rw [List.map_append, ← ha]; rfl, fun x hx => by simp [Value.ownBlock] at hx, hn, hFr⟩
        · have hg : gaX r s = ({ s with da := s.da ++ [s.la % 256] }, []) := by
            unfold gaX; rw [if_neg (by omega), if_neg hfull]
          rw [hg]
          have := hM.m1 h1
          refine (gather2_any g fb r s dv v fs w h hf h1 h8 hM.le htk hL (by omega)).mono ?_
          rintro e w' ⟨rfl, dv', hS, hF', hd, hFr⟩
          exact ⟨rfl, dv', v, fs, hS, hF', by simp, fun x hx => .inl (by rw [← hd]; exact hx), fun x hx => .inl hx, hFr⟩
      · have hg : gaX r s = (s, []) := by unfold gaX; rw [if_pos h8]
        rw [hg]
        refine (gather1_any g fb r s dv v fs w h hf h1 h8 hM.le htk).mono ?_
        rintro e w' ⟨rfl, n, rfl⟩
        have F1 := Frm.of (p := fun _ => False) (grown_drewN w n none) (fun k e _ => by cases e)
        refine ⟨rfl, dv, v, fs, ⟨h.blk.keep (grown_drewN _ _ _), h.idle, fun e => ?_⟩, hf.frm F1 (fun h => h) (fun _ _ h => h) (fun _ _ _ _ h => h) (fun x hx => .inl hx), by simp, fun x hx => .inl hx, fun x hx => .inl hx, F1.weak (fun i _ h => h.elim)⟩
        obtain ⟨gd, a1, a2, a3, a4⟩ := h.busy e
        exact ⟨gd, a1, a2, row_frm a3 F1 (fun _ _ h => h), a4⟩
    · have h2 : s.mode = 2 := by have := hM.mode; omega
      obtain ⟨rfl, _⟩ := h.idle (by omega)
      have hk : kM s.mode = 43 := by rw [h2]; rfl
      rw [hk]
      have hst : stX r s = (exX r s, []) := by unfold stX; rw [if_neg h0, if_neg h1]
      rw [hst]
      have hmi := hM.mi
      refine (expecting_any g r s _ w h h2 (hM.m2 h2).1 hM.le (hM.m2 h2).2 htk hM.la hL hF (by omega)).mono ?_
      rintro e w' ⟨rfl, dv', hS, hN, hg⟩
      have F1 := Frm.of (p := fun k => k = g) hg (fun k e _ => (Option.some.inj e).symm)
      exact ⟨rfl, dv', v, fs, hS, hf.frm F1 p1 p2 p3 hN, by simp, hN, fun x hx => .inl hx, F1.weak (fun i _ h => .inl h)⟩
end

section
open Go.RowKit Go.Shelf

/-- n bits are taken: the machine behind them, and what was told -/
def tkX (r : Rx) (s : Mx) (B : List Nat) : Nat → Mx × List Fa
  | 0 => (s, [])
  | n + 1 => ((stX r (inX (tkX r s B n).1 (nth B n))).1, (tkX r s B n).2 ++ (stX r (inX (tkX r s B n).1 (nth B n))).2)
theorem stX_tk (r : Rx) (s : Mx) : (stX r s).1.tk = s.tk := by
  have hsg : ∀ N s', (sgN r N s').tk = s'.tk := by
    intro N
    induction N with
    | zero => intro s'; rfl
    | succ N ih => intro s'; unfold sgN; split
                   · rfl
                   · split
                     · rfl
                     · split
                       · rfl
                       · rw [ih]
  unfold stX gaX exX deX bgX sgX
  repeat' split
  all_goals first | rfl | exact hsg _ _ | (simp only [hsg])
theorem stX_len (r : Rx) (s : Mx) : (stX r s).2.length ≤ 1 := by
  unfold stX gaX
  repeat' split
  all_goals simp
theorem tkX_tk (r : Rx) (s : Mx) (B : List Nat) (n : Nat) : (tkX r s B n).1.tk = s.tk + n := by
  induction n with
  | zero => rfl
  | succ n ih => show (stX r _).1.tk = _; rw [stX_tk]; show (tkX r s B n).1.tk + 1 = _; rw [ih]; omega
theorem tkX_len (r : Rx) (s : Mx) (B : List Nat) (n : Nat) : (tkX r s B n).2.length ≤ n := by
  induction n with
  | zero => exact Nat.le_refl _
  | succ n ih => show ((tkX r s B n).2 ++ _).length ≤ _; rw [List.length_append]; have := stX_len r (inX (tkX r s B n).1 (nth B n)); omega
theorem tkX_inv {r : Rx} (hL : 1 ≤ r.L) {s : Mx} (h : Inv r s) (B : List Nat) (n : Nat) : Inv r (tkX r s B n).1 := by
  induction n with
  | zero => exact h
  | succ n ih => exact stX_inv hL (ih.mid _)
theorem or_bit (la b : Nat) (hla : la < 18446744073709551616) : bits .or .u64 ((la : Int) * 2 % 18446744073709551616) ((b % 2 : Nat) : Int) = (((la * 2 + b % 2) % 18446744073709551616 : Nat) : Int) := by
  have e : (la : Int) * 2 % 18446744073709551616 = ((la * 2 % 18446744073709551616 : Nat) : Int) := by omega
  rw [e, u64_or_nat _ _ (Nat.mod_lt _ (by decide)) (by omega)]
  refine congrArg _ ?_
  have h2 : la * 2 % 18446744073709551616 = (la % 9223372036854775808) <<< 1 := by rw [Nat.shiftLeft_eq]; omega
  have h3 := Nat.shiftLeft_add_eq_or_of_lt (show b % 2 < 2 ^ 1 by omega) (la % 9223372036854775808)
  rw [h2, ← h3, Nat.shiftLeft_eq]
  omega
theorem wrap_u64' (x : Int) : IntKind.u64.wrap x = x % 18446744073709551616 := by simp [IntKind.wrap, IntKind.bits, IntKind.signed]
theorem and_bit : ∀ b : Nat, b < 256 → bits .and .u8 (b : Int) 1 = ((b % 2 : Nat) : Int) := by decide +kernel
set_option maxHeartbeats 4000000 in
theorem take_any (g : Nat) (r : Rx) (s : Mx) (dv : Value) (a : Option Addr) (n cap : Nat) (B : List Nat) (w : World) (h : SyM w g r s dv) (hI : Inv r s) (hp : Rd w a n cap B) (hsep : 0 < n → ∀ b off, a = some ⟨b, off, none⟩ → b ≠ g ∧ some b ≠ dv.ownBlock) (hn : n ≤ 4194304) (htk : s.tk + n ≤ 4611686018427387904) (hL1 : 1 ≤ r.L) (hL : r.L ≤ 2048) (hF : r.F ≤ 64) (hMs : r.M ≤ 64) :
    Calls Try.prog 17 #[.pointer (some ⟨g, 0, none⟩), .slice a n cap] w fun e w' => e = .returned (.func (.func 28) #[] #[.pointer (some ⟨w.heap.size, 0, none⟩)]) ∧ ∃ dv' v' fs', SyM w' g r (tkX r s B n).1 dv' ∧ FdB w' w.heap.size v' dv' fs' ∧ fs'.map absF = (tkX r s B n).2 ∧
      (∀ x, dv'.ownBlock = some x → dv.ownBlock = some x ∨ w.heap.size ≤ x) ∧ (∀ x, v'.ownBlock = some x → w.heap.size ≤ x) ∧ Frm (fun k => k = g ∨ some k = dv.ownBlock) w w' := by
  have bx := Boxed.new w 33 (.slice none 0 0)
  have gA := World.grownBy_alloc w (.cells #[.slice none 0 0] 33) none
  have hszA : w.heap.size + 1 = (w.alloc (.cells #[.slice none 0 0] 33)).heap.size := by simp
  have FA := Frm.of (p := fun k => k = g ∨ some k = dv.ownBlock) gA (fun k e _ => by cases e)
  have hA : SyM (w.alloc (.cells #[.slice none 0 0] 33)) g r s dv := ⟨h.blk.keep gA, h.idle, fun e => by
    obtain ⟨gd, a1, a2, a3, a4⟩ := h.busy e
    exact ⟨gd, a1, a2, a3.alloc _, a4⟩⟩
  have hfA : FdB (w.alloc (.cells #[.slice none 0 0] 33)) w.heap.size (.slice none 0 0) dv [] := ⟨bx, World.ownsRow_nil _ _ _ _, fun f hf => by cases hf⟩
  go_enter Try.func17, Try.ntmps17
  go_wp2
  generalize w.alloc (.cells #[.slice none 0 0] 33) = wa at *
  go_loopw [12] (fun i wr => ∃ (k : Nat) (dv' v' : Value) (fs' : List Fv), k ≤ n ∧ i = .int .i64 k ∧ SyM wr g r (tkX r s B k).1 dv' ∧ FdB wr w.heap.size v' dv' fs' ∧ Hid (fs'.map absF = (tkX r s B k).2) ∧ (∀ x, dv'.ownBlock = some x → dv.ownBlock = some x ∨ w.heap.size ≤ x) ∧ (∀ x, v'.ownBlock = some x → w.heap.size ≤ x) ∧ Frm (fun k => k = g ∨ some k = dv.ownBlock) w wr) (fun i _ => n - (intOf i).toNat)
  case atStart => exact ⟨0, dv, .slice none 0 0, [], Nat.zero_le _, rfl, hA, hfA, rfl, fun x hx => .inl hx, fun x hx => by simp [Value.ownBlock] at hx, FA⟩
  case round =>
    obtain ⟨k, dv', v', fs', hk, rfl, hS, hfd, HA, hN1, hN2, hFr⟩ := hrel
    by_cases hlt : k < n
    · have hIk := tkX_inv hL1 hI B k
      have htkk := tkX_tk r s B k
      have hlk := tkX_len r s B k
      have hfl : fs'.length ≤ 4194304 := by have := congrArg List.length HA.out; rw [List.length_map] at this; omega
      have HX : Hid (tkX r s B (k + 1) = ((stX r (inX (tkX r s B k).1 (nth B k))).1, (tkX r s B k).2 ++ (stX r (inX (tkX r s B k).1 (nth B k))).2)) := rfl
      generalize tkX r s B k = q at *
      obtain ⟨⟨mode, tk, la, p, tu, mi, da⟩, outs⟩ := q
      simp only at hIk htkk hlk
      obtain ⟨b0, off, ha0, _, _⟩ := hp.at' (by omega)
      have hsp := hsep (by omega) b0 off ha0
      subst ha0
      have hB : SyB wr g r.L r.F r.H r.M (kM mode) (mode != 0) tk la p tu mi dv' := hS.blk
      have hc : wr.cell? ⟨b0, off + k, none⟩ = some (.int .u8 (nth B k : Nat)) := by
        obtain ⟨b', off', e', hb', hcc⟩ := hp.at' (by omega)
        cases e'
        exact (World.cell?_of_block (hFr.block b0 hb' (fun h => h.elim hsp.1 hsp.2))).trans (hcc k hlt)
      have hbl := hp.byte.nth k
      have hla := hIk.la
      simp only at hla
      obtain ⟨la2, hla2⟩ : ∃ la2, la2 = (la * 2 + nth B k % 2) % 18446744073709551616 := ⟨_, rfl⟩
      have HOB : Hid (bits .or .u64 (IntKind.u64.wrap ((la : Int) * 2)) (IntKind.u64.wrap (bits .and .u8 ((nth B k : Nat) : Int) 1)) = (la2 : Int)) := by
        show _ = _
        rw [and_bit (nth B k) hbl, hla2, ← or_bit la (nth B k) hla, wrap_u64' , wrap_u64']
        congr 1
        omega
      have HLA2 : Hid (inX ⟨mode, tk, la, p, tu, mi, da⟩ (nth B k) = ⟨mode, tk + 1, la2, p, tu, mi, da⟩) := by
        show _ = _
        unfold inX
        rw [hla2]
      clear hla2 hla
      have c7 := hB.c 7 (.int .u64 la) rfl
      have HFr : Hid (Frm (fun k => k = g ∨ some k = dv.ownBlock) w wr) := hFr
      have HN1 : Hid (∀ x, dv'.ownBlock = some x → dv.ownBlock = some x ∨ w.heap.size ≤ x) := hN1
      have HN2 : Hid (∀ x, v'.ownBlock = some x → w.heap.size ≤ x) := hN2
      have HSx : Hid (SyM wr g r ⟨mode, tk, la, p, tu, mi, da⟩ dv') := hS
      have HFd : Hid (FdB wr w.heap.size v' dv' fs') := hfd
      have HIk : Hid (Inv r ⟨mode, tk, la, p, tu, mi, da⟩) := hIk
      have HP : Hid (Rd w (some ⟨b0, off, none⟩) n cap B) := hp
      have HTk : Hid (tk = s.tk + k) := htkk
      have htl : tk ≤ 4611686018427387903 := by omega
      clear hFr hN1 hN2 hS hfd hIk hp hsep hsp hI h hA hfA bx gA FA htkk
      have HC6 : Hid (∀ w1, SyB w1 g r.L r.F r.H r.M (kM mode) (mode != 0) tk la2 p tu mi dv' → w1.cell? ⟨g, 6, none⟩ = some (.int .i64 tk)) := fun w1 h => h.c 6 (.int .i64 tk) rfl
      have HC4 : Hid (∀ w1, SyB w1 g r.L r.F r.H r.M (kM mode) (mode != 0) (tk + 1) la2 p tu mi dv' → w1.cell? ⟨g, 4, none⟩ = some (.func (.func (kM mode)) #[] #[])) := fun w1 h => h.c 4 (.func (.func (kM mode)) #[] #[]) rfl
      have HST : Hid (∀ w2, SyB w2 g r.L r.F r.H r.M (kM mode) (mode != 0) (tk + 1) la2 p tu mi dv' → wr.grownBy w2 (some g) → Calls Try.prog (kM mode) #[.pointer (some ⟨g, 0, none⟩), .func (.func 27) #[] #[.pointer (some ⟨w.heap.size, 0, none⟩)]] w2 fun e w' => e = .returned (.tuple #[]) ∧ ∃ dv3 v3 fs3, SyM w' g r (stX r (inX ⟨mode, tk, la, p, tu, mi, da⟩ (nth B k))).1 dv3 ∧ FdB w' w.heap.size v3 dv3 fs3 ∧ fs3.map absF = fs'.map absF ++ (stX r (inX ⟨mode, tk, la, p, tu, mi, da⟩ (nth B k))).2 ∧
          (∀ x, dv3.ownBlock = some x → dv'.ownBlock = some x ∨ w2.heap.size ≤ x) ∧ (∀ x, v3.ownBlock = some x → v'.ownBlock = some x ∨ w2.heap.size ≤ x) ∧ Frm (Wr g w.heap.size dv' v') w2 w') := by
        intro w2 h2 hg2
        have F1 := Frm.of (p := fun k => k = g) hg2 (fun k e _ => (Option.some.inj e).symm)
        obtain ⟨p1, p2, p3⟩ := HFd.out.apart_g hB
        have hmid := HIk.out.mid (nth B k)
        rw [HLA2.out] at hmid ⊢
        refine step_any g w.heap.size r ⟨mode, tk + 1, la2, p, tu, mi, da⟩ dv' v' fs' w2 ⟨h2, HSx.out.idle, fun e => ?_⟩ (HFd.out.frm F1 p1 p2 p3 (fun x hx => .inl hx)) hmid (by show tk + 1 ≤ _; omega) hL hF hMs hfl
        obtain ⟨gd, a1, a2, a3, a4⟩ := HSx.out.busy e
        refine ⟨gd, a1, a2, row_frm a3 F1 (fun x hx e => ?_), a4⟩
        simp only at a1
        rw [a1] at hx
        have e2 : gd = x := Option.some.inj hx
        exact a2 (e2.trans e)
      have hmode : mode = 0 ∨ mode = 1 ∨ mode = 2 := by have := HIk.out.mode; simp only at this; omega
      clear c7
      have c7 := hB.c 7 (.int .u64 la) rfl
      have t1 : True := trivial
      rcases hmode with rfl | rfl | rfl
      all_goals
        go_wp2_with (first
          | (have _t := t1; clear t1; refine wpList_stS _ rfl _ (.tmp 27) (.tmp 25) rfl g 7 _ _ (.int .u64 (la2 : Nat)) rfl (congrArg (Value.int .u64) HOB.out) hB (st_u64 g 7 _) (by rw [syS]; decide) (sy7 (n := la2) ..) ?_; intro w1 h1 g1; have c6 := HC6.out w1 h1; have t2 : True := trivial)
          | (have _t := t2; clear t2; refine wpList_stS _ rfl _ (.tmp 34) (.tmp 32) rfl g 6 _ _ (.int .i64 ((tk + 1 : Nat) : Int)) rfl rfl h1 (st_int g 6 _) (by rw [syS]; decide) (sy6 (n := tk + 1) ..) ?_; intro w2 h2 g2; have c4 := HC4.out w2 h2; simp only [kM] at c4; have t3 : True := trivial)
          | (go_at_call 32; have _t := t3; clear t3; refine (HST.out w2 h2 (grown_trans g1 g2)).mono ?_; rintro e w3 ⟨rfl, dv3, v3, fs3, hS3, hF3, ha3, hd3, hv3, hFr3⟩)
          | (go_at_call 40; have _t := t3; clear t3; refine (HST.out w2 h2 (grown_trans g1 g2)).mono ?_; rintro e w3 ⟨rfl, dv3, v3, fs3, hS3, hF3, ha3, hd3, hv3, hFr3⟩)
          | (go_at_call 43; have _t := t3; clear t3; refine (HST.out w2 h2 (grown_trans g1 g2)).mono ?_; rintro e w3 ⟨rfl, dv3, v3, fs3, hS3, hF3, ha3, hd3, hv3, hFr3⟩))
        go_roundw
        case rel =>
          have hs2 := (grown_trans g1 g2).size
          have hsw := HFr.out.size
          have F2 := Frm.of (p := fun k => k = g) (grown_trans g1 g2) (fun k e _ => (Option.some.inj e).symm)
          refine ⟨k + 1, dv3, v3, fs3, by omega, by go_num, by rw [HX.out]; exact hS3, hF3, by rw [HX.out]; exact ha3.trans (by rw [HA.out]), fun x hx => ?_, fun x hx => ?_, ?_⟩
          · rcases hd3 x hx with h | h
            · exact HN1.out x h
            · exact .inr (by omega)
          · rcases hv3 x hx with h | h
            · exact HN2.out x h
            · omega
          · refine (HFr.out.trans F2 (fun i _ h => .inl h)).trans hFr3 (fun i hi h => ?_)
            rcases h with h | h | h | h
            · exact .inl h
            · rcases HN1.out i h.symm with h2 | h2
              · exact .inr h2.symm
              · omega
            · omega
            · have := HN2.out i h.symm; omega
        case measure => simp [intOf]; omega
    · obtain rfl : k = n := by omega
      go_wp2
      go_ret
      exact ⟨rfl, dv', v', fs', hS, hfd, HA.out, hN1, hN2, hFr⟩
end

section
open Go.RowKit Go.Shelf

/-- bits that come in pieces come as if they came at once -/
theorem tkX_congr (r : Rx) (s : Mx) (A B : List Nat) (n : Nat) (h : ∀ i, i < n → nth A i = nth B i) : tkX r s A n = tkX r s B n := by
  induction n with
  | zero => rfl
  | succ n ih =>
    have e := ih (fun i hi => h i (by omega))
    show (_, _) = (_, _)
    rw [e, h n (by omega)]
theorem tkX_add (r : Rx) (s : Mx) (A B : List Nat) (n : Nat) : tkX r s (A ++ B) (A.length + n) = ((tkX r (tkX r s A A.length).1 B n).1, (tkX r s A A.length).2 ++ (tkX r (tkX r s A A.length).1 B n).2) := by
  induction n with
  | zero =>
    rw [Nat.add_zero, tkX_congr r s (A ++ B) A A.length (fun i hi => nth_append_left _ _ _ hi)]
    show _ = (_, _ ++ [])
    rw [List.append_nil]; rfl
  | succ n ih =>
    have e : nth (A ++ B) (A.length + n) = nth B n := by
      unfold nth
      rw [List.getD_eq_getElem?_getD, List.getD_eq_getElem?_getD, List.getElem?_append_right (by omega), Nat.add_sub_cancel_left]
    rw [show A.length + (n + 1) = (A.length + n) + 1 from by omega]
    show ((stX r (inX (tkX r s (A ++ B) (A.length + n)).1 _)).1, (tkX r s (A ++ B) (A.length + n)).2 ++ (stX r (inX (tkX r s (A ++ B) (A.length + n)).1 _)).2) = _
    rw [ih, e, List.append_assoc]
    rfl
theorem clone_any (b off n cap : Nat) (D : List Nat) (w : World) (hp : Rd w (some ⟨b, off, none⟩) n cap D) (h0 : 0 < n) (hn : n ≤ 140737488351232) :
    Calls Try.prog 29 #[.slice (some ⟨b, off, none⟩) n cap] w fun e w' => ∃ g' c', e = .returned (.slice (some ⟨g', 0, none⟩) n c') ∧ Ans w' w.heap.size (some ⟨g', 0, none⟩) n c' D ∧ w.grownBy w' none := by
  have gA := World.grownBy_alloc w (.cells #[] 5) none
  have hA := heap_alloc_new w (.cells #[] 5)
  have hown : (w.alloc (.cells #[] 5)).ownsRow 0 5 1 (.slice (some ⟨w.heap.size, 0, none⟩) 0 0) 0 (bys []) := ⟨rfl, .inr ⟨w.heap.size, 0, #[], rfl, Nat.zero_le _, hA, Nat.le_refl _, Nat.zero_le _, rfl, rfl⟩⟩
  have hpA := hp.keep gA
  have heq := fun w => Lib.run_eql_slice_nil (P := Try.prog) w 25 5 (some ⟨b, off, none⟩) n cap 0 0 Try.underlying25
  go_enter Try.func29, Try.ntmps29
  go_wp2_with (at_builtin; refine wpList_apB _ rfl _ _ rfl (.slice (some ⟨w.heap.size, 0, none⟩) 0 0) 0 (bys []) rfl hown ⟨b, off, none⟩ n cap (bys D) rfl (by rw [bys_length, hp.len]) (rd_news hpA h0) (bys_one _) h0 (by omega) ?_; intro g' c' w2 hg2 hgr2 hown2)
  go_ret
  rw [Nat.zero_add] at *
  refine ⟨g', c', rfl, ⟨hown2, hp.byte, fun x hx => ?_⟩, grown_far gA hgr2 (fun x hx => by have e : w.heap.size = x := Option.some.inj hx; omega)⟩
  have e : g' = x := Option.some.inj hx
  rcases hg2 with h | h
  · have e2 : w.heap.size = g' := Option.some.inj h
    omega
  · simp at h; omega
end
end Go.Proofs.Ythdjpbfknbafgaa
