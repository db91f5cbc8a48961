import Derived.Test.YthdjpbfknbafgaaTSy3
namespace Go.Proofs.Ythdjpbfknbafgaa
open Go.RowKit
set_option maxRecDepth 100000
set_option linter.unusedVariables false
set_option linter.unusedSimpArgs false

def deX (r : Rx) (s : Mx) : Mx :=
  if wrX s (s.p - 1) s.tu ≤ r.F then bgX s (s.p - 1) s.tu 0
  else if wrX s (s.p + 1) s.tu ≤ r.F then bgX s (s.p + 1) s.tu 0
  else if wrX s s.p (!s.tu) ≤ r.H then bgX s s.p (!s.tu) 0
  else if s.mi < r.M then bgX s s.p s.tu (s.mi + 1)
  else sgX r { s with mode := 0, tu := false, mi := 0 }
def exX (r : Rx) (s : Mx) : Mx := if s.tk = s.p + 32 then (if wrX s s.p s.tu ≤ r.H then bgX s s.p s.tu 0 else s) else if s.tk = s.p + 33 then deX r s else s
theorem begun {w w2 : World} {g gd L F H M tk la q m : Nat} {t : Bool} {s : Mx} (hB2 : SyB w2 g L F H M 40 true tk la q t m (.slice (some ⟨gd, 0, none⟩) 0 L)) (hgd : w.heap.size ≤ gd) (hgl : g < w.heap.size) (hrow : w2.ownsRow 0 5 1 (.slice (some ⟨gd, 0, none⟩) 0 L) 0 []) (hs : s = ⟨1, tk, la, q, t, m, []⟩) :
    SyM w2 g ⟨L, F, H, M⟩ s (.slice (some ⟨gd, 0, none⟩) 0 L) ∧ NewD w (.slice none 0 0) (.slice (some ⟨gd, 0, none⟩) 0 L) := by
  subst hs
  refine ⟨⟨hB2, fun h => absurd rfl h, fun _ => ⟨gd, rfl, by omega, hrow, fun x hx => by cases hx⟩⟩, fun x hx => .inr ?_⟩
  have e : gd = x := Option.some.inj hx
  omega
set_option maxHeartbeats 8000000 in
theorem decide_any (g : Nat) (r : Rx) (s : Mx) (tv : Value) (w : World) (h : SyM w g r s (.slice none 0 0)) (hm : s.mode = 2) (hk : s.tk = s.p + 33) (hp : 1 ≤ s.p) (htk : s.tk ≤ 4611686018427387904) (hla : s.la < 18446744073709551616) (hL : r.L ≤ 2048) (hF : r.F ≤ 64) (hmi : s.mi ≤ 64) :
    Calls Try.prog 44 #[.pointer (some ⟨g, 0, none⟩), tv] w fun e w' => e = .returned (.tuple #[]) ∧ ∃ dv', SyM w' g r (deX r s) dv' ∧ NewD w (.slice none 0 0) dv' ∧ w.grownBy w' (some g) := by
  obtain ⟨mode, tk, la, p, tu, mi, da⟩ := s
  obtain ⟨L, F, H, M⟩ := r
  simp only at hm hk hp htk hla hL hF hmi
  subst hm
  obtain ⟨hB, hid, _⟩ := h
  obtain ⟨_, hda⟩ := hid (show (2 : Nat) ≠ 1 by decide)
  simp only at hda
  subst hda
  have hB0 : SyB w g L F H M 43 true tk la p tu mi (.slice none 0 0) := hB
  clear hB hid
  have hgl := hB0.lt
  obtain ⟨pm, hpm⟩ : ∃ pm, p = pm + 1 := ⟨p - 1, by omega⟩
  obtain ⟨pp, hpp⟩ : ∃ pp, pp = p + 1 := ⟨_, rfl⟩
  have e1 : (p : Int) - 1 = (pm : Int) := by omega
  have e2 : (p : Int) + 1 = (pp : Int) := by omega
  have e3 : IntKind.i64.wrap ((p : Int) - 1) = (pm : Int) := by rw [wrap_i64_in _ (by omega) (by omega)]; exact e1
  have e4 : IntKind.i64.wrap ((p : Int) + 1) = (pp : Int) := by rw [wrap_i64_in _ (by omega) (by omega)]; exact e2
  have e6 : IntKind.i64.wrap (pm : Int) = (pm : Int) := wrap_i64_in _ (by omega) (by omega)
  have e7 : IntKind.i64.wrap (pp : Int) = (pp : Int) := wrap_i64_in _ (by omega) (by omega)
  have e5 : IntKind.i64.wrap ((mi : Int) + 1) = ((mi + 1 : Nat) : Int) := by rw [wrap_i64_in _ (by omega) (by omega)]; omega
  have Q1 := fun w1 (hB : SyB w1 g L F H M 43 true tk la p tu mi (.slice none 0 0)) m => Calls.quiet_of (n := m) (wrong_any g L F H M 43 true tk la p tu mi (.slice none 0 0) (pm : Int) pm 2 tu rfl (by omega) (by decide) htk hla (w1.drewN m) (hB.keep (grown_drewN _ _ _)))
  have Q2 := fun w1 (hB : SyB w1 g L F H M 43 true tk la p tu mi (.slice none 0 0)) m => Calls.quiet_of (n := m) (wrong_any g L F H M 43 true tk la p tu mi (.slice none 0 0) (pp : Int) pp 0 tu rfl (by omega) (by decide) htk hla (w1.drewN m) (hB.keep (grown_drewN _ _ _)))
  have Q3 := fun w1 (hB : SyB w1 g L F H M 43 true tk la p tu mi (.slice none 0 0)) m => Calls.quiet_of (n := m) (wrong_any g L F H M 43 true tk la p tu mi (.slice none 0 0) (p : Int) p 1 (!tu) rfl (by omega) (by decide) htk hla (w1.drewN m) (hB.keep (grown_drewN _ _ _)))
  have W1 : wrX ⟨2, tk, la, p, tu, mi, []⟩ (p - 1) tu = wrV la 2 tu := by show wrV la (tk - (p - 1) - 32) tu = _; rw [show tk - (p - 1) - 32 = 2 from by omega]
  have W2 : wrX ⟨2, tk, la, p, tu, mi, []⟩ (p + 1) tu = wrV la 0 tu := by show wrV la (tk - (p + 1) - 32) tu = _; rw [show tk - (p + 1) - 32 = 0 from by omega]
  have W3 : wrX ⟨2, tk, la, p, tu, mi, []⟩ p (!tu) = wrV la 1 (!tu) := by show wrV la (tk - p - 32) (!tu) = _; rw [show tk - p - 32 = 1 from by omega]
  have HD : Hid (deX ⟨L, F, H, M⟩ ⟨2, tk, la, p, tu, mi, []⟩ = if wrV la 2 tu ≤ F then ⟨1, tk, la, pm, tu, 0, []⟩ else if wrV la 0 tu ≤ F then ⟨1, tk, la, pp, tu, 0, []⟩ else if wrV la 1 (!tu) ≤ H then ⟨1, tk, la, p, !tu, 0, []⟩ else if mi < M then ⟨1, tk, la, p, tu, mi + 1, []⟩ else sgX ⟨L, F, H, M⟩ ⟨0, tk, la, p, false, 0, []⟩) := by
    show _ = _
    unfold deX
    simp only [W1, W2, W3]
    unfold bgX
    rw [show p - 1 = pm from by omega, hpp]
  have HK : Hid (tk = p + 33) := hk
  clear W1 W2 W3 hk hpm hpp
  have G0 := World.grownBy.refl w none
  have cFw := hB0.c 1 (.int .i64 F) rfl
  have cHw := hB0.c 2 (.int .i64 H) rfl
  have cMw := hB0.c 3 (.int .i64 M) rfl
  have c8w := hB0.c 8 (.int .i64 p) rfl
  have c9w := hB0.c 9 (.bool tu) rfl
  have cmw := hB0.c 10 (.int .i64 mi) rfl
  by_cases h1 : wrV la 2 tu ≤ F
  · have h1' : ((wrV la 2 tu : Nat) : Int) ≤ (F : Int) := by omega
    go_enter Try.func44, Try.ntmps44
    go_wp2
    have hq0 := Q1 w hB0
    go_quiet (first | (go_at_call 36; with_reducible exact hq0 _))
    clear hq0
    have hB1 := hB0.keep (grown_drewN w nq none)
    have G1 := grown_trans G0 (grown_drewN w nq none)
    generalize w.drewN nq = w1 at hB1 G1 ⊢
    clear cFw cHw cMw c8w c9w cmw
    have cFw1 := hB1.c 1 (.int .i64 F) rfl
    have cHw1 := hB1.c 2 (.int .i64 H) rfl
    have cMw1 := hB1.c 3 (.int .i64 M) rfl
    have c8w1 := hB1.c 8 (.int .i64 p) rfl
    have c9w1 := hB1.c 9 (.bool tu) rfl
    have cmw1 := hB1.c 10 (.int .i64 mi) rfl
    go_wp2
    have HB := fun w' (hg : w1.grownBy w' none) => begin_any g L F H M 43 true tk la p tu mi (.slice none 0 0) (pm : Int) 0 pm 0 tu rfl rfl hL w' (hB1.keep hg)
    go_region_with (go_at_call 37; refine (HB _ (by repeat (first | exact World.grownBy.refl _ _ | refine grown_trans ?_ (grown_drew _ _) | refine grown_trans ?_ (grown_drewN _ _ _)))).mono ?_; rintro e wb ⟨rfl, gd, hgd, hBb, hrowb, gb⟩)
    all_goals
      have hsz := G1.size
      go_wp2
      go_end0
      have R := begun (w := w) (s := deX ⟨L, F, H, M⟩ ⟨2, tk, la, p, tu, mi, []⟩) hBb (Nat.le_trans hsz hgd) hgl hrowb (by rw [HD.out, if_pos h1])
      exact ⟨rfl, _, R.1, R.2, grown_trans (grown_weak G1 _) (grown_trans (grown_drewN _ _ _) gb)⟩
  · have h1' : ¬ ((wrV la 2 tu : Nat) : Int) ≤ (F : Int) := by omega
    by_cases h2 : wrV la 0 tu ≤ F
    · have h2' : ((wrV la 0 tu : Nat) : Int) ≤ (F : Int) := by omega
      go_enter Try.func44, Try.ntmps44
      go_wp2
      have hq0 := Q1 w hB0
      go_quiet (first | (go_at_call 36; with_reducible exact hq0 _))
      clear hq0
      have hB1 := hB0.keep (grown_drewN w nq none)
      have G1 := grown_trans G0 (grown_drewN w nq none)
      generalize w.drewN nq = w1 at hB1 G1 ⊢
      clear cFw cHw cMw c8w c9w cmw
      have cFw1 := hB1.c 1 (.int .i64 F) rfl
      have cHw1 := hB1.c 2 (.int .i64 H) rfl
      have cMw1 := hB1.c 3 (.int .i64 M) rfl
      have c8w1 := hB1.c 8 (.int .i64 p) rfl
      have c9w1 := hB1.c 9 (.bool tu) rfl
      have cmw1 := hB1.c 10 (.int .i64 mi) rfl
      go_wp2
      have hq1 := Q2 w1 hB1
      go_quiet (first | (go_at_call 36; with_reducible exact hq1 _))
      clear hq1
      have hB2 := hB1.keep (grown_drewN w1 nq none)
      have G2 := grown_trans G1 (grown_drewN w1 nq none)
      generalize w1.drewN nq = w2 at hB2 G2 ⊢
      clear cFw1 cHw1 cMw1 c8w1 c9w1 cmw1
      have cFw2 := hB2.c 1 (.int .i64 F) rfl
      have cHw2 := hB2.c 2 (.int .i64 H) rfl
      have cMw2 := hB2.c 3 (.int .i64 M) rfl
      have c8w2 := hB2.c 8 (.int .i64 p) rfl
      have c9w2 := hB2.c 9 (.bool tu) rfl
      have cmw2 := hB2.c 10 (.int .i64 mi) rfl
      go_wp2
      have HB := fun w' (hg : w2.grownBy w' none) => begin_any g L F H M 43 true tk la p tu mi (.slice none 0 0) (pp : Int) 0 pp 0 tu rfl rfl hL w' (hB2.keep hg)
      go_region_with (go_at_call 37; refine (HB _ (by repeat (first | exact World.grownBy.refl _ _ | refine grown_trans ?_ (grown_drew _ _) | refine grown_trans ?_ (grown_drewN _ _ _)))).mono ?_; rintro e wb ⟨rfl, gd, hgd, hBb, hrowb, gb⟩)
      all_goals
        have hsz := G2.size
        go_wp2
        go_end0
        have R := begun (w := w) (s := deX ⟨L, F, H, M⟩ ⟨2, tk, la, p, tu, mi, []⟩) hBb (Nat.le_trans hsz hgd) hgl hrowb (by rw [HD.out, if_neg h1, if_pos h2])
        exact ⟨rfl, _, R.1, R.2, grown_trans (grown_weak G2 _) (grown_trans (grown_drewN _ _ _) gb)⟩
    · have h2' : ¬ ((wrV la 0 tu : Nat) : Int) ≤ (F : Int) := by omega
      by_cases h3 : wrV la 1 (!tu) ≤ H
      · have h3' : ((wrV la 1 (!tu) : Nat) : Int) ≤ (H : Int) := by omega
        go_enter Try.func44, Try.ntmps44
        go_wp2
        have hq0 := Q1 w hB0
        go_quiet (first | (go_at_call 36; with_reducible exact hq0 _))
        clear hq0
        have hB1 := hB0.keep (grown_drewN w nq none)
        have G1 := grown_trans G0 (grown_drewN w nq none)
        generalize w.drewN nq = w1 at hB1 G1 ⊢
        clear cFw cHw cMw c8w c9w cmw
        have cFw1 := hB1.c 1 (.int .i64 F) rfl
        have cHw1 := hB1.c 2 (.int .i64 H) rfl
        have cMw1 := hB1.c 3 (.int .i64 M) rfl
        have c8w1 := hB1.c 8 (.int .i64 p) rfl
        have c9w1 := hB1.c 9 (.bool tu) rfl
        have cmw1 := hB1.c 10 (.int .i64 mi) rfl
        go_wp2
        have hq1 := Q2 w1 hB1
        go_quiet (first | (go_at_call 36; with_reducible exact hq1 _))
        clear hq1
        have hB2 := hB1.keep (grown_drewN w1 nq none)
        have G2 := grown_trans G1 (grown_drewN w1 nq none)
        generalize w1.drewN nq = w2 at hB2 G2 ⊢
        clear cFw1 cHw1 cMw1 c8w1 c9w1 cmw1
        have cFw2 := hB2.c 1 (.int .i64 F) rfl
        have cHw2 := hB2.c 2 (.int .i64 H) rfl
        have cMw2 := hB2.c 3 (.int .i64 M) rfl
        have c8w2 := hB2.c 8 (.int .i64 p) rfl
        have c9w2 := hB2.c 9 (.bool tu) rfl
        have cmw2 := hB2.c 10 (.int .i64 mi) rfl
        go_wp2
        have hq2 := Q3 w2 hB2
        go_quiet (first | (go_at_call 36; with_reducible exact hq2 _))
        clear hq2
        have hB3 := hB2.keep (grown_drewN w2 nq none)
        have G3 := grown_trans G2 (grown_drewN w2 nq none)
        generalize w2.drewN nq = w3 at hB3 G3 ⊢
        clear cFw2 cHw2 cMw2 c8w2 c9w2 cmw2
        have cFw3 := hB3.c 1 (.int .i64 F) rfl
        have cHw3 := hB3.c 2 (.int .i64 H) rfl
        have cMw3 := hB3.c 3 (.int .i64 M) rfl
        have c8w3 := hB3.c 8 (.int .i64 p) rfl
        have c9w3 := hB3.c 9 (.bool tu) rfl
        have cmw3 := hB3.c 10 (.int .i64 mi) rfl
        go_wp2
        have HB := fun w' (hg : w3.grownBy w' none) => begin_any g L F H M 43 true tk la p tu mi (.slice none 0 0) (p : Int) 0 p 0 (!tu) rfl rfl hL w' (hB3.keep hg)
        go_region_with (go_at_call 37; refine (HB _ (by repeat (first | exact World.grownBy.refl _ _ | refine grown_trans ?_ (grown_drew _ _) | refine grown_trans ?_ (grown_drewN _ _ _)))).mono ?_; rintro e wb ⟨rfl, gd, hgd, hBb, hrowb, gb⟩)
        all_goals
          have hsz := G3.size
          go_wp2
          go_end0
          have R := begun (w := w) (s := deX ⟨L, F, H, M⟩ ⟨2, tk, la, p, tu, mi, []⟩) hBb (Nat.le_trans hsz hgd) hgl hrowb (by rw [HD.out, if_neg h1, if_neg h2, if_pos h3])
          exact ⟨rfl, _, R.1, R.2, grown_trans (grown_weak G3 _) (grown_trans (grown_drewN _ _ _) gb)⟩
      · have h3' : ¬ ((wrV la 1 (!tu) : Nat) : Int) ≤ (H : Int) := by omega
        by_cases h4 : mi < M
        · have h4' : (mi : Int) < (M : Int) := by omega
          go_enter Try.func44, Try.ntmps44
          go_wp2
          have hq0 := Q1 w hB0
          go_quiet (first | (go_at_call 36; with_reducible exact hq0 _))
          clear hq0
          have hB1 := hB0.keep (grown_drewN w nq none)
          have G1 := grown_trans G0 (grown_drewN w nq none)
          generalize w.drewN nq = w1 at hB1 G1 ⊢
          clear cFw cHw cMw c8w c9w cmw
          have cFw1 := hB1.c 1 (.int .i64 F) rfl
          have cHw1 := hB1.c 2 (.int .i64 H) rfl
          have cMw1 := hB1.c 3 (.int .i64 M) rfl
          have c8w1 := hB1.c 8 (.int .i64 p) rfl
          have c9w1 := hB1.c 9 (.bool tu) rfl
          have cmw1 := hB1.c 10 (.int .i64 mi) rfl
          go_wp2
          have hq1 := Q2 w1 hB1
          go_quiet (first | (go_at_call 36; with_reducible exact hq1 _))
          clear hq1
          have hB2 := hB1.keep (grown_drewN w1 nq none)
          have G2 := grown_trans G1 (grown_drewN w1 nq none)
          generalize w1.drewN nq = w2 at hB2 G2 ⊢
          clear cFw1 cHw1 cMw1 c8w1 c9w1 cmw1
          have cFw2 := hB2.c 1 (.int .i64 F) rfl
          have cHw2 := hB2.c 2 (.int .i64 H) rfl
          have cMw2 := hB2.c 3 (.int .i64 M) rfl
          have c8w2 := hB2.c 8 (.int .i64 p) rfl
          have c9w2 := hB2.c 9 (.bool tu) rfl
          have cmw2 := hB2.c 10 (.int .i64 mi) rfl
          go_wp2
          have hq2 := Q3 w2 hB2
          go_quiet (first | (go_at_call 36; with_reducible exact hq2 _))
          clear hq2
          have hB3 := hB2.keep (grown_drewN w2 nq none)
          have G3 := grown_trans G2 (grown_drewN w2 nq none)
          generalize w2.drewN nq = w3 at hB3 G3 ⊢
          clear cFw2 cHw2 cMw2 c8w2 c9w2 cmw2
          have cFw3 := hB3.c 1 (.int .i64 F) rfl
          have cHw3 := hB3.c 2 (.int .i64 H) rfl
          have cMw3 := hB3.c 3 (.int .i64 M) rfl
          have c8w3 := hB3.c 8 (.int .i64 p) rfl
          have c9w3 := hB3.c 9 (.bool tu) rfl
          have cmw3 := hB3.c 10 (.int .i64 mi) rfl
          go_wp2
          go_quiet (fail)
          have hB4 := hB3.keep (grown_drewN w3 nq none)
          have G4 := grown_trans G3 (grown_drewN w3 nq none)
          generalize w3.drewN nq = w4 at hB4 G4 ⊢
          clear cFw3 cHw3 cMw3 c8w3 c9w3 cmw3
          have cFw4 := hB4.c 1 (.int .i64 F) rfl
          have cHw4 := hB4.c 2 (.int .i64 H) rfl
          have cMw4 := hB4.c 3 (.int .i64 M) rfl
          have c8w4 := hB4.c 8 (.int .i64 p) rfl
          have c9w4 := hB4.c 9 (.bool tu) rfl
          have cmw4 := hB4.c 10 (.int .i64 mi) rfl
          go_wp2
          have HB := fun w' (hg : w4.grownBy w' none) => begin_any g L F H M 43 true tk la p tu mi (.slice none 0 0) (p : Int) ((mi + 1 : Nat) : Int) p (mi + 1) tu rfl rfl hL w' (hB4.keep hg)
          go_region_with (go_at_call 37; refine (HB _ (by repeat (first | exact World.grownBy.refl _ _ | refine grown_trans ?_ (grown_drew _ _) | refine grown_trans ?_ (grown_drewN _ _ _)))).mono ?_; rintro e wb ⟨rfl, gd, hgd, hBb, hrowb, gb⟩)
          all_goals
            have hsz := G4.size
            go_wp2
            go_end0
            have R := begun (w := w) (s := deX ⟨L, F, H, M⟩ ⟨2, tk, la, p, tu, mi, []⟩) hBb (Nat.le_trans hsz hgd) hgl hrowb (by rw [HD.out, if_neg h1, if_neg h2, if_neg h3, if_pos h4])
            exact ⟨rfl, _, R.1, R.2, grown_trans (grown_weak G4 _) (grown_trans (grown_drewN _ _ _) gb)⟩
        · have h4' : ¬ (mi : Int) < (M : Int) := by omega
          go_enter Try.func44, Try.ntmps44
          go_wp2
          have hq0 := Q1 w hB0
          go_quiet (first | (go_at_call 36; with_reducible exact hq0 _))
          clear hq0
          have hB1 := hB0.keep (grown_drewN w nq none)
          have G1 := grown_trans G0 (grown_drewN w nq none)
          generalize w.drewN nq = w1 at hB1 G1 ⊢
          clear cFw cHw cMw c8w c9w cmw
          have cFw1 := hB1.c 1 (.int .i64 F) rfl
          have cHw1 := hB1.c 2 (.int .i64 H) rfl
          have cMw1 := hB1.c 3 (.int .i64 M) rfl
          have c8w1 := hB1.c 8 (.int .i64 p) rfl
          have c9w1 := hB1.c 9 (.bool tu) rfl
          have cmw1 := hB1.c 10 (.int .i64 mi) rfl
          go_wp2
          have hq1 := Q2 w1 hB1
          go_quiet (first | (go_at_call 36; with_reducible exact hq1 _))
          clear hq1
          have hB2 := hB1.keep (grown_drewN w1 nq none)
          have G2 := grown_trans G1 (grown_drewN w1 nq none)
          generalize w1.drewN nq = w2 at hB2 G2 ⊢
          clear cFw1 cHw1 cMw1 c8w1 c9w1 cmw1
          have cFw2 := hB2.c 1 (.int .i64 F) rfl
          have cHw2 := hB2.c 2 (.int .i64 H) rfl
          have cMw2 := hB2.c 3 (.int .i64 M) rfl
          have c8w2 := hB2.c 8 (.int .i64 p) rfl
          have c9w2 := hB2.c 9 (.bool tu) rfl
          have cmw2 := hB2.c 10 (.int .i64 mi) rfl
          go_wp2
          have hq2 := Q3 w2 hB2
          go_quiet (first | (go_at_call 36; with_reducible exact hq2 _))
          clear hq2
          have hB3 := hB2.keep (grown_drewN w2 nq none)
          have G3 := grown_trans G2 (grown_drewN w2 nq none)
          generalize w2.drewN nq = w3 at hB3 G3 ⊢
          clear cFw2 cHw2 cMw2 c8w2 c9w2 cmw2
          have cFw3 := hB3.c 1 (.int .i64 F) rfl
          have cHw3 := hB3.c 2 (.int .i64 H) rfl
          have cMw3 := hB3.c 3 (.int .i64 M) rfl
          have c8w3 := hB3.c 8 (.int .i64 p) rfl
          have c9w3 := hB3.c 9 (.bool tu) rfl
          have cmw3 := hB3.c 10 (.int .i64 mi) rfl
          go_wp2
          go_quiet (fail)
          have hB4 := hB3.keep (grown_drewN w3 nq none)
          have G4 := grown_trans G3 (grown_drewN w3 nq none)
          generalize w3.drewN nq = w4 at hB4 G4 ⊢
          clear cFw3 cHw3 cMw3 c8w3 c9w3 cmw3
          have cFw4 := hB4.c 1 (.int .i64 F) rfl
          have cHw4 := hB4.c 2 (.int .i64 H) rfl
          have cMw4 := hB4.c 3 (.int .i64 M) rfl
          have c8w4 := hB4.c 8 (.int .i64 p) rfl
          have c9w4 := hB4.c 9 (.bool tu) rfl
          have cmw4 := hB4.c 10 (.int .i64 mi) rfl
          go_wp2_with (first
            | (go_at_call 25; refine (search_any g L F H M 43 true tk la p tu mi (.slice none 0 0) (p : Int) p rfl w4 hB4).mono ?_; rintro e w5 ⟨rfl, hB5, g5⟩)
            | (go_at_call 32; refine (searching_any g ⟨L, F, H, M⟩ ⟨0, tk, la, p, false, 0, []⟩ tv w5 ⟨hB5, fun _ => ⟨rfl, rfl⟩, fun h => absurd h (show ¬ (0 : Nat) = 1 by decide)⟩ rfl (Nat.le_of_eq HK.out) (by show p ≤ tk; rw [HK.out]; omega) htk hla hL hF ⟨rfl, rfl⟩).mono ?_; rintro e w6 ⟨rfl, dv, hS6, hN6, g6⟩))
          go_end0
          have hsz := Nat.le_trans G4.size g5.size
          rw [HD.out, if_neg h1, if_neg h2, if_neg h3, if_neg h4]
          exact ⟨rfl, dv, hS6, fun x hx => (hN6 x hx).elim .inl (fun h => .inr (Nat.le_trans hsz h)), grown_trans (grown_weak G4 _) (grown_trans g5 g6)⟩
end Go.Proofs.Ythdjpbfknbafgaa
