import Derived.Test.YthdjpbfknbafgaaTSy5
import Derived.Test.YthdjpbfknbafgaaTSy9
namespace Go.Proofs.Ythdjpbfknbafgaa
open Go.RowKit Go.Shelf
set_option maxRecDepth 100000
set_option linter.unusedVariables false
set_option linter.unusedSimpArgs false

def stX (r : Rx) (s : Mx) : Mx × List Fa := if s.mode = 0 then (sgX r s, []) else if s.mode = 1 then gaX r s else (exX r s, [])
def inX (s : Mx) (b : Nat) : Mx := { s with tk := s.tk + 1, la := (s.la * 2 + b % 2) % 18446744073709551616 }
/-- what holds between two bits -/
structure Inv (r : Rx) (s : Mx) : Prop where
  la : s.la < 18446744073709551616
  mi : s.mi ≤ r.M
  mode : s.mode ≤ 2
  le : s.p ≤ s.tk
  m0 : s.mode = 0 → s.tk ≤ s.p + 31 ∧ s.tu = false ∧ s.mi = 0
  m1 : s.mode = 1 → s.da.length < r.L
  m2 : s.mode = 2 → s.tk ≤ s.p + 32 ∧ 1 ≤ s.p
/-- what holds behind a bit, ahead of the step -/
structure Mid (r : Rx) (s : Mx) : Prop where
  la : s.la < 18446744073709551616
  mi : s.mi ≤ r.M
  mode : s.mode ≤ 2
  le : s.p ≤ s.tk
  one : 1 ≤ s.tk
  m0 : s.mode = 0 → s.tk ≤ s.p + 32 ∧ s.tu = false ∧ s.mi = 0
  m1 : s.mode = 1 → s.da.length < r.L
  m2 : s.mode = 2 → s.tk ≤ s.p + 33 ∧ 1 ≤ s.p
theorem Inv.mid {r : Rx} {s : Mx} (h : Inv r s) (b : Nat) : Mid r (inX s b) := by
  refine ⟨Nat.mod_lt _ (by decide), h.mi, h.mode, Nat.le_succ_of_le h.le, Nat.succ_pos _, fun e => ?_, h.m1, fun e => ?_⟩
  · have := h.m0 e; exact ⟨by show s.tk + 1 ≤ s.p + 32; omega, this.2⟩
  · have := h.m2 e; exact ⟨by show s.tk + 1 ≤ s.p + 33; omega, this.2⟩
theorem bgX_inv {r : Rx} {s : Mx} (h : s.la < 18446744073709551616) (hL : 1 ≤ r.L) (q : Nat) (t : Bool) (m : Nat) (hm : m ≤ r.M) (hq : q ≤ s.tk) : Inv r (bgX s q t m) :=
  ⟨h, hm, (by show (1 : Nat) ≤ 2; decide), hq, fun e => absurd e (show ¬ (1 : Nat) = 0 by decide), fun _ => hL, fun e => absurd e (show ¬ (1 : Nat) = 2 by decide)⟩
theorem sgN_inv {r : Rx} (hL : 1 ≤ r.L) (N : Nat) : ∀ s : Mx, s.la < 18446744073709551616 → s.mode = 0 → s.tu = false → s.mi = 0 → s.p ≤ s.tk → s.tk + 1 - s.p ≤ N → Inv r (sgN r N s) := by
  induction N with
  | zero => intro s _ _ _ _ h5 h6; omega
  | succ N ih =>
    intro s h1 h2 h3 h4 h5 h6
    unfold sgN
    by_cases hlt : s.tk < s.p + 32
    · rw [if_pos hlt]
      exact ⟨h1, by omega, by omega, h5, fun _ => ⟨by omega, h3, h4⟩, fun e => by omega, fun e => by omega⟩
    · rw [if_neg hlt]
      split
      · exact bgX_inv h1 hL _ _ _ (Nat.zero_le _) h5
      · split
        · exact bgX_inv h1 hL _ _ _ (Nat.zero_le _) h5
        · exact ih _ h1 h2 h3 h4 (by show s.p + 1 ≤ s.tk; omega) (by show s.tk + 1 - (s.p + 1) ≤ N; omega)
theorem stX_inv {r : Rx} {s : Mx} (hL : 1 ≤ r.L) (h : Mid r s) : Inv r (stX r s).1 := by
  unfold stX
  have hsg : ∀ s' : Mx, s'.la < 18446744073709551616 → s'.mode = 0 → s'.tu = false → s'.mi = 0 → s'.p ≤ s'.tk → Inv r (sgX r s') := fun s' a b c d e => sgN_inv hL _ s' a b c d e (Nat.le_refl _)
  by_cases h0 : s.mode = 0
  · rw [if_pos h0]
    exact hsg s h.la h0 (h.m0 h0).2.1 (h.m0 h0).2.2 h.le
  · rw [if_neg h0]
    by_cases h1 : s.mode = 1
    · rw [if_pos h1]
      unfold gaX
      by_cases h8 : (s.tk - s.p) % 8 ≠ 0
      · rw [if_pos h8]
        exact ⟨h.la, h.mi, h.mode, h.le, fun e => absurd e h0, h.m1, fun e => absurd (h1.symm.trans e) (by decide)⟩
      · rw [if_neg h8]
        by_cases hf : s.da.length + 1 = r.L
        · rw [if_pos hf]
          exact ⟨h.la, h.mi, Nat.le_refl _, Nat.le_refl _, fun e => absurd e (show ¬ (2 : Nat) = 0 by decide), fun e => absurd e (show ¬ (2 : Nat) = 1 by decide), fun _ => ⟨by show s.tk ≤ s.tk + 32; omega, h.one⟩⟩
        · rw [if_neg hf]
          have := h.m1 h1
          exact ⟨h.la, h.mi, h.mode, h.le, fun e => absurd e h0, fun _ => by show (s.da ++ [_]).length < _; rw [List.length_append]; show _ + 1 < _; omega, fun e => absurd (h1.symm.trans e) (by decide)⟩
    · rw [if_neg h1]
      have h2 : s.mode = 2 := by have := h.mode; omega
      have hh := h.m2 h2
      unfold exX
      by_cases a : s.tk = s.p + 32
      · rw [if_pos a]
        split
        · exact bgX_inv h.la hL _ _ _ (Nat.zero_le _) h.le
        · exact ⟨h.la, h.mi, h.mode, h.le, fun e => absurd e h0, fun e => absurd e h1, fun _ => ⟨by show s.tk ≤ s.p + 32; omega, hh.2⟩⟩
      · rw [if_neg a]
        by_cases b : s.tk = s.p + 33
        · rw [if_pos b]
          unfold deX
          split
          · exact bgX_inv h.la hL _ _ _ (Nat.zero_le _) (by omega)
          · split
            · exact bgX_inv h.la hL _ _ _ (Nat.zero_le _) (by omega)
            · split
              · exact bgX_inv h.la hL _ _ _ (Nat.zero_le _) h.le
              · split
                · exact bgX_inv h.la hL _ _ _ (by omega) h.le
                · exact hsg _ h.la rfl rfl rfl h.le
        · rw [if_neg b]
          exact ⟨h.la, h.mi, h.mode, h.le, fun e => absurd e h0, fun e => absurd e h1, fun _ => ⟨by show s.tk ≤ s.p + 32; omega, hh.2⟩⟩
theorem FdB.apart_g {w : World} {g fb L F H M k : Nat} {lk : Bool} {tk la p : Nat} {tu : Bool} {mi : Nat} {d v dv : Value} {fs : List Fv} (h : FdB w fb v dv fs) (hB : SyB w g L F H M k lk tk la p tu mi d) :
    fb ≠ g ∧ (∀ x, v.ownBlock = some x → ¬ x = g) ∧ (∀ f, f ∈ fs → ∀ x, (Value.slice f.a f.n f.n).ownBlock = some x → ¬ x = g) := by
  refine ⟨fun e => ?_, fun x hx e => ?_, fun f hm x hx e => ?_⟩
  · subst e; exact cells_ne h.box hB (by decide)
  · obtain ⟨_, c2, h2⟩ := row_lt h.row hx
    subst e; exact cells_ne h2 hB (by decide)
  · obtain ⟨_, c2, h2⟩ := row_lt (h.ok f hm).1.own hx
    subst e; exact cells_ne h2 hB (by decide)
/-- what the step does, whatever its mode -/
theorem step_any (g fb : Nat) (r : Rx) (s : Mx) (dv v : Value) (fs : List Fv) (w : World) (h : SyM w g r s dv) (hf : FdB w fb v dv fs) (hM : Mid r s) (htk : s.tk ≤ 4611686018427387904) (hL : r.L ≤ 2048) (hF : r.F ≤ 64) (hMs : r.M ≤ 64) (hfs : fs.length ≤ 4194304) :
    Calls Try.prog (kM s.mode) #[.pointer (some ⟨g, 0, none⟩), .func (.func 27) #[] #[.pointer (some ⟨fb, 0, none⟩)]] w fun e w' => e = .returned (.tuple #[]) ∧ ∃ dv' v' fs', SyM w' g r (stX r s).1 dv' ∧ FdB w' fb v' dv' fs' ∧ fs'.map absF = fs.map absF ++ (stX r s).2 ∧
      (∀ x, dv'.ownBlock = some x → dv.ownBlock = some x ∨ w.heap.size ≤ x) ∧ (∀ x, v'.ownBlock = some x → v.ownBlock = some x ∨ w.heap.size ≤ x) ∧ Frm (Wr g fb dv v) w w' := by
  obtain ⟨p1, p2, p3⟩ := hf.apart_g h.blk
  by_cases h0 : s.mode = 0
  · obtain ⟨rfl, _⟩ := h.idle (by omega)
    have hk : kM s.mode = 32 := by rw [h0]; rfl
    rw [hk]
    have hst : stX r s = (sgX r s, []) := if_pos h0
    rw [hst]
    refine (searching_any g r s _ w h h0 (by have := hM.m0 h0; omega) hM.le htk hM.la hL hF (hM.m0 h0).2).mono ?_
    rintro e w' ⟨rfl, dv', hS, hN, hg⟩
    have F1 := Frm.of (p := fun k => k = g) hg (fun k e _ => (Option.some.inj e).symm)
    exact ⟨rfl, dv', v, fs, hS, hf.frm F1 p1 p2 p3 hN, by simp, hN, fun x hx => .inl hx, F1.weak (fun i _ h => .inl h)⟩
  · by_cases h1 : s.mode = 1
    · have hk : kM s.mode = 40 := by rw [h1]; rfl
      rw [hk]
      have hst : stX r s = gaX r s := by unfold stX; rw [if_neg h0, if_pos h1]
      rw [hst]
      by_cases h8 : (s.tk - s.p) % 8 = 0
      · by_cases hfull : s.da.length + 1 = r.L
        · have hg : gaX r s = ({ s with mode := 2, p := s.tk, da := [] }, [(s.p, s.tu, s.mi, scrL (tuD s.tu (s.da ++ [s.la % 256])))]) := by
            unfold gaX; rw [if_neg (by omega), if_pos hfull]
          rw [hg]
          refine (gather3_any g fb r s dv v fs w h hf h1 h8 hM.le htk hL hfull hfs).mono ?_
          rintro e w' ⟨rfl, v', f, hS, hF', ha, hn, hFr⟩
          exact ⟨rfl, _, v', _, hS, hF', by rw [List.map_append, ← ha]; rfl, fun x hx => by simp [Value.ownBlock] at hx, hn, hFr⟩
        · have hg : gaX r s = ({ s with da := s.da ++ [s.la % 256] }, []) := by
            unfold gaX; rw [if_neg (by omega), if_neg hfull]
          rw [hg]
          have := hM.m1 h1
          refine (gather2_any g fb r s dv v fs w h hf h1 h8 hM.le htk hL (by omega)).mono ?_
          rintro e w' ⟨rfl, dv', hS, hF', hd, hFr⟩
          exact ⟨rfl, dv', v, fs, hS, hF', by simp, fun x hx => .inl (by rw [← hd]; exact hx), fun x hx => .inl hx, hFr⟩
      · have hg : gaX r s = (s, []) := by unfold gaX; rw [if_pos h8]
        rw [hg]
        refine (gather1_any g fb r s dv v fs w h hf h1 h8 hM.le htk).mono ?_
        rintro e w' ⟨rfl, n, rfl⟩
        have F1 := Frm.of (p := fun _ => False) (grown_drewN w n none) (fun k e _ => by cases e)
        refine ⟨rfl, dv, v, fs, ⟨h.blk.keep (grown_drewN _ _ _), h.idle, fun e => ?_⟩, hf.frm F1 (fun h => h) (fun _ _ h => h) (fun _ _ _ _ h => h) (fun x hx => .inl hx), by simp, fun x hx => .inl hx, fun x hx => .inl hx, F1.weak (fun i _ h => h.elim)⟩
        obtain ⟨gd, a1, a2, a3, a4⟩ := h.busy e
        exact ⟨gd, a1, a2, row_frm a3 F1 (fun _ _ h => h), a4⟩
    · have h2 : s.mode = 2 := by have := hM.mode; omega
      obtain ⟨rfl, _⟩ := h.idle (by omega)
      have hk : kM s.mode = 43 := by rw [h2]; rfl
      rw [hk]
      have hst : stX r s = (exX r s, []) := by unfold stX; rw [if_neg h0, if_neg h1]
      rw [hst]
      have hmi := hM.mi
      refine (expecting_any g r s _ w h h2 (hM.m2 h2).1 hM.le (hM.m2 h2).2 htk hM.la hL hF (by omega)).mono ?_
      rintro e w' ⟨rfl, dv', hS, hN, hg⟩
      have F1 := Frm.of (p := fun k => k = g) hg (fun k e _ => (Option.some.inj e).symm)
      exact ⟨rfl, dv', v, fs, hS, hf.frm F1 p1 p2 p3 hN, by simp, hN, fun x hx => .inl hx, F1.weak (fun i _ h => .inl h)⟩
end Go.Proofs.Ythdjpbfknbafgaa
