import Derived.Test.YthdjpbfknbafgaaTSy4
namespace Go.Proofs.Ythdjpbfknbafgaa
open Go.RowKit
set_option maxRecDepth 100000
set_option linter.unusedVariables false
set_option linter.unusedSimpArgs false

set_option maxHeartbeats 8000000 in
theorem expecting_any (g : Nat) (r : Rx) (s : Mx) (tv : Value) (w : World) (h : SyM w g r s (.slice none 0 0)) (hm : s.mode = 2) (hk : s.tk ≤ s.p + 33) (hp1 : s.p ≤ s.tk) (hp : 1 ≤ s.p) (htk : s.tk ≤ 4611686018427387904) (hla : s.la < 18446744073709551616) (hL : r.L ≤ 2048) (hF : r.F ≤ 64) (hmi : s.mi ≤ 64) :
    Calls Try.prog 43 #[.pointer (some ⟨g, 0, none⟩), tv] w fun e w' => e = .returned (.tuple #[]) ∧ ∃ dv', SyM w' g r (exX r s) dv' ∧ NewD w (.slice none 0 0) dv' ∧ w.grownBy w' (some g) := by
  have hS := h
  obtain ⟨mode, tk, la, p, tu, mi, da⟩ := s
  obtain ⟨L, F, H, M⟩ := r
  simp only at hm hk hp1 hp htk hla hL hF hmi
  subst hm
  obtain ⟨hB, hid, _⟩ := h
  obtain ⟨_, hda⟩ := hid (show (2 : Nat) ≠ 1 by decide)
  simp only at hda
  subst hda
  have hB0 : SyB w g L F H M 43 true tk la p tu mi (.slice none 0 0) := hB
  clear hB hid
  have hgl := hB0.lt
  have c6 := hB0.c 6 (.int .i64 tk) rfl
  have c8 := hB0.c 8 (.int .i64 p) rfl
  by_cases h32 : tk = p + 32
  · have hd : IntKind.i64.wrap ((tk : Int) - (p : Int)) = 32 := by rw [wrap_i64_in _ (by omega) (by omega)]; omega
    have HX : Hid (exX ⟨L, F, H, M⟩ ⟨2, tk, la, p, tu, mi, []⟩ = if wrV la 0 tu ≤ H then ⟨1, tk, la, p, tu, 0, []⟩ else ⟨2, tk, la, p, tu, mi, []⟩) := by
      show _ = _
      unfold exX
      simp only [h32, if_true]
      unfold wrX bgX
      simp
    have q0 := fun w1 (hB : SyB w1 g L F H M 43 true tk la p tu mi (.slice none 0 0)) m => Calls.quiet_of (n := m) (wrong_any g L F H M 43 true tk la p tu mi (.slice none 0 0) (p : Int) p 0 tu rfl (by omega) (by decide) htk hla (w1.drewN m) (hB.keep (grown_drewN _ _ _)))
    have HK : Hid (tk = p + 32) := h32
    clear h32
    by_cases hh : wrV la 0 tu ≤ H
    · have hh' : ((wrV la 0 tu : Nat) : Int) ≤ (H : Int) := by omega
      go_enter Try.func43, Try.ntmps43
      go_wp2
      go_quiet (fail)
      have hB1 := hB0.keep (grown_drewN w nq none)
      have G1 := grown_drewN w nq none
      generalize w.drewN nq = w1 at hB1 G1 ⊢
      clear c6 c8
      have c8 := hB1.c 8 (.int .i64 p) rfl
      have c9 := hB1.c 9 (.bool tu) rfl
      have cH := hB1.c 2 (.int .i64 H) rfl
      have hq := q0 w1 hB1
      go_wp2
      go_quiet (first | (go_at_call 36; with_reducible exact hq _))
      have hB2 := hB1.keep (grown_drewN w1 nq none)
      have G2 := grown_trans G1 (grown_drewN w1 nq none)
      generalize w1.drewN nq = w2 at hB2 G2 ⊢
      clear c8 c9 cH hq
      have c8 := hB2.c 8 (.int .i64 p) rfl
      have c9 := hB2.c 9 (.bool tu) rfl
      have HB := fun w' (hg : w2.grownBy w' none) => begin_any g L F H M 43 true tk la p tu mi (.slice none 0 0) (p : Int) 0 p 0 tu rfl rfl hL w' (hB2.keep hg)
      go_wp2
      go_region_with (go_at_call 37; refine (HB _ (by repeat (first | exact World.grownBy.refl _ _ | refine grown_trans ?_ (grown_drew _ _) | refine grown_trans ?_ (grown_drewN _ _ _)))).mono ?_; rintro e wb ⟨rfl, gd, hgd, hBb, hrowb, gb⟩)
      all_goals
        have hsz := G2.size
        go_wp2
        go_end0
        have R := begun (w := w) (s := exX ⟨L, F, H, M⟩ ⟨2, tk, la, p, tu, mi, []⟩) hBb (Nat.le_trans hsz hgd) hgl hrowb (by rw [HX.out, if_pos hh])
        exact ⟨rfl, _, R.1, R.2, grown_trans (grown_weak G2 _) (grown_trans (grown_drewN _ _ _) gb)⟩
    · have hh' : ¬ ((wrV la 0 tu : Nat) : Int) ≤ (H : Int) := by omega
      go_enter Try.func43, Try.ntmps43
      go_wp2
      go_quiet (fail)
      have hB1 := hB0.keep (grown_drewN w nq none)
      have G1 := grown_drewN w nq none
      generalize w.drewN nq = w1 at hB1 G1 ⊢
      clear c6 c8
      have c8 := hB1.c 8 (.int .i64 p) rfl
      have c9 := hB1.c 9 (.bool tu) rfl
      have cH := hB1.c 2 (.int .i64 H) rfl
      have hq := q0 w1 hB1
      go_wp2
      go_quiet (first | (go_at_call 36; with_reducible exact hq _))
      have hB2 := hB1.keep (grown_drewN w1 nq none)
      have G2 := grown_trans G1 (grown_drewN w1 nq none)
      generalize w1.drewN nq = w2 at hB2 G2 ⊢
      go_wp2
      go_end0
      rw [HX.out, if_neg hh]
      exact ⟨rfl, _, ⟨hB2, fun _ => ⟨rfl, rfl⟩, fun h => absurd h (show ¬ (2 : Nat) = 1 by decide)⟩, fun x hx => .inl hx, grown_weak G2 _⟩
  · by_cases h33 : tk = p + 33
    · have hd : IntKind.i64.wrap ((tk : Int) - (p : Int)) = 33 := by rw [wrap_i64_in _ (by omega) (by omega)]; omega
      have HX : Hid (exX ⟨L, F, H, M⟩ ⟨2, tk, la, p, tu, mi, []⟩ = deX ⟨L, F, H, M⟩ ⟨2, tk, la, p, tu, mi, []⟩) := by
        show _ = _
        unfold exX
        rw [if_neg h32, if_pos h33]
      have HD := fun w1 (hB : SyB w1 g L F H M 43 true tk la p tu mi (.slice none 0 0)) => decide_any g ⟨L, F, H, M⟩ ⟨2, tk, la, p, tu, mi, []⟩ tv w1 ⟨hB, fun _ => ⟨rfl, rfl⟩, fun h => absurd h (show ¬ (2 : Nat) = 1 by decide)⟩ rfl h33 hp htk hla hL hF hmi
      have HK : Hid (tk = p + 33) := h33
      clear h32 h33
      go_enter Try.func43, Try.ntmps43
      go_wp2
      go_quiet (fail)
      have hB1 := hB0.keep (grown_drewN w nq none)
      have G1 := grown_drewN w nq none
      generalize w.drewN nq = w1 at hB1 G1 ⊢
      go_wp2_with (go_at_call 44; refine (HD w1 hB1).mono ?_; rintro e w2 ⟨rfl, dv, hS2, hN2, g2⟩)
      go_end0
      have hsz := G1.size
      rw [HX.out]
      exact ⟨rfl, dv, hS2, fun x hx => (hN2 x hx).elim .inl (fun h => .inr (Nat.le_trans hsz h)), grown_trans (grown_weak G1 _) g2⟩
    · obtain ⟨d, hd0⟩ : ∃ d, d = tk - p := ⟨_, rfl⟩
      have hd : IntKind.i64.wrap ((tk : Int) - (p : Int)) = (d : Int) := by rw [wrap_i64_in _ (by omega) (by omega)]; omega
      have n1 : ((d : Int) == 32) = false := by simp; omega
      have n2 : ((d : Int) == 33) = false := by simp; omega
      have HX : Hid (exX ⟨L, F, H, M⟩ ⟨2, tk, la, p, tu, mi, []⟩ = ⟨2, tk, la, p, tu, mi, []⟩) := by
        show _ = _
        unfold exX
        rw [if_neg h32, if_neg h33]
      clear h32 h33 hd0
      go_enter Try.func43, Try.ntmps43
      go_wp2
      go_quiet (fail)
      have hB1 := hB0.keep (grown_drewN w nq none)
      have G1 := grown_drewN w nq none
      generalize w.drewN nq = w1 at hB1 G1 ⊢
      go_wp2
      go_end0
      rw [HX.out]
      exact ⟨rfl, _, ⟨hB1, fun _ => ⟨rfl, rfl⟩, fun h => absurd h (show ¬ (2 : Nat) = 1 by decide)⟩, fun x hx => .inl hx, grown_weak G1 _⟩
end Go.Proofs.Ythdjpbfknbafgaa
