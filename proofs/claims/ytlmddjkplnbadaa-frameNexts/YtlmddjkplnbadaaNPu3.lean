import Derived.Test.YtlmddjkplnbadaaNPu2
namespace Go.Proofs.Ytlmddjkplnbadaa
open Go.RowKit
set_option maxRecDepth 100000
set_option linter.unusedVariables false
set_option linter.unusedSimpArgs false

def alQ (F : Nat → Qu) : Nat → Bool
  | 0 => true
  | k + 1 => alQ F k && quB (F k)
theorem alQ_no (F : Nat → Qu) (k : Nat) (h : quB (F k) = false) (n : Nat) (hk : k < n) : alQ F n = false := by
  induction n with
  | zero => omega
  | succ n ih =>
    show (alQ F n && quB (F n)) = false
    by_cases e : k = n
    · subst e; rw [h, Bool.and_false]
    · rw [ih (by omega), Bool.false_and]
/-- may a sender be? -/
def seB (cr sz ma tu : Int) (n : Nat) (F : Nat → Qu) : Bool := decide (opE cr sz = 0) && wiB ma 255 && wiB tu 6 && decide (n = 7) && alQ F n
set_option maxHeartbeats 8000000 in
theorem senderMay_any (cr sz ma tu : Int) (a : Option Addr) (n cap : Nat) (F : Nat → Qu) (w : World) (h : RdQ w a n cap F) :
    Calls Try.prog 56 #[.agg (seA cr sz ma tu a n cap)] w fun e w' => e = .returned (.bool (seB cr sz ma tu n F)) ∧ w.grownBy w' none := by
  have hle := h.le
  have hmx := h.max
  unfold maxLen at hmx
  have h0 := fun wz => fwrong_any cr sz wz
  have h1 := fun wz => fwithin_any ma 255 wz
  have h2 := fun wz => fwithin_any tu 6 wz
  have b0 := BxS.new w 38 (seA cr sz ma tu a n cap)
  have g0 := World.grownBy_alloc w (.cells (seA cr sz ma tu a n cap) 38) none
  unfold seA at b0 g0 ⊢
  generalize hw0 : w.alloc (.cells #[.int .i64 cr, .int .i64 sz, .int .i64 ma, .int .i64 tu, .slice a n cap] 38) = w0 at b0 g0
  obtain ⟨c0, c1, c2, c3, c4⟩ := b0.cell5
  have HQ : Hid (seB cr sz ma tu n F = (decide (opE cr sz = 0) && wiB ma 255 && wiB tu 6 && decide (n = 7) && alQ F n)) := show _ = _ from rfl
  generalize seB cr sz ma tu n F = Z at HQ ⊢
  generalize opE cr sz = E at h0 HQ
  generalize wiB ma 255 = b1 at h1 HQ
  generalize wiB tu 6 = b2 at h2 HQ
  have t1 : True := trivial
  by_cases hE : E = 0
  · rw [decide_eq_true hE] at HQ
    subst hE
    by_cases hb : b1 = true ∧ b2 = true ∧ n = 7
    · obtain ⟨rfl, rfl, rfl⟩ := hb
      have HQ : Hid (Z = alQ F 7) := show Z = alQ F 7 by have := HQ.out; simpa using this
      have hr0 := h.keep g0
      go_enter Try.func56, Try.ntmps56
      go_wp2_with (first
        | (go_at_call 51; have _t := t1; clear t1; refine (h0 _).mono ?_; rintro e wx ⟨rfl, hw⟩; have hw := hw.symm; subst hw; have t2 : True := trivial)
        | (go_at_call 43; have _t := t2; clear t2; refine (h1 _).mono ?_; rintro e wx ⟨rfl, hw⟩; have hw := hw.symm; subst hw; have t3 : True := trivial)
        | (go_at_call 43; have _t := t3; clear t3; refine (h2 _).mono ?_; rintro e wx ⟨rfl, hw⟩; have hw := hw.symm; subst hw))
      clear c0 c1 c2 c3 c4 hw0
      go_loopw [32] (fun i wr => ∃ k : Nat, k ≤ 7 ∧ i = .int .i64 k ∧ Hid (alQ F k = true) ∧ w0.grownBy wr none) (fun i _ => 7 - (intOf i).toNat)
      case atStart => exact ⟨0, by omega, rfl, show alQ F 0 = true from rfl, World.grownBy.refl _ _⟩
      case round =>
        obtain ⟨k, hk, rfl, HK, hgr⟩ := hrel
        by_cases hlt : k < 7
        · obtain ⟨ba, oa, rfl, hba, ca⟩ := (hr0.keep hgr).at' (by omega)
          obtain ⟨d1, d2, d3⟩ := ca k hlt
          have hd := (hr0.keep hgr).data k hlt
          have l1 : (k : Int) < 7 := by omega
          have p1 := BxS.new wr 83 #[.int .i64 (F k).ow, .slice (F k).a (F k).n (F k).c, .int .i64 (F k).go]
          have gA := World.grownBy_alloc wr (.cells #[.int .i64 (F k).ow, .slice (F k).a (F k).n (F k).c, .int .i64 (F k).go] 83) none
          generalize hw1 : wr.alloc (.cells #[.int .i64 (F k).ow, .slice (F k).a (F k).n (F k).c, .int .i64 (F k).go] 83) = w1 at p1 gA
          obtain ⟨e1, e2, e3⟩ := p1.cell3
          have ho := queueMay_any (F k) w1 (hd.keep gA)
          cases hv : quB (F k) with
          | true =>
            rw [hv] at ho
            have HK1 : Hid (alQ F (k + 1) = true) := show (alQ F k && quB (F k)) = true by rw [HK.out, hv]; rfl
            clear ca hd hv
            go_wp2_with (go_at_call 74; refine ho.mono ?_; rintro e w2 ⟨rfl, g2⟩)
            go_roundw
            case rel => exact ⟨k + 1, by omega, by go_num, HK1, grown_trans hgr (grown_trans gA g2)⟩
            case measure => simp [intOf]; omega
          | false =>
            rw [hv] at ho
            have hZ : Z = false := by rw [HQ.out]; exact alQ_no F k hv 7 hlt
            subst hZ
            clear ca hd hv
            go_wp2_with (go_at_call 74; refine ho.mono ?_; rintro e w2 ⟨rfl, g2⟩)
            go_ret
            exact ⟨rfl, grown_trans g0 (grown_trans hgr (grown_trans gA g2))⟩
        · obtain rfl : k = 7 := by omega
          have hZ : Z = true := HQ.out.trans HK.out
          subst hZ
          go_wp2
          go_ret
          exact ⟨rfl, grown_trans g0 hgr⟩
    · have hZ : Z = false := by
        rw [HQ.out]
        cases b1 <;> cases b2 <;> simp_all
      subst hZ
      by_cases hn7 : n = 7
      · subst hn7
        cases b1 <;> cases b2
        all_goals first | exact absurd ⟨rfl, rfl, rfl⟩ hb | skip
        all_goals
          clear hb
          go_enter Try.func56, Try.ntmps56
          go_wp2_with (first
            | (go_at_call 51; have _t := t1; clear t1; refine (h0 _).mono ?_; rintro e wx ⟨rfl, hw⟩; have hw := hw.symm; subst hw; have t2 : True := trivial)
            | (go_at_call 43; have _t := t2; clear t2; refine (h1 _).mono ?_; rintro e wx ⟨rfl, hw⟩; have hw := hw.symm; subst hw; have t3 : True := trivial)
            | (go_at_call 43; have _t := t3; clear t3; refine (h2 _).mono ?_; rintro e wx ⟨rfl, hw⟩; have hw := hw.symm; subst hw))
          go_ret
          exact ⟨rfl, g0⟩
      · have hn2 : (((n : Int) != 7) : Bool) = true := by simp; omega
        clear hb hn7
        cases b1 <;> cases b2
        all_goals
          go_enter Try.func56, Try.ntmps56
          go_wp2_with (first
            | (go_at_call 51; have _t := t1; clear t1; refine (h0 _).mono ?_; rintro e wx ⟨rfl, hw⟩; have hw := hw.symm; subst hw; have t2 : True := trivial)
            | (go_at_call 43; have _t := t2; clear t2; refine (h1 _).mono ?_; rintro e wx ⟨rfl, hw⟩; have hw := hw.symm; subst hw; have t3 : True := trivial)
            | (go_at_call 43; have _t := t3; clear t3; refine (h2 _).mono ?_; rintro e wx ⟨rfl, hw⟩; have hw := hw.symm; subst hw))
          go_ret
          exact ⟨rfl, g0⟩
  · have hZ : Z = false := by rw [HQ.out, decide_eq_false hE]; simp
    subst hZ
    have hne : (((E : Int) != 0) : Bool) = true := by simp; omega
    clear hE
    go_enter Try.func56, Try.ntmps56
    go_wp2_with (first
      | (go_at_call 51; have _t := t1; clear t1; refine (h0 _).mono ?_; rintro e wx ⟨rfl, hw⟩; have hw := hw.symm; subst hw))
    go_ret
    exact ⟨rfl, g0⟩
end Go.Proofs.Ytlmddjkplnbadaa
