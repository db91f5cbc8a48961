import Derived.Test.YtlmddjkplnbadaaNPu1
namespace Go.Proofs.Ytlmddjkplnbadaa
open Go.RowKit
set_option maxRecDepth 100000
set_option linter.unusedVariables false
set_option linter.unusedSimpArgs false

def alP (F : Nat → Rw) : Nat → Bool
  | 0 => true
  | k + 1 => alP F k && onP (F k).D
theorem alP_no (F : Nat → Rw) (k : Nat) (h : onP (F k).D = false) (n : Nat) (hk : k < n) : alP F n = false := by
  induction n with
  | zero => omega
  | succ n ih =>
    show (alP F n && onP (F n).D) = false
    by_cases e : k = n
    · subst e; rw [h, Bool.and_false]
    · rw [ih (by omega), Bool.false_and]
/-- may what is gone of a queue be so? -/
def goB (q : Qu) : Bool := if q.n = 0 then decide (q.go = 0) else wiB q.go (((q.R 0).n : Int) - 1)
/-- may a queue be? -/
def quB (q : Qu) : Bool := wiB q.ow 255 && decide (q.n ≤ 200) && alP q.R q.n && goB q
set_option maxHeartbeats 8000000 in
theorem queueMay_any (q : Qu) (w : World) (h : RdR w q.a q.n q.c q.R) :
    Calls Try.prog 74 #[.agg #[.int .i64 q.ow, .slice q.a q.n q.c, .int .i64 q.go]] w fun e w' => e = .returned (.bool (quB q)) ∧ w.grownBy w' none := by
  have hle := h.le
  have hmx := h.max
  unfold maxLen at hmx
  have h0 := fun wz => fwithin_any q.ow 255 wz
  have b0 := BxS.new w 83 #[.int .i64 q.ow, .slice q.a q.n q.c, .int .i64 q.go]
  have g0 := World.grownBy_alloc w (.cells #[.int .i64 q.ow, .slice q.a q.n q.c, .int .i64 q.go] 83) none
  obtain ⟨ow, a, n, c, go, R⟩ := q
  simp only at *
  generalize hw0 : w.alloc (.cells #[.int .i64 ow, .slice a n c, .int .i64 go] 83) = w0 at b0 g0
  obtain ⟨c0, c1, c2⟩ := b0.cell3
  have HQ : Hid (quB ⟨ow, a, n, c, go, R⟩ = (wiB ow 255 && decide (n ≤ 200) && alP R n && goB ⟨ow, a, n, c, go, R⟩)) := show _ = _ from rfl
  generalize quB ⟨ow, a, n, c, go, R⟩ = Z at HQ ⊢
  generalize wiB ow 255 = b1 at h0 HQ
  have t1 : True := trivial
  cases b1 with
  | false =>
    have hZ : Z = false := by rw [HQ.out]; simp
    subst hZ
    go_enter Try.func74, Try.ntmps74
    go_wp2_with (go_at_call 43; have _t := t1; clear t1; refine (h0 _).mono ?_; rintro e wx ⟨rfl, hw⟩; have hw := hw.symm; subst hw)
    go_ret
    exact ⟨rfl, g0⟩
  | true =>
    by_cases hn : n ≤ 200
    · rw [decide_eq_true hn] at HQ
      have hr0 := h.keep g0
      go_enter Try.func74, Try.ntmps74
      go_wp2_with (go_at_call 43; have _t := t1; clear t1; refine (h0 _).mono ?_; rintro e wx ⟨rfl, hw⟩; have hw := hw.symm; subst hw)
      clear c0 c1 c2 hw0
      go_loopw [18] (fun i wr => ∃ k : Nat, k ≤ n ∧ i = .int .i64 k ∧ Hid (alP R k = true) ∧ w0.grownBy wr none) (fun i _ => n - (intOf i).toNat)
      case atStart => exact ⟨0, by omega, rfl, show alP R 0 = true from rfl, World.grownBy.refl _ _⟩
      case round =>
        obtain ⟨k, hk, rfl, HK, hgr⟩ := hrel
        obtain ⟨c0, c1, c2⟩ := (b0.keep hgr (by simp)).cell3
        by_cases hlt : k < n
        · obtain ⟨ba, oa, rfl, _, ca⟩ := (hr0.keep hgr).at' (by omega)
          have ck := ca k hlt
          have hd := (hr0.keep hgr).data k hlt
          have ho := onePacket_any _ _ _ _ wr hd
          have l1 : (k : Int) < (n : Int) := by omega
          cases hv : onP (R k).D with
          | true =>
            rw [hv] at ho
            have HK1 : Hid (alP R (k + 1) = true) := show (alP R k && onP (R k).D) = true by rw [HK.out, hv]; rfl
            clear ca hd hv
            go_wp2_with (go_at_call 58; refine ho.mono ?_; rintro e w1 ⟨rfl, g1⟩)
            go_roundw
            case rel => exact ⟨k + 1, by omega, by go_num, HK1, grown_trans hgr g1⟩
            case measure => simp [intOf]; omega
          | false =>
            rw [hv] at ho
            have hZ : Z = false := by rw [HQ.out, alP_no R k hv n hlt]; simp
            subst hZ
            clear ca hd hv
            go_wp2_with (go_at_call 58; refine ho.mono ?_; rintro e w1 ⟨rfl, g1⟩)
            go_ret
            exact ⟨rfl, grown_trans g0 (grown_trans hgr g1)⟩
        · obtain rfl : k = n := by omega
          rw [HK.out] at HQ
          by_cases hz : k = 0
          · subst hz
            have hZ : Z = decide (go = 0) := by rw [HQ.out]; unfold goB; simp
            by_cases hgo : go = 0
            · rw [decide_eq_true hgo] at hZ
              subst hZ; subst hgo
              go_wp2
              go_ret
              exact ⟨rfl, grown_trans g0 hgr⟩
            · rw [decide_eq_false hgo] at hZ
              have hg2 : ((go == 0) : Bool) = false := by simpa using hgo
              subst hZ
              clear hgo
              go_wp2
              go_ret
              exact ⟨rfl, grown_trans g0 hgr⟩
          · have hZ : Z = wiB go (((R 0).n : Int) - 1) := by rw [HQ.out]; unfold goB; simp [hz]
            obtain ⟨ba, oa, rfl, _, ca⟩ := (hr0.keep hgr).at' (by omega)
            have ck := ca 0 (by omega)
            rw [Nat.add_zero] at ck
            have hd := (hr0.keep hgr).data 0 (by omega)
            have hdl := hd.le
            have hdm := hd.max
            unfold maxLen at hdm
            have hwi := fun z => Calls.quiet_of_same (n := z) (fwithin_any go (((R 0).n : Int) - 1) (wr.drewN z))
            rw [← hZ] at hwi
            have r1 : IntKind.i64.wrap (((R 0).n : Int) - 1) = ((R 0).n : Int) - 1 := wrap_i64_in _ (by omega) (by omega)
            have hk0 : (((k : Int) == 0) : Bool) = false := by simp; omega
            have l1 : (0 : Int) < (k : Int) := by omega
            have l2 : 0 < k := by omega
            clear ca hd hdl hdm hZ
            go_wp2
            go_quiet (first | (go_at_call 43; with_reducible exact hwi _))
            go_wp2
            go_ret
            exact ⟨rfl, grown_trans g0 (grown_trans hgr (grown_drewN _ _ _))⟩
    · have hZ : Z = false := by rw [HQ.out, decide_eq_false hn]; simp
      subst hZ
      have hn2 : 200 < n := by omega
      clear hn
      go_enter Try.func74, Try.ntmps74
      go_wp2_with (go_at_call 43; have _t := t1; clear t1; refine (h0 _).mono ?_; rintro e wx ⟨rfl, hw⟩; have hw := hw.symm; subst hw)
      go_ret
      exact ⟨rfl, g0⟩
end Go.Proofs.Ytlmddjkplnbadaa
