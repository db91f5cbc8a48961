import Derived.Deep.RegionHeld3
import Derived.Test.YtlmddjkplnbadaaNOn1
import Derived.Test.YtlmddjkplnbadaaPDec
namespace Go.Proofs.Ytlmddjkplnbadaa
open Go.RowKit
set_option maxRecDepth 100000
set_option linter.unusedVariables false
set_option linter.unusedSimpArgs false

/-- are these the bytes of just one packet? -/
def onP (B : List Nat) : Bool := decide (dcE B = 0) && decide (dcK B = B.length)
set_option maxHeartbeats 4000000 in
theorem onePacket_any (a : Option Addr) (n cap : Nat) (B : List Nat) (w : World) (hR : Rd w a n cap B) :
    Calls Try.prog 58 #[.slice a n cap] w fun e w' => e = .returned (.bool (onP B)) ∧ w.grownBy w' none := by
  have hd := decode_any a n cap B w hR
  unfold onP
  rw [hR.len]
  unfold pkV at hd
  generalize dcU B = x0 at hd
  generalize dcS B = x1 at hd
  generalize dcA B = x2 at hd
  generalize dcP B = x3 at hd
  generalize dcC B = x4 at hd
  generalize dcD B = x5 at hd
  generalize dcK B = k at hd ⊢
  generalize dcE B = E at hd ⊢
  by_cases hE : E = 0
  · rw [decide_eq_true hE, Bool.true_and]
    subst hE
    by_cases hk : k = n
    · rw [decide_eq_true hk]
      subst hk
      go_enter Try.func58, Try.ntmps58
      go_wp2_with (go_at_call 75; refine hd.mono ?_; rintro e w1 ⟨a1, n1, c1, rfl, _, g1⟩)
      go_ret
      exact ⟨rfl, grown_trans g1 (World.grownBy_alloc _ _ _)⟩
    · rw [decide_eq_false hk]
      have hb : (((k : Int) == (n : Int)) : Bool) = false := by simp; omega
      clear hk
      go_enter Try.func58, Try.ntmps58
      go_wp2_with (go_at_call 75; refine hd.mono ?_; rintro e w1 ⟨a1, n1, c1, rfl, _, g1⟩)
      go_ret
      exact ⟨rfl, grown_trans g1 (World.grownBy_alloc _ _ _)⟩
  · rw [decide_eq_false hE, Bool.false_and]
    have hb : (((E : Int) == 0) : Bool) = false := by simp; omega
    clear hE
    go_enter Try.func58, Try.ntmps58
    go_wp2_with (go_at_call 75; refine hd.mono ?_; rintro e w1 ⟨a1, n1, c1, rfl, _, g1⟩)
    go_ret
    exact ⟨rfl, grown_trans g1 (World.grownBy_alloc _ _ _)⟩
def alP (F : Nat → Rw) : Nat → Bool
  | 0 => true
  | k + 1 => alP F k && onP (F k).D
theorem alP_no (F : Nat → Rw) (k : Nat) (h : onP (F k).D = false) (n : Nat) (hk : k < n) : alP F n = false := by
  induction n with
  | zero => omega
  | succ n ih =>
    show (alP F n && onP (F n).D) = false
    by_cases e : k = n
    · subst e; rw [h, Bool.and_false]
    · rw [ih (by omega), Bool.false_and]
/-- may what is gone of a queue be so? -/
def goB (q : Qu) : Bool := if q.n = 0 then decide (q.go = 0) else wiB q.go (((q.R 0).n : Int) - 1)
/-- may a queue be? -/
def quB (q : Qu) : Bool := wiB q.ow 255 && decide (q.n ≤ 200) && alP q.R q.n && goB q
set_option maxHeartbeats 8000000 in
theorem queueMay_any (q : Qu) (w : World) (h : RdR w q.a q.n q.c q.R) :
    Calls Try.prog 74 #[.agg #[.int .i64 q.ow, .slice q.a q.n q.c, .int .i64 q.go]] w fun e w' => e = .returned (.bool (quB q)) ∧ w.grownBy w' none := by
  have hle := h.le
  have hmx := h.max
  unfold maxLen at hmx
  have h0 := fun wz => fwithin_any q.ow 255 wz
  have b0 := BxS.new w 83 #[.int .i64 q.ow, .slice q.a q.n q.c, .int .i64 q.go]
  have g0 := World.grownBy_alloc w (.cells #[.int .i64 q.ow, .slice q.a q.n q.c, .int .i64 q.go] 83) none
  obtain ⟨ow, a, n, c, go, R⟩ := q
  simp only at *
  generalize hw0 : w.alloc (.cells #[.int .i64 ow, .slice a n c, .int .i64 go] 83) = w0 at b0 g0
  obtain ⟨c0, c1, c2⟩ := b0.cell3
  have HQ : Hid (quB ⟨ow, a, n, c, go, R⟩ = (wiB ow 255 && decide (n ≤ 200) && alP R n && goB ⟨ow, a, n, c, go, R⟩)) := show _ = _ from rfl
  generalize quB ⟨ow, a, n, c, go, R⟩ = Z at HQ ⊢
  generalize wiB ow 255 = b1 at h0 HQ
  have t1 : True := trivial
  cases b1 with
  | false =>
    have hZ : Z = false := by rw [HQ.out]; simp
    subst hZ
    go_enter Try.func74, Try.ntmps74
    go_wp2_with (go_at_call 43; have _t := t1; clear t1; refine (h0 _).mono ?_; rintro e wx ⟨rfl, hw⟩; have hw := hw.symm; subst hw)
    go_ret
    exact ⟨rfl, g0⟩
  | true =>
    by_cases hn : n ≤ 200
    · rw [decide_eq_true hn] at HQ
      have hr0 := h.keep g0
      go_enter Try.func74, Try.ntmps74
      go_wp2_with (go_at_call 43; have _t := t1; clear t1; refine (h0 _).mono ?_; rintro e wx ⟨rfl, hw⟩; have hw := hw.symm; subst hw)
      clear c0 c1 c2 hw0
      go_loopw [18] (fun i wr => ∃ k : Nat, k ≤ n ∧ i = .int .i64 k ∧ Hid (alP R k = true) ∧ w0.grownBy wr none) (fun i _ => n - (intOf i).toNat)
      case atStart => exact ⟨0, by omega, rfl, show alP R 0 = true from rfl, World.grownBy.refl _ _⟩
      case round =>
        obtain ⟨k, hk, rfl, HK, hgr⟩ := hrel
        obtain ⟨c0, c1, c2⟩ := (b0.keep hgr (by simp)).cell3
        by_cases hlt : k < n
        · obtain ⟨ba, oa, rfl, _, ca⟩ := (hr0.keep hgr).at' (by omega)
          have ck := ca k hlt
          have hd := (hr0.keep hgr).data k hlt
          have ho := onePacket_any _ _ _ _ wr hd
          have l1 : (k : Int) < (n : Int) := by omega
          cases hv : onP (R k).D with
          | true =>
            rw [hv] at ho
            have HK1 : Hid (alP R (k + 1) = true) := show (alP R k && onP (R k).D) = true by rw [HK.out, hv]; rfl
            clear ca hd hv
            go_wp2_with (go_at_call 58; refine ho.mono ?_; rintro e w1 ⟨rfl, g1⟩)
            go_roundw
            case rel => exact ⟨k + 1, by omega, by go_num, HK1, grown_trans hgr g1⟩
            case measure => simp [intOf]; omega
          | false =>
            rw [hv] at ho
            have hZ : Z = false := by rw [HQ.out, alP_no R k hv n hlt]; simp
            subst hZ
            clear ca hd hv
            go_wp2_with (go_at_call 58; refine ho.mono ?_; rintro e w1 ⟨rfl, g1⟩)
            go_ret
            exact ⟨rfl, grown_trans g0 (grown_trans hgr g1)⟩
        · obtain rfl : k = n := by omega
          rw [HK.out] at HQ
          by_cases hz : k = 0
          · subst hz
            have hZ : Z = decide (go = 0) := by rw [HQ.out]; unfold goB; simp
            by_cases hgo : go = 0
            · rw [decide_eq_true hgo] at hZ
              subst hZ; subst hgo
              go_wp2
              go_ret
              exact ⟨rfl, grown_trans g0 hgr⟩
            · rw [decide_eq_false hgo] at hZ
              have hg2 : ((go == 0) : Bool) = false := by simpa using hgo
              subst hZ
              clear hgo
              go_wp2
              go_ret
              exact ⟨rfl, grown_trans g0 hgr⟩
          · have hZ : Z = wiB go (((R 0).n : Int) - 1) := by rw [HQ.out]; unfold goB; simp [hz]
            obtain ⟨ba, oa, rfl, _, ca⟩ := (hr0.keep hgr).at' (by omega)
            have ck := ca 0 (by omega)
            rw [Nat.add_zero] at ck
            have hd := (hr0.keep hgr).data 0 (by omega)
            have hdl := hd.le
            have hdm := hd.max
            unfold maxLen at hdm
            have hwi := fun z => Calls.quiet_of_same (n := z) (fwithin_any go (((R 0).n : Int) - 1) (wr.drewN z))
            rw [← hZ] at hwi
            have r1 : IntKind.i64.wrap (((R 0).n : Int) - 1) = ((R 0).n : Int) - 1 := wrap_i64_in _ (by omega) (by omega)
            have hk0 : (((k : Int) == 0) : Bool) = false := by simp; omega
            have l1 : (0 : Int) < (k : Int) := by omega
            have l2 : 0 < k := by omega
            clear ca hd hdl hdm hZ
            go_wp2
            go_quiet (first | (go_at_call 43; with_reducible exact hwi _))
            go_wp2
            go_ret
            exact ⟨rfl, grown_trans g0 (grown_trans hgr (grown_drewN _ _ _))⟩
    · have hZ : Z = false := by rw [HQ.out, decide_eq_false hn]; simp
      subst hZ
      have hn2 : 200 < n := by omega
      clear hn
      go_enter Try.func74, Try.ntmps74
      go_wp2_with (go_at_call 43; have _t := t1; clear t1; refine (h0 _).mono ?_; rintro e wx ⟨rfl, hw⟩; have hw := hw.symm; subst hw)
      go_ret
      exact ⟨rfl, g0⟩

def alQ (F : Nat → Qu) : Nat → Bool
  | 0 => true
  | k + 1 => alQ F k && quB (F k)
theorem alQ_no (F : Nat → Qu) (k : Nat) (h : quB (F k) = false) (n : Nat) (hk : k < n) : alQ F n = false := by
  induction n with
  | zero => omega
  | succ n ih =>
    show (alQ F n && quB (F n)) = false
    by_cases e : k = n
    · subst e; rw [h, Bool.and_false]
    · rw [ih (by omega), Bool.false_and]
/-- may a sender be? -/
def seB (cr sz ma tu : Int) (n : Nat) (F : Nat → Qu) : Bool := decide (opE cr sz = 0) && wiB ma 255 && wiB tu 6 && decide (n = 7) && alQ F n
set_option maxHeartbeats 8000000 in
theorem senderMay_any (cr sz ma tu : Int) (a : Option Addr) (n cap : Nat) (F : Nat → Qu) (w : World) (h : RdQ w a n cap F) :
    Calls Try.prog 56 #[.agg (seA cr sz ma tu a n cap)] w fun e w' => e = .returned (.bool (seB cr sz ma tu n F)) ∧ w.grownBy w' none := by
  have hle := h.le
  have hmx := h.max
  unfold maxLen at hmx
  have h0 := fun wz => fwrong_any cr sz wz
  have h1 := fun wz => fwithin_any ma 255 wz
  have h2 := fun wz => fwithin_any tu 6 wz
  have b0 := BxS.new w 38 (seA cr sz ma tu a n cap)
  have g0 := World.grownBy_alloc w (.cells (seA cr sz ma tu a n cap) 38) none
  unfold seA at b0 g0 ⊢
  generalize hw0 : w.alloc (.cells #[.int .i64 cr, .int .i64 sz, .int .i64 ma, .int .i64 tu, .slice a n cap] 38) = w0 at b0 g0
  obtain ⟨c0, c1, c2, c3, c4⟩ := b0.cell5
  have HQ : Hid (seB cr sz ma tu n F = (decide (opE cr sz = 0) && wiB ma 255 && wiB tu 6 && decide (n = 7) && alQ F n)) := show _ = _ from rfl
  generalize seB cr sz ma tu n F = Z at HQ ⊢
  generalize opE cr sz = E at h0 HQ
  generalize wiB ma 255 = b1 at h1 HQ
  generalize wiB tu 6 = b2 at h2 HQ
  have t1 : True := trivial
  by_cases hE : E = 0
  · rw [decide_eq_true hE] at HQ
    subst hE
    by_cases hb : b1 = true ∧ b2 = true ∧ n = 7
    · obtain ⟨rfl, rfl, rfl⟩ := hb
      have HQ : Hid (Z = alQ F 7) := show Z = alQ F 7 by have := HQ.out; simpa using this
      have hr0 := h.keep g0
      go_enter Try.func56, Try.ntmps56
      go_wp2_with (first
        | (go_at_call 51; have _t := t1; clear t1; refine (h0 _).mono ?_; rintro e wx ⟨rfl, hw⟩; have hw := hw.symm; subst hw; have t2 : True := trivial)
        | (go_at_call 43; have _t := t2; clear t2; refine (h1 _).mono ?_; rintro e wx ⟨rfl, hw⟩; have hw := hw.symm; subst hw; have t3 : True := trivial)
        | (go_at_call 43; have _t := t3; clear t3; refine (h2 _).mono ?_; rintro e wx ⟨rfl, hw⟩; have hw := hw.symm; subst hw))
      clear c0 c1 c2 c3 c4 hw0
      go_loopw [32] (fun i wr => ∃ k : Nat, k ≤ 7 ∧ i = .int .i64 k ∧ Hid (alQ F k = true) ∧ w0.grownBy wr none) (fun i _ => 7 - (intOf i).toNat)
      case atStart => exact ⟨0, by omega, rfl, show alQ F 0 = true from rfl, World.grownBy.refl _ _⟩
      case round =>
        obtain ⟨k, hk, rfl, HK, hgr⟩ := hrel
        by_cases hlt : k < 7
        · obtain ⟨ba, oa, rfl, hba, ca⟩ := (hr0.keep hgr).at' (by omega)
          obtain ⟨d1, d2, d3⟩ := ca k hlt
          have hd := (hr0.keep hgr).data k hlt
          have l1 : (k : Int) < 7 := by omega
          have p1 := BxS.new wr 83 #[.int .i64 (F k).ow, .slice (F k).a (F k).n (F k).c, .int .i64 (F k).go]
          have gA := World.grownBy_alloc wr (.cells #[.int .i64 (F k).ow, .slice (F k).a (F k).n (F k).c, .int .i64 (F k).go] 83) none
          generalize hw1 : wr.alloc (.cells #[.int .i64 (F k).ow, .slice (F k).a (F k).n (F k).c, .int .i64 (F k).go] 83) = w1 at p1 gA
          obtain ⟨e1, e2, e3⟩ := p1.cell3
          have ho := queueMay_any (F k) w1 (hd.keep gA)
          cases hv : quB (F k) with
          | true =>
            rw [hv] at ho
            have HK1 : Hid (alQ F (k + 1) = true) := show (alQ F k && quB (F k)) = true by rw [HK.out, hv]; rfl
            clear ca hd hv
            go_wp2_with (go_at_call 74; refine ho.mono ?_; rintro e w2 ⟨rfl, g2⟩)
            go_roundw
            case rel => exact ⟨k + 1, by omega, by go_num, HK1, grown_trans hgr (grown_trans gA g2)⟩
            case measure => simp [intOf]; omega
          | false =>
            rw [hv] at ho
            have hZ : Z = false := by rw [HQ.out]; exact alQ_no F k hv 7 hlt
            subst hZ
            clear ca hd hv
            go_wp2_with (go_at_call 74; refine ho.mono ?_; rintro e w2 ⟨rfl, g2⟩)
            go_ret
            exact ⟨rfl, grown_trans g0 (grown_trans hgr (grown_trans gA g2))⟩
        · obtain rfl : k = 7 := by omega
          have hZ : Z = true := HQ.out.trans HK.out
          subst hZ
          go_wp2
          go_ret
          exact ⟨rfl, grown_trans g0 hgr⟩
    · have hZ : Z = false := by
        rw [HQ.out]
        cases b1 <;> cases b2 <;> simp_all
      subst hZ
      by_cases hn7 : n = 7
      · subst hn7
        cases b1 <;> cases b2
        all_goals first | exact absurd ⟨rfl, rfl, rfl⟩ hb | skip
        all_goals
          clear hb
          go_enter Try.func56, Try.ntmps56
          go_wp2_with (first
            | (go_at_call 51; have _t := t1; clear t1; refine (h0 _).mono ?_; rintro e wx ⟨rfl, hw⟩; have hw := hw.symm; subst hw; have t2 : True := trivial)
            | (go_at_call 43; have _t := t2; clear t2; refine (h1 _).mono ?_; rintro e wx ⟨rfl, hw⟩; have hw := hw.symm; subst hw; have t3 : True := trivial)
            | (go_at_call 43; have _t := t3; clear t3; refine (h2 _).mono ?_; rintro e wx ⟨rfl, hw⟩; have hw := hw.symm; subst hw))
          go_ret
          exact ⟨rfl, g0⟩
      · have hn2 : (((n : Int) != 7) : Bool) = true := by simp; omega
        clear hb hn7
        cases b1 <;> cases b2
        all_goals
          go_enter Try.func56, Try.ntmps56
          go_wp2_with (first
            | (go_at_call 51; have _t := t1; clear t1; refine (h0 _).mono ?_; rintro e wx ⟨rfl, hw⟩; have hw := hw.symm; subst hw; have t2 : True := trivial)
            | (go_at_call 43; have _t := t2; clear t2; refine (h1 _).mono ?_; rintro e wx ⟨rfl, hw⟩; have hw := hw.symm; subst hw; have t3 : True := trivial)
            | (go_at_call 43; have _t := t3; clear t3; refine (h2 _).mono ?_; rintro e wx ⟨rfl, hw⟩; have hw := hw.symm; subst hw))
          go_ret
          exact ⟨rfl, g0⟩
  · have hZ : Z = false := by rw [HQ.out, decide_eq_false hE]; simp
    subst hZ
    have hne : (((E : Int) != 0) : Bool) = true := by simp; omega
    clear hE
    go_enter Try.func56, Try.ntmps56
    go_wp2_with (first
      | (go_at_call 51; have _t := t1; clear t1; refine (h0 _).mono ?_; rintro e wx ⟨rfl, hw⟩; have hw := hw.symm; subst hw))
    go_ret
    exact ⟨rfl, g0⟩

end Go.Proofs.Ytlmddjkplnbadaa
