import Derived.Test.YtlmddjkplnbadaaNOn1
namespace Go.Proofs.Ytlmddjkplnbadaa
open Go.RowKit
set_option maxRecDepth 100000
set_option linter.unusedVariables false
set_option linter.unusedSimpArgs false

def exB (n : Int) : Bool := decide (-1 ≤ n ∧ n ≤ 255)
theorem expectable_any (n : Int) (w : World) : Calls Try.prog 80 #[.int .i64 n] w fun e w' => e = .returned (.bool (exB n)) ∧ w' = w := by
  have h0 := fun wz => fwithin_any n 255 wz
  by_cases h : n = -1
  · subst h
    go_enter Try.func80, Try.ntmps80
    go_wp2_with (go_at_call 43; refine (h0 _).mono ?_; rintro e wx ⟨rfl, hw⟩; have hw := hw.symm; subst hw)
    go_ret
    exact ⟨rfl, rfl⟩
  · have e : exB n = wiB n 255 := by unfold exB wiB; exact decide_eq_decide.2 (by omega)
    rw [e]
    have hb : ((n == -1) : Bool) = false := by simpa using h
    clear h e
    go_enter Try.func80, Try.ntmps80
    go_wp2_with (go_at_call 43; refine (h0 _).mono ?_; rintro e wx ⟨rfl, hw⟩; have hw := hw.symm; subst hw)
    go_ret
    exact ⟨rfl, rfl⟩
/-- may an ear be? -/
def erB (e : Er) : Bool := exB e.x && decide (e.r.n ≤ 65541) && !(decide (e.x = -1) && decide (0 < e.r.n))
def alE (F : Nat → Er) : Nat → Bool
  | 0 => true
  | k + 1 => alE F k && erB (F k)
theorem alE_no (F : Nat → Er) (k : Nat) (h : erB (F k) = false) (n : Nat) (hk : k < n) : alE F n = false := by
  induction n with
  | zero => omega
  | succ n ih =>
    show (alE F n && erB (F n)) = false
    by_cases e : k = n
    · subst e; rw [h, Bool.and_false]
    · rw [ih (by omega), Bool.false_and]
/-- may a listener be? -/
def leB (cr sz ma : Int) (n : Nat) (F : Nat → Er) : Bool := decide (opE cr sz = 0) && exB ma && decide (n = 7) && alE F n
set_option maxHeartbeats 8000000 in
theorem listenerMay_any (cr sz ma : Int) (a : Option Addr) (n cap : Nat) (F : Nat → Er) (w : World) (h : RdE w a n cap F) :
    Calls Try.prog 65 #[.agg (liA cr sz ma a n cap)] w fun e w' => e = .returned (.bool (leB cr sz ma n F)) ∧ w.grownBy w' none := by
  have hle := h.le
  have hmx := h.max
  unfold maxLen at hmx
  have h0 := fun wz => fwrong_any cr sz wz
  have h1 := fun wz => expectable_any ma wz
  have b0 := BxS.new w 43 (liA cr sz ma a n cap)
  have g0 := World.grownBy_alloc w (.cells (liA cr sz ma a n cap) 43) none
  unfold liA at b0 g0 ⊢
  generalize hw0 : w.alloc (.cells #[.int .i64 cr, .int .i64 sz, .int .i64 ma, .slice a n cap] 43) = w0 at b0 g0
  obtain ⟨c0, c1, c2, c3⟩ := b0.cell4
  have HQ : Hid (leB cr sz ma n F = (decide (opE cr sz = 0) && exB ma && decide (n = 7) && alE F n)) := show _ = _ from rfl
  generalize leB cr sz ma n F = Z at HQ ⊢
  generalize opE cr sz = E at h0 HQ
  generalize exB ma = b1 at h1 HQ
  have t1 : True := trivial
  by_cases hE : E = 0
  · rw [decide_eq_true hE] at HQ
    subst hE
    by_cases hb : b1 = true ∧ n = 7
    · obtain ⟨rfl, rfl⟩ := hb
      have HQ : Hid (Z = alE F 7) := show Z = alE F 7 by have := HQ.out; simpa using this
      have hr0 := h.keep g0
      go_enter Try.func65, Try.ntmps65
      go_wp2_with (first
        | (go_at_call 51; have _t := t1; clear t1; refine (h0 _).mono ?_; rintro e wx ⟨rfl, hw⟩; have hw := hw.symm; subst hw; have t2 : True := trivial)
        | (go_at_call 80; have _t := t2; clear t2; refine (h1 _).mono ?_; rintro e wx ⟨rfl, hw⟩; have hw := hw.symm; subst hw))
      clear c0 c1 c2 c3 hw0
      go_loopw [26] (fun i wr => ∃ k : Nat, k ≤ 7 ∧ i = .int .i64 k ∧ Hid (alE F k = true) ∧ w0.grownBy wr none) (fun i _ => 7 - (intOf i).toNat)
      case atStart => exact ⟨0, by omega, rfl, show alE F 0 = true from rfl, World.grownBy.refl _ _⟩
      case round =>
        obtain ⟨k, hk, rfl, HK, hgr⟩ := hrel
        by_cases hlt : k < 7
        · obtain ⟨ba, oa, rfl, hba, ca⟩ := (hr0.keep hgr).at' (by omega)
          obtain ⟨d1, d2⟩ := ca k hlt
          have l1 : (k : Int) < 7 := by omega
          have HN : Hid (erB (F k) = false → alE F 7 = false) := fun h => alE_no F k h 7 hlt
          have HY : Hid (erB (F k) = true → alE F (k + 1) = true) := fun h => show (alE F k && erB (F k)) = true by rw [HK.out, h]; rfl
          have hx := fun wz => expectable_any (F k).x wz
          have HV : Hid (erB (F k) = (exB (F k).x && decide ((F k).r.n ≤ 65541) && !(decide ((F k).x = -1) && decide (0 < (F k).r.n)))) := show _ = _ from rfl
          have hdl := (hr0.data k hlt).le
          have hdm := (hr0.data k hlt).max
          unfold maxLen at hdm
          generalize erB (F k) = v at HN HY HV
          generalize (F k).x = x at *
          generalize (F k).r.n = rn at *
          generalize (F k).r.c = rc at *
          generalize (F k).r.a = ra at *
          have p1 := BxS.new wr 68 #[.int .i64 x, .slice ra rn rc]
          have gA := World.grownBy_alloc wr (.cells #[.int .i64 x, .slice ra rn rc] 68) none
          generalize hw1 : wr.alloc (.cells #[.int .i64 x, .slice ra rn rc] 68) = w1 at p1 gA
          have e1 : w1.cell? ⟨wr.heap.size, 0, none⟩ = some (.int .i64 x) := p1.cell 0 (by show 0 < 2; decide)
          have e2 : w1.cell? ⟨wr.heap.size, 1, none⟩ = some (.slice ra rn rc) := p1.cell 1 (by show 1 < 2; decide)
          clear ca
          generalize exB x = xb at hx HV
          cases v with
          | true =>
            have hv := HV.out
            simp only [Bool.true_eq, Bool.and_eq_true, decide_eq_true_eq, Bool.not_eq_true', Bool.and_eq_false_iff, decide_eq_false_iff_not] at hv
            obtain ⟨⟨rfl, v2⟩, v3⟩ := hv
            have HY1 := HY.out rfl
            have HY1 : Hid _ := HY1
            have hno : ((x == -1) : Bool) = false ∨ (x = -1 ∧ rn = 0) := by
              rcases v3 with v3 | v3
              · exact .inl (by simpa using v3)
              · by_cases q : x = -1
                · exact .inr ⟨q, by omega⟩
                · exact .inl (by simpa using q)
            clear v3
            rcases hno with hno | ⟨rfl, rfl⟩
            all_goals
              go_wp2_with (go_at_call 80; refine (hx _).mono ?_; rintro e wx ⟨rfl, hw⟩; have hw := hw.symm; subst hw)
              go_roundw
              case rel => exact ⟨k + 1, by omega, by go_num, HY1, grown_trans hgr gA⟩
              case measure => simp [intOf]; omega
          | false =>
            have hZ : Z = false := HQ.out.trans (HN.out rfl)
            subst hZ
            have hv := HV.out
            cases xb with
            | false =>
              clear hv
              go_wp2_with (go_at_call 80; refine (hx _).mono ?_; rintro e wx ⟨rfl, hw⟩; have hw := hw.symm; subst hw)
              go_ret
              exact ⟨rfl, grown_trans g0 (grown_trans hgr gA)⟩
            | true =>
              by_cases v2 : rn ≤ 65541
              · rw [decide_eq_true v2] at hv
                have v3 : x = -1 ∧ 0 < rn := by
                  by_cases q : x = -1 ∧ 0 < rn
                  · exact q
                  · exfalso
                    have : (decide (x = -1) && decide (0 < rn)) = false := by
                      by_cases q1 : x = -1
                      · have q2 : ¬ 0 < rn := fun e => q ⟨q1, e⟩
                        rw [decide_eq_false q2, Bool.and_false]
                      · rw [decide_eq_false q1, Bool.false_and]
                    rw [this] at hv
                    simp at hv
                obtain ⟨rfl, v4⟩ := v3
                clear hv
                go_wp2_with (go_at_call 80; refine (hx _).mono ?_; rintro e wx ⟨rfl, hw⟩; have hw := hw.symm; subst hw)
                go_ret
                exact ⟨rfl, grown_trans g0 (grown_trans hgr gA)⟩
              · have v4 : 65541 < rn := by omega
                clear hv v2
                go_wp2_with (go_at_call 80; refine (hx _).mono ?_; rintro e wx ⟨rfl, hw⟩; have hw := hw.symm; subst hw)
                go_ret
                exact ⟨rfl, grown_trans g0 (grown_trans hgr gA)⟩
        · obtain rfl : k = 7 := by omega
          have hZ : Z = true := HQ.out.trans HK.out
          subst hZ
          go_wp2
          go_ret
          exact ⟨rfl, grown_trans g0 hgr⟩
    · have hZ : Z = false := by
        rw [HQ.out]
        cases b1 <;> simp_all
      subst hZ
      by_cases hn7 : n = 7
      · subst hn7
        cases b1
        · clear hb
          go_enter Try.func65, Try.ntmps65
          go_wp2_with (first
            | (go_at_call 51; have _t := t1; clear t1; refine (h0 _).mono ?_; rintro e wx ⟨rfl, hw⟩; have hw := hw.symm; subst hw; have t2 : True := trivial)
            | (go_at_call 80; have _t := t2; clear t2; refine (h1 _).mono ?_; rintro e wx ⟨rfl, hw⟩; have hw := hw.symm; subst hw))
          go_ret
          exact ⟨rfl, g0⟩
        · exact absurd ⟨rfl, rfl⟩ hb
      · have hn2 : (((n : Int) != 7) : Bool) = true := by simp; omega
        clear hb hn7
        cases b1
        all_goals
          go_enter Try.func65, Try.ntmps65
          go_wp2_with (first
            | (go_at_call 51; have _t := t1; clear t1; refine (h0 _).mono ?_; rintro e wx ⟨rfl, hw⟩; have hw := hw.symm; subst hw; have t2 : True := trivial)
            | (go_at_call 80; have _t := t2; clear t2; refine (h1 _).mono ?_; rintro e wx ⟨rfl, hw⟩; have hw := hw.symm; subst hw))
          go_ret
          exact ⟨rfl, g0⟩
  · have hZ : Z = false := by rw [HQ.out, decide_eq_false hE]; simp
    subst hZ
    have hne : (((E : Int) != 0) : Bool) = true := by simp; omega
    clear hE
    go_enter Try.func65, Try.ntmps65
    go_wp2_with (first
      | (go_at_call 51; have _t := t1; clear t1; refine (h0 _).mono ?_; rintro e wx ⟨rfl, hw⟩; have hw := hw.symm; subst hw))
    go_ret
    exact ⟨rfl, g0⟩

theorem fbehind_any (n q : Int) (hq : Hid (q = (n + 1) % 256)) (h0 : 0 ≤ n) (h1 : n ≤ 255) (w : World) : Calls Try.prog 68 #[.int .i64 n] w fun e w' => e = .returned (.int .i64 q) ∧ w' = w := by
  have ht : (n + 1).tmod 256 = q := by rw [Int.tmod_eq_emod_of_nonneg (by omega)]; exact hq.out.symm
  have hm : (n + 1) % 256 = q := hq.out.symm
  go_enter Try.func68, Try.ntmps68
  go_wp2
  go_ret
  exact ⟨rfl, rfl⟩
/-- how many frames were lost -/
def loN (x c : Int) : Int := if x = -1 then 0 else (c - x + 256) % 256
theorem lostAhead_any (x c : Int) (hx : -1 ≤ x ∧ x ≤ 255) (hc : 0 ≤ c ∧ c ≤ 255) (w : World) : Calls Try.prog 67 #[.int .i64 x, .int .i64 c] w fun e w' => e = .returned (.int .i64 (loN x c)) ∧ w' = w := by
  obtain ⟨x1, x2⟩ := hx
  obtain ⟨c1, c2⟩ := hc
  unfold loN
  by_cases h : x = -1
  · rw [if_pos h]
    subst h
    go_enter Try.func67, Try.ntmps67
    go_wp2
    go_ret
    exact ⟨rfl, rfl⟩
  · rw [if_neg h]
    have hb : ((x == -1) : Bool) = false := by simpa using h
    obtain ⟨q, hq⟩ : ∃ q, (c - x + 256) % 256 = q := ⟨_, rfl⟩
    rw [hq]
    have ht : (c - x + 256).tmod 256 = q := by rw [Int.tmod_eq_emod_of_nonneg (by omega)]; exact hq
    have h2 : c - x + 255 + 1 = c - x + 256 := by omega
    clear h
    go_enter Try.func67, Try.ntmps67
    go_wp2
    go_ret
    exact ⟨rfl, rfl⟩
end Go.Proofs.Ytlmddjkplnbadaa
