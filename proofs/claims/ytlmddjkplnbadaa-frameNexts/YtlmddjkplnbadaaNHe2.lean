import Derived.Test.YtlmddjkplnbadaaNHe1
namespace Go.Proofs.Ytlmddjkplnbadaa
open Go.RowKit
set_option maxRecDepth 100000
set_option linter.unusedVariables false
set_option linter.unusedSimpArgs false

theorem leB_ok {cr sz ma : Int} {n : Nat} {F : Nat → Er} (h : opE cr sz = 0 ∧ (-1 ≤ ma ∧ ma ≤ 255) ∧ n = 7) : leB cr sz ma n F = alE F 7 := by
  obtain ⟨h1, h2, rfl⟩ := h
  unfold leB exB
  rw [decide_eq_true h1, decide_eq_true h2]
  simp
theorem leB_no {cr sz ma : Int} {n : Nat} {F : Nat → Er} (h : ¬ (opE cr sz = 0 ∧ (-1 ≤ ma ∧ ma ≤ 255) ∧ n = 7)) : leB cr sz ma n F = false := by
  unfold leB exB
  by_cases h1 : opE cr sz = 0
  · by_cases h2 : -1 ≤ ma ∧ ma ≤ 255
    · have h4 : ¬ n = 7 := fun e => h ⟨h1, h2, e⟩
      rw [decide_eq_false h4]; simp
    · rw [decide_eq_false h2]; simp
  · rw [decide_eq_false h1]; simp
theorem erB_iff (e : Er) : erB e = decide ((-1 ≤ e.x ∧ e.x ≤ 255) ∧ e.r.n ≤ 65541 ∧ ¬ (e.x = -1 ∧ 0 < e.r.n)) := by
  unfold erB exB
  rw [← Bool.decide_and, ← Bool.decide_and, ← decide_not, ← Bool.decide_and]
  exact decide_eq_decide.2 (by omega)
set_option maxHeartbeats 8000000 in
theorem rlistenerMay_any (cr sz ma : Int) (a : Option Addr) (n cap : Nat) (F : Nat → Er) (w : World) (h : RdE w a n cap F) :
    Calls Try.prog 62 #[.agg (liA cr sz ma a n cap)] w fun e w' => e = .returned (.bool (leB cr sz ma n F)) ∧ w.grownBy w' none := by
  have hle := h.le
  have hmx := h.max
  unfold maxLen at hmx
  have h0 := fun wz => ropens_any cr sz wz
  have b0 := BxS.new w 43 (liA cr sz ma a n cap)
  have g0 := World.grownBy_alloc w (.cells (liA cr sz ma a n cap) 43) none
  unfold liA at b0 g0 ⊢
  generalize hw0 : w.alloc (.cells #[.int .i64 cr, .int .i64 sz, .int .i64 ma, .slice a n cap] 43) = w0 at b0 g0
  obtain ⟨c0, c1, c2, c3⟩ := b0.cell4
  have t1 : True := trivial
  by_cases hA : opE cr sz = 0 ∧ (-1 ≤ ma ∧ ma ≤ 255) ∧ n = 7
  · rw [leB_ok hA]
    obtain ⟨hE, ⟨m1, m2⟩, rfl⟩ := hA
    rw [hE] at h0
    have hr0 := h.keep g0
    obtain ⟨Z, hZ⟩ : ∃ Z, alE F 7 = Z := ⟨_, rfl⟩
    rw [hZ]
    have HZ : Hid _ := hZ
    clear hZ
    go_enter Try.func62, Try.ntmps62
    go_wp2_with (go_at_call 50; have _t := t1; clear t1; refine (h0 _).mono ?_; rintro e wx ⟨rfl, hw⟩; have hw := hw.symm; subst hw)
    clear c0 c1 c2 c3 hw0
    go_loopw [3] (fun i wr => ∃ k : Nat, k ≤ 7 ∧ i = .int .i64 k ∧ Hid (alE F k = true) ∧ w0.grownBy wr none) (fun i _ => 7 - (intOf i).toNat)
    case atStart => exact ⟨0, by omega, rfl, show alE F 0 = true from rfl, World.grownBy.refl _ _⟩
    case round =>
      obtain ⟨k, hk, rfl, HK, hgr⟩ := hrel
      have c3 := (b0.keep hgr (by simp)).cell4.2.2.2
      by_cases hlt : k < 7
      · obtain ⟨ba, oa, rfl, hba, ca⟩ := (hr0.keep hgr).at' (by omega)
        obtain ⟨d1, d2⟩ := ca k hlt
        have l1 : (k : Int) < 7 := by omega
        have HN : Hid (erB (F k) = false → alE F 7 = false) := fun h => alE_no F k h 7 hlt
        have HY : Hid (erB (F k) = true → alE F (k + 1) = true) := fun h => show (alE F k && erB (F k)) = true by rw [HK.out, h]; rfl
        have hdl := (hr0.data k hlt).le
        have hdm := (hr0.data k hlt).max
        unfold maxLen at hdm
        rw [erB_iff] at HN HY
        generalize (F k).x = x at *
        generalize (F k).r.n = rn at *
        generalize (F k).r.c = rc at *
        generalize (F k).r.a = ra at *
        have p1 := BxS.new wr 68 #[.int .i64 x, .slice ra rn rc]
        have gA := World.grownBy_alloc wr (.cells #[.int .i64 x, .slice ra rn rc] 68) none
        generalize hw1 : wr.alloc (.cells #[.int .i64 x, .slice ra rn rc] 68) = w1 at p1 gA
        have e1 : w1.cell? ⟨wr.heap.size, 0, none⟩ = some (.int .i64 x) := p1.cell 0 (by show 0 < 2; decide)
        have e2 : w1.cell? ⟨wr.heap.size, 1, none⟩ = some (.slice ra rn rc) := p1.cell 1 (by show 1 < 2; decide)
        clear ca
        by_cases hv : (-1 ≤ x ∧ x ≤ 255) ∧ rn ≤ 65541 ∧ ¬ (x = -1 ∧ 0 < rn)
        · have HY1 : Hid _ := HY.out (decide_eq_true hv)
          obtain ⟨⟨v1, v2⟩, v3, v4⟩ := hv
          have hno : ((x == -1) : Bool) = false ∨ (x = -1 ∧ rn = 0) := by
            by_cases q : x = -1
            · exact .inr ⟨q, by omega⟩
            · exact .inl (by simpa using q)
          clear v4
          rcases hno with hno | ⟨rfl, rfl⟩
          all_goals
            go_wp2
            go_roundw
            case rel => exact ⟨k + 1, by omega, by go_num, HY1, grown_trans hgr gA⟩
            case measure => simp [intOf]; omega
        · have hZ : Z = false := HZ.out.symm.trans (HN.out (decide_eq_false hv))
          subst hZ
          have hv2 : x < -1 ∨ (-1 ≤ x ∧ 255 < x) ∨ ((-1 ≤ x ∧ x ≤ 255) ∧ 65541 < rn) ∨ (x = -1 ∧ rn ≤ 65541 ∧ 0 < rn) := by omega
          clear hv
          rcases hv2 with v1 | ⟨v1, v2⟩ | ⟨⟨v1, v2⟩, v3⟩ | ⟨rfl, v2, v3⟩
          all_goals
            go_wp2
            go_ret
            exact ⟨rfl, grown_trans g0 (grown_trans hgr gA)⟩
      · obtain rfl : k = 7 := by omega
        have hZ : Z = true := HZ.out.symm.trans HK.out
        subst hZ
        go_wp2
        go_ret
        exact ⟨rfl, grown_trans g0 hgr⟩
  · rw [leB_no hA]
    by_cases hE : opE cr sz = 0
    · have hA' : ¬ ((-1 ≤ ma ∧ ma ≤ 255) ∧ n = 7) := fun h => hA ⟨hE, h⟩
      rw [hE] at h0
      clear hA hE
      by_cases hn7 : n = 7
      · subst hn7
        have hA2 : ma < -1 ∨ (-1 ≤ ma ∧ 255 < ma) := by omega
        clear hA'
        rcases hA2 with m1 | ⟨m1, m2⟩
        all_goals
          go_enter Try.func62, Try.ntmps62
          go_wp2_with (go_at_call 50; have _t := t1; clear t1; refine (h0 _).mono ?_; rintro e wx ⟨rfl, hw⟩; have hw := hw.symm; subst hw)
          go_ret
          exact ⟨rfl, g0⟩
      · have hn2 : (((n : Int) != 7) : Bool) = true := by simp; omega
        clear hA' hn7
        go_enter Try.func62, Try.ntmps62
        go_wp2_with (go_at_call 50; have _t := t1; clear t1; refine (h0 _).mono ?_; rintro e wx ⟨rfl, hw⟩; have hw := hw.symm; subst hw)
        all_goals
          go_ret
          exact ⟨rfl, g0⟩
    · clear hA
      generalize opE cr sz = E at h0 hE
      have hne : (((E : Int) != 0) : Bool) = true := by simp; omega
      clear hE
      go_enter Try.func62, Try.ntmps62
      go_wp2_with (go_at_call 50; have _t := t1; clear t1; refine (h0 _).mono ?_; rintro e wx ⟨rfl, hw⟩; have hw := hw.symm; subst hw)
      go_ret
      exact ⟨rfl, g0⟩
end Go.Proofs.Ytlmddjkplnbadaa
