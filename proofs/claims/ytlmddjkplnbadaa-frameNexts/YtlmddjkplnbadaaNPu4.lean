import Derived.Test.YtlmddjkplnbadaaNPu3
namespace Go.Proofs.Ytlmddjkplnbadaa
open Go.RowKit
set_option maxRecDepth 100000
set_option linter.unusedVariables false
set_option linter.unusedSimpArgs false

theorem seB_ok {cr sz ma tu : Int} {n : Nat} {F : Nat → Qu} (h : opE cr sz = 0 ∧ (0 ≤ ma ∧ ma ≤ 255) ∧ (0 ≤ tu ∧ tu ≤ 6) ∧ n = 7) : seB cr sz ma tu n F = alQ F 7 := by
  obtain ⟨h1, h2, h3, rfl⟩ := h
  unfold seB
  rw [decide_eq_true h1, wiB_t h2, wiB_t h3]
  simp
theorem seB_no {cr sz ma tu : Int} {n : Nat} {F : Nat → Qu} (h : ¬ (opE cr sz = 0 ∧ (0 ≤ ma ∧ ma ≤ 255) ∧ (0 ≤ tu ∧ tu ≤ 6) ∧ n = 7)) : seB cr sz ma tu n F = false := by
  unfold seB
  by_cases h1 : opE cr sz = 0
  · by_cases h2 : 0 ≤ ma ∧ ma ≤ 255
    · by_cases h3 : 0 ≤ tu ∧ tu ≤ 6
      · have h4 : ¬ n = 7 := fun e => h ⟨h1, h2, h3, e⟩
        rw [decide_eq_false h4]; simp
      · rw [wiB_f h3]; simp
    · rw [wiB_f h2]; simp
  · rw [decide_eq_false h1]; simp
theorem quB_no {q : Qu} (h : ¬ ((0 ≤ q.ow ∧ q.ow ≤ 255) ∧ q.n ≤ 200 ∧ 0 ≤ q.go)) : quB q = false := by
  unfold quB
  by_cases h1 : 0 ≤ q.ow ∧ q.ow ≤ 255
  · by_cases h2 : q.n ≤ 200
    · have h3 : ¬ 0 ≤ q.go := fun e => h ⟨h1, h2, e⟩
      have h4 : goB q = false := by
        unfold goB
        split
        · exact decide_eq_false (by omega)
        · exact wiB_f (by omega)
      rw [h4, Bool.and_false]
    · rw [decide_eq_false h2]; simp
  · rw [wiB_f h1]; simp
theorem quB_al {q : Qu} (h : alP q.R q.n = false) : quB q = false := by unfold quB; rw [h]; simp
theorem quB_go {q : Qu} (h : (0 ≤ q.ow ∧ q.ow ≤ 255) ∧ q.n ≤ 200 ∧ 0 ≤ q.go) (ha : alP q.R q.n = true) : quB q = goB q := by
  unfold quB; rw [wiB_t h.1, decide_eq_true h.2.1, ha]; simp
set_option maxHeartbeats 16000000 in
theorem rsenderMay_any (cr sz ma tu : Int) (a : Option Addr) (n cap : Nat) (F : Nat → Qu) (w : World) (h : RdQ w a n cap F) (hb : ∀ i, i < n → ∀ j, j < (F i).n → ((F i).R j).n ≤ 140737488355328) :
    Calls Try.prog 53 #[.agg (seA cr sz ma tu a n cap)] w fun e w' => e = .returned (.bool (seB cr sz ma tu n F)) ∧ w.grownBy w' none := by
  have hle := h.le
  have hmx := h.max
  unfold maxLen at hmx
  have h0 := fun wz => ropens_any cr sz wz
  have b0 := BxS.new w 38 (seA cr sz ma tu a n cap)
  have g0 := World.grownBy_alloc w (.cells (seA cr sz ma tu a n cap) 38) none
  unfold seA at b0 g0 ⊢
  generalize hw0 : w.alloc (.cells #[.int .i64 cr, .int .i64 sz, .int .i64 ma, .int .i64 tu, .slice a n cap] 38) = w0 at b0 g0
  obtain ⟨c0, c1, c2, c3, c4⟩ := b0.cell5
  have t1 : True := trivial
  by_cases hA : opE cr sz = 0 ∧ (0 ≤ ma ∧ ma ≤ 255) ∧ (0 ≤ tu ∧ tu ≤ 6) ∧ n = 7
  · rw [seB_ok hA]
    obtain ⟨hE, ⟨m1, m2⟩, ⟨u1, u2⟩, rfl⟩ := hA
    rw [hE] at h0
    have hr0 := h.keep g0
    have HB : Hid _ := hb
    clear hb
    obtain ⟨Z, hZ⟩ : ∃ Z, alQ F 7 = Z := ⟨_, rfl⟩
    rw [hZ]
    have HZ : Hid _ := hZ
    clear hZ
    go_enter Try.func53, Try.ntmps53
    go_wp2_with (go_at_call 50; have _t := t1; clear t1; refine (h0 _).mono ?_; rintro e wx ⟨rfl, hw⟩; have hw := hw.symm; subst hw)
    clear c0 c1 c2 c3 c4 hw0
    go_loopw [3] (fun i wr => ∃ k : Nat, k ≤ 7 ∧ i = .int .i64 k ∧ Hid (alQ F k = true) ∧ w0.grownBy wr none) (fun i _ => 7 - (intOf i).toNat)
    case atStart => exact ⟨0, by omega, rfl, show alQ F 0 = true from rfl, World.grownBy.refl _ _⟩
    case round =>
      obtain ⟨k, hk, rfl, HK, hgr⟩ := hrel
      have c4 := (b0.keep hgr (by simp)).cell5.2.2.2.2
      by_cases hlt : k < 7
      · obtain ⟨ba, oa, rfl, hba, ca⟩ := (hr0.keep hgr).at' (by omega)
        obtain ⟨d1, d2, d3⟩ := ca k hlt
        have hd := (hr0.keep hgr).data k hlt
        have HB2 : Hid (∀ j, j < (F k).n → ((F k).R j).n ≤ 140737488355328) := HB.out k hlt
        have HN : Hid (quB (F k) = false → alQ F 7 = false) := fun h => alQ_no F k h 7 hlt
        have HY : Hid (quB (F k) = true → alQ F (k + 1) = true) := fun h => show (alQ F k && quB (F k)) = true by rw [HK.out, h]; rfl
        have l1 : (k : Int) < 7 := by omega
        generalize F k = q at *
        obtain ⟨ow, qa, qn, qc, go, R⟩ := q
        simp only at *
        have p1 := BxS.new wr 83 #[.int .i64 ow, .slice qa qn qc, .int .i64 go]
        have gA := World.grownBy_alloc wr (.cells #[.int .i64 ow, .slice qa qn qc, .int .i64 go] 83) none
        generalize hw1 : wr.alloc (.cells #[.int .i64 ow, .slice qa qn qc, .int .i64 go] 83) = w1 at p1 gA
        obtain ⟨e1, e2, e3⟩ := p1.cell3
        have hql := hd.le
        have hqm := hd.max
        unfold maxLen at hqm
        clear ca
        by_cases hq : (0 ≤ ow ∧ ow ≤ 255) ∧ qn ≤ 200 ∧ 0 ≤ go
        · have HQ : Hid _ := hq
          obtain ⟨⟨o1, o2⟩, o3, o4⟩ := hq
          go_wp2
          have hd1 := hd.keep gA
          clear e1 e2 e3 d1 d2 d3 c4 hw1
          go_loopw [5] (fun i wz => ∃ j : Nat, j ≤ qn ∧ i = .int .i64 j ∧ Hid (alP R j = true) ∧ w1.grownBy wz none) (fun i _ => qn - (intOf i).toNat)
          case atStart => exact ⟨0, by omega, rfl, show alP R 0 = true from rfl, World.grownBy.refl _ _⟩
          case round =>
            obtain ⟨j, hj, rfl, HJ, hgz⟩ := hrel
            obtain ⟨e1, e2, e3⟩ := (p1.keep hgz (by simp)).cell3
            by_cases hlj : j < qn
            · obtain ⟨bb, ob, rfl, _, cb⟩ := (hd1.keep hgz).at' (by omega)
              have ck := cb j hlj
              have hdj := (hd1.keep hgz).data j hlj
              have ho := ronePacket_any _ _ _ _ _ hdj (HB2.out j hlj)
              have l2 : (j : Int) < (qn : Int) := by omega
              cases hv : onP (R j).D with
              | true =>
                rw [hv] at ho
                have HJ1 : Hid (alP R (j + 1) = true) := show (alP R j && onP (R j).D) = true by rw [HJ.out, hv]; rfl
                clear cb hdj hv
                go_wp2_with (go_at_call 55; refine ho.mono ?_; rintro e w2 ⟨rfl, g2⟩)
                go_roundw
                case rel => exact ⟨j + 1, by omega, by go_num, HJ1, grown_trans hgz g2⟩
                case measure => simp [intOf]; omega
              | false =>
                rw [hv] at ho
                have hZ : Z = false := HZ.out.symm.trans (HN.out (quB_al (alP_no R j hv _ hlj)))
                subst hZ
                clear cb hdj hv
                go_wp2_with (go_at_call 55; refine ho.mono ?_; rintro e w2 ⟨rfl, g2⟩)
                go_ret
                exact ⟨rfl, grown_trans g0 (grown_trans hgr (grown_trans gA (grown_trans hgz g2)))⟩
            · obtain rfl : j = qn := by omega
              have HG : Hid (quB ⟨ow, qa, j, qc, go, R⟩ = goB ⟨ow, qa, j, qc, go, R⟩) := quB_go HQ.out HJ.out
              have GZ : Hid (w0.grownBy _ none) := grown_trans hgr (grown_trans gA hgz)
              by_cases hz : j = 0
              · subst hz
                by_cases hgo : go = 0
                · have HY1 : Hid (alQ F (k + 1) = true) := HY.out (HG.out.trans (by unfold goB; simp [hgo]))
                  subst hgo
                  go_wp2
                  go_quiet (fail)
                  go_wp2
                  go_roundw
                  case rel => exact ⟨k + 1, by omega, by go_num, HY1, grown_trans GZ.out (grown_drewN _ _ _)⟩
                  case measure => simp [intOf]; omega
                · have hZ : Z = false := HZ.out.symm.trans (HN.out (HG.out.trans (by unfold goB; simp [hgo])))
                  subst hZ
                  have hgp : 0 < go := by omega
                  clear hgo
                  go_wp2
                  go_quiet (fail)
                  go_wp2
                  go_ret
                  exact ⟨rfl, grown_trans g0 (grown_trans GZ.out (grown_drewN _ _ _))⟩
              · obtain ⟨bb, ob, rfl, _, cb⟩ := (hd1.keep hgz).at' (by omega)
                have ck := cb 0 (by omega)
                rw [Nat.add_zero] at ck
                have hj0 : (((j : Int) == 0) : Bool) = false := by simp; omega
                have l2 : (0 : Int) < (j : Int) := by omega
                have l3 : 0 < j := by omega
                by_cases hgo : go < ((R 0).n : Int)
                · have HY1 : Hid (alQ F (k + 1) = true) := HY.out (HG.out.trans (by unfold goB; simp only; rw [if_neg hz]; exact wiB_t ⟨o4, by omega⟩))
                  clear cb hz
                  go_wp2
                  go_quiet (fail)
                  go_wp2
                  go_roundw
                  case rel => exact ⟨k + 1, by omega, by go_num, HY1, grown_trans GZ.out (grown_drewN _ _ _)⟩
                  case measure => simp [intOf]; omega
                · have hZ : Z = false := HZ.out.symm.trans (HN.out (HG.out.trans (by unfold goB; simp only; rw [if_neg hz]; exact wiB_f (by omega))))
                  subst hZ
                  have hgp : ((R 0).n : Int) ≤ go := by omega
                  clear cb hz hgo
                  go_wp2
                  go_quiet (fail)
                  go_wp2
                  go_ret
                  exact ⟨rfl, grown_trans g0 (grown_trans GZ.out (grown_drewN _ _ _))⟩
        · have hZ : Z = false := HZ.out.symm.trans (HN.out (quB_no hq))
          subst hZ
          go_wp2
          all_goals
            go_ret
            exact ⟨rfl, grown_trans g0 (grown_trans hgr gA)⟩
      · obtain rfl : k = 7 := by omega
        have hZ : Z = true := HZ.out.symm.trans HK.out
        subst hZ
        go_wp2
        go_ret
        exact ⟨rfl, grown_trans g0 hgr⟩
  · rw [seB_no hA]
    clear hb
    by_cases hE : opE cr sz = 0
    · have hA' : ¬ ((0 ≤ ma ∧ ma ≤ 255) ∧ (0 ≤ tu ∧ tu ≤ 6) ∧ n = 7) := fun h => hA ⟨hE, h⟩
      rw [hE] at h0
      clear hA hE
      by_cases hn7 : n = 7
      · subst hn7
        have hA2 : ma < 0 ∨ (0 ≤ ma ∧ 255 < ma) ∨ ((0 ≤ ma ∧ ma ≤ 255) ∧ tu < 0) ∨ ((0 ≤ ma ∧ ma ≤ 255) ∧ 0 ≤ tu ∧ 6 < tu) := by omega
        clear hA'
        rcases hA2 with m1 | ⟨m1, m2⟩ | ⟨⟨m1, m2⟩, u1⟩ | ⟨⟨m1, m2⟩, u1, u2⟩
        all_goals
          go_enter Try.func53, Try.ntmps53
          go_wp2_with (go_at_call 50; have _t := t1; clear t1; refine (h0 _).mono ?_; rintro e wx ⟨rfl, hw⟩; have hw := hw.symm; subst hw)
          go_ret
          exact ⟨rfl, g0⟩
      · have hn2 : (((n : Int) != 7) : Bool) = true := by simp; omega
        clear hA' hn7
        go_enter Try.func53, Try.ntmps53
        go_wp2_with (go_at_call 50; have _t := t1; clear t1; refine (h0 _).mono ?_; rintro e wx ⟨rfl, hw⟩; have hw := hw.symm; subst hw)
        all_goals
          go_ret
          exact ⟨rfl, g0⟩
    · clear hA
      generalize opE cr sz = E at h0 hE
      have hne : (((E : Int) != 0) : Bool) = true := by simp; omega
      clear hE
      go_enter Try.func53, Try.ntmps53
      go_wp2_with (go_at_call 50; have _t := t1; clear t1; refine (h0 _).mono ?_; rintro e wx ⟨rfl, hw⟩; have hw := hw.symm; subst hw)
      go_ret
      exact ⟨rfl, g0⟩
end Go.Proofs.Ytlmddjkplnbadaa
