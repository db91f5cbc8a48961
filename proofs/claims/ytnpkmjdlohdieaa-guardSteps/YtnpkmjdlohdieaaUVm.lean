import Derived.Test.YtnpkmjdlohdieaaUSt
namespace Go.Proofs.Ytnpkmjdlohdieaa
open Go.RowKit
set_option maxRecDepth 100000
set_option linter.unusedVariables false
set_option linter.unusedSimpArgs false
theorem wyB_of (D : Vi) (n : Nat) : wyB D n = (!(D.sf == (D.wy == -1)) && kwB D.wy (-3) ((n : Int) - 1)) := by
  unfold wyB
  cases D.sf
  · by_cases h : D.wy = -1
    · rw [h, kwB_t (by omega)]; rfl
    · have h1 : (D.wy == -1) = false := beq_false_of_ne h
      rw [h1]; simp
  · by_cases h : D.wy = -1
    · rw [h]; simp
    · have h1 : (D.wy == -1) = false := beq_false_of_ne h
      have h2 : (D.wy != -1) = true := by simp; exact h
      rw [h1, h2]; simp
/-- the trips, as the document reads them -/
def trB (tr : List Int) (wi : Int) (k : Nat) : Bool := kwB (nthI tr k) 0 (wi - 1) && !(decide (0 < k) && decide (nthI tr (k - 1) < nthI tr k))
theorem trN_step (tr : List Int) (wi : Int) (k : Nat) (h : trN tr wi k = true) : trN tr wi (k + 1) = trB tr wi k := by
  simp only [trN, h, Bool.true_and]
  unfold trB
  cases k with
  | zero => simp [eldN]
  | succ k =>
    have h1 := trN_at tr wi (k + 1) h k (by omega)
    have h2 : eldN tr wi (k + 1) = nthI tr k := rfl
    rw [h2, Nat.add_sub_cancel]
    unfold kwB
    rw [Bool.eq_iff_iff]
    simp
    omega
set_option maxHeartbeats 32000000 in
theorem rvigilMay_any (G : Gd) (A : Va) (D : Vi) (F : Nat → Mo) (w : World) (hM : RdM w G.ma G.n G.mc F) (hV : RdVg w A D) (hn : G.n ≤ 32) (hw : 1 ≤ G.wi ∧ G.wi ≤ 100000) :
    Calls Try.prog 29 #[.agg #[.slice G.ma G.n G.mc, .int .i64 G.si, .int .i64 G.mo, .int .i64 G.wi, .string G.sa], .agg (vgA D A)] w fun e w' => e = .returned (.bool (vmB F G.n D G.si G.wi)) ∧ w.grownBy w' none := by
  have lb := hV.b.lenI
  have lp := hV.p.lenH
  have lt := hV.t.lenI
  have HV : Hid (vmB F G.n D G.si G.wi = ((decide (A.nb = G.n) && decide (A.np = G.n) && msN F D.bd D.tp G.n) && kwB D.qu 0 G.si && (decide (A.nt ≤ 100) && trN D.tr G.wi A.nt) && (!(D.sf == (D.wy == -1)) && kwB D.wy (-3) ((G.n : Int) - 1)))) := by
    show _ = _
    unfold vmB mmB tmB
    rw [wyB_of, lb, lp, lt]
  rw [HV.out]
  clear HV
  have k2 := fun wz => inRange_any D.qu 0 G.si wz
  have k4 := fun wz => inRange_any D.wy (-3) ((G.n : Int) - 1) wz
  unfold vgA
  have b0 := BxS.new w 24 #[.slice G.ma G.n G.mc, .int .i64 G.si, .int .i64 G.mo, .int .i64 G.wi, .string G.sa]
  have g0 := World.grownBy_alloc w (.cells #[.slice G.ma G.n G.mc, .int .i64 G.si, .int .i64 G.mo, .int .i64 G.wi, .string G.sa] 24) none
  generalize hw0 : w.alloc (.cells #[.slice G.ma G.n G.mc, .int .i64 G.si, .int .i64 G.mo, .int .i64 G.wi, .string G.sa] 24) = w0 at b0 g0
  have hz0 : w0.heap.size = w.heap.size + 1 := by rw [← hw0]; simp
  have b1 := BxS.new w0 29 #[.bool D.sf, .int .i64 D.wy, .slice A.ab A.nb A.cb, .slice A.ap A.np A.cp, .int .i64 D.qu, .slice A.at' A.nt A.ct]
  have g1 := World.grownBy_alloc w0 (.cells #[.bool D.sf, .int .i64 D.wy, .slice A.ab A.nb A.cb, .slice A.ap A.np A.cp, .int .i64 D.qu, .slice A.at' A.nt A.ct] 29) none
  generalize hw1 : w0.alloc (.cells #[.bool D.sf, .int .i64 D.wy, .slice A.ab A.nb A.cb, .slice A.ap A.np A.cp, .int .i64 D.qu, .slice A.at' A.nt A.ct] 29) = w1 at b1 g1
  rw [hz0] at b1
  have b01 := b0.keep g1 (by simp)
  have G1 := grown_trans g0 g1
  have hM1 := hM.keep G1
  have hV1 := hV.keep G1
  obtain ⟨c0, c1, c2, c3, c4⟩ := b01.cell5
  obtain ⟨d0, d1, d2, d3, d4, d5⟩ := b1.cell6
  generalize kwB D.qu 0 G.si = q2 at *
  generalize hq4 : kwB D.wy (-3) ((G.n : Int) - 1) = q4 at *
  clear hq4
  have hw1 := hw.1
  have hw2 := hw.2
  have t0 : True := trivial
  clear lb lp lt hM hV
  by_cases h1 : A.nb = G.n
  case neg =>
    have h1' : ((A.nb : Int) != (G.n : Int)) = true := by simp; omega
    rw [decide_eq_false h1]
    clear h1
    go_enter Try.func29, Try.ntmps29
    go_wp2_with (first | (go_at_call 24; have _t := t0; clear t0; refine (k2 _).mono ?_; rintro e w3 ⟨rfl, hw⟩; have hw := hw.symm; subst hw; have t1 : True := trivial) | (go_at_call 24; have _t := t1; clear t1; refine (k4 _).mono ?_; rintro e w3 ⟨rfl, hw⟩; have hw := hw.symm; subst hw))
    go_ret
    exact ⟨by simp, G1⟩
  by_cases h2 : A.np = G.n
  case neg =>
    have h1' : ((A.nb : Int) != (G.n : Int)) = false := by simp; omega
    have h2' : ((A.np : Int) != (G.n : Int)) = true := by simp; omega
    rw [decide_eq_false h2]
    clear h1 h2
    go_enter Try.func29, Try.ntmps29
    go_wp2_with (first | (go_at_call 24; have _t := t0; clear t0; refine (k2 _).mono ?_; rintro e w3 ⟨rfl, hw⟩; have hw := hw.symm; subst hw; have t1 : True := trivial) | (go_at_call 24; have _t := t1; clear t1; refine (k4 _).mono ?_; rintro e w3 ⟨rfl, hw⟩; have hw := hw.symm; subst hw))
    go_ret
    exact ⟨by simp, G1⟩
  have h1' : ((A.nb : Int) != (G.n : Int)) = false := by simp; omega
  have h2' : ((A.np : Int) != (G.n : Int)) = false := by simp; omega
  rw [decide_eq_true h1, decide_eq_true h2]
  cases q2
  case false =>
    clear h1 h2
    go_enter Try.func29, Try.ntmps29
    go_wp2_with (first | (go_at_call 24; have _t := t0; clear t0; refine (k2 _).mono ?_; rintro e w3 ⟨rfl, hw⟩; have hw := hw.symm; subst hw; have t1 : True := trivial) | (go_at_call 24; have _t := t1; clear t1; refine (k4 _).mono ?_; rintro e w3 ⟨rfl, hw⟩; have hw := hw.symm; subst hw))
    go_ret
    exact ⟨by simp, G1⟩
  by_cases h3 : A.nt ≤ 100
  case neg =>
    have h3' : (100 : Int) < (A.nt : Int) := by omega
    rw [decide_eq_false h3]
    clear h1 h2 h3
    go_enter Try.func29, Try.ntmps29
    go_wp2_with (first | (go_at_call 24; have _t := t0; clear t0; refine (k2 _).mono ?_; rintro e w3 ⟨rfl, hw⟩; have hw := hw.symm; subst hw; have t1 : True := trivial) | (go_at_call 24; have _t := t1; clear t1; refine (k4 _).mono ?_; rintro e w3 ⟨rfl, hw⟩; have hw := hw.symm; subst hw))
    go_ret
    exact ⟨by simp, G1⟩
  have h3' : ¬ (100 : Int) < (A.nt : Int) := by omega
  rw [decide_eq_true h3]
  cases hs : (D.sf == (D.wy == -1))
  case true =>
    clear h1 h2
    go_enter Try.func29, Try.ntmps29
    go_wp2_with (first | (go_at_call 24; have _t := t0; clear t0; refine (k2 _).mono ?_; rintro e w3 ⟨rfl, hw⟩; have hw := hw.symm; subst hw; have t1 : True := trivial) | (go_at_call 24; have _t := t1; clear t1; refine (k4 _).mono ?_; rintro e w3 ⟨rfl, hw⟩; have hw := hw.symm; subst hw))
    go_ret
    exact ⟨by simp, G1⟩
  cases q4
  case false =>
    clear h1 h2
    go_enter Try.func29, Try.ntmps29
    go_wp2_with (first | (go_at_call 24; have _t := t0; clear t0; refine (k2 _).mono ?_; rintro e w3 ⟨rfl, hw⟩; have hw := hw.symm; subst hw; have t1 : True := trivial) | (go_at_call 24; have _t := t1; clear t1; refine (k4 _).mono ?_; rintro e w3 ⟨rfl, hw⟩; have hw := hw.symm; subst hw))
    go_ret
    exact ⟨by simp, G1⟩
  have HV : Hid ((true && true && msN F D.bd D.tp G.n && true && (true && trN D.tr G.wi A.nt) && (!false && true)) = (msN F D.bd D.tp G.n && trN D.tr G.wi A.nt)) := by show _ = _; simp
  rw [HV.out]
  clear HV
  obtain ⟨vb, vp, vt⟩ := hV1
  have HB : Hid (A.nb = G.n) := h1
  have HP : Hid (A.np = G.n) := h2
  clear h1 h2
  go_enter Try.func29, Try.ntmps29
  go_wp2_with (first | (go_at_call 24; have _t := t0; clear t0; refine (k2 _).mono ?_; rintro e w3 ⟨rfl, hw⟩; have hw := hw.symm; subst hw; have t1 : True := trivial) | (go_at_call 24; have _t := t1; clear t1; refine (k4 _).mono ?_; rintro e w3 ⟨rfl, hw⟩; have hw := hw.symm; subst hw))
  clear h1' h2' hs k2 k4
  go_loopw [6] (fun i wr => ∃ k : Nat, k ≤ G.n ∧ i = .int .i64 k ∧ w1.grownBy wr none ∧ msN F D.bd D.tp k = true) (fun i _ => G.n - (intOf i).toNat)
  case atStart => exact ⟨0, by omega, rfl, World.grownBy.refl _ _, rfl⟩
  case round =>
    obtain ⟨k, hk, rfl, hgr, HK⟩ := hrel
    have HK' : Hid (msN F D.bd D.tp k = true) := HK
    clear HK c0 c1 c2 c3 c4 d0 d1 d2 d3 d4 d5
    obtain ⟨c0, c1, c2, c3, c4⟩ := (b01.keep hgr (by simp)).cell5
    obtain ⟨d0, d1, d2, d3, d4, d5⟩ := (b1.keep hgr (by simp)).cell6
    by_cases hlt : k < G.n
    · have hlt' : (k : Int) < (G.n : Int) := by omega
      have hkb : k < A.nb := by rw [HB.out]; exact hlt
      have hkb' : (k : Int) < (A.nb : Int) := by omega
      have hkp : k < A.np := by rw [HP.out]; exact hlt
      have hkp' : (k : Int) < (A.np : Int) := by omega
      have hMr := hM1.keep hgr
      obtain ⟨b, off, ema, hbw, _⟩ := hMr.at' (by omega)
      obtain ⟨bb, ob, eb, _, _⟩ := vb.at' (by omega)
      obtain ⟨bp, op, ep, _, _⟩ := vp.at' (by omega)
      have x1 := (eb ▸ vb.keep hgr).atI k hkb
      have x2 := (ep ▸ vp.keep hgr).atH k hkp
      rw [ema] at hMr c0
      rw [eb] at d2
      rw [ep] at d3
      obtain ⟨k0, k1, k2, k3, k4, k5⟩ := hMr.six k hlt
      have hw := fun wz => inRange_any (nthI D.bd k) 0 (F k).fr wz
      have HS : Hid (msN F D.bd D.tp (k + 1) = (kwB (nthI D.bd k) 0 (F k).fr && !(hat D.tp k && (nthI D.bd k != (F k).fr)))) := by
        show _ = _
        simp only [msN, HK'.out, Bool.true_and]; rfl
      clear HK' hMr ema eb ep
      generalize kwB (nthI D.bd k) 0 (F k).fr = q0 at *
      generalize hat D.tp k = q1 at *
      generalize hbb : nthI D.bd k = bk at *
      clear hbb
      generalize hff : (F k).fr = fk at *
      clear hff
      cases q0
      case false =>
        go_wp2
        go_quiet (first | (go_at_call 24; exact Calls.quiet_of_same (hw _)))
        go_wp2
        go_ret
        exact ⟨by rw [msN_false F D.bd D.tp (k + 1) G.n HS.out (by omega)]; rfl, grown_trans (grown_trans G1 hgr) (grown_drewN wr nq none)⟩
      cases q1
      case false =>
        go_wp2
        go_quiet (first | (go_at_call 24; exact Calls.quiet_of_same (hw _)))
        go_wp2
        go_roundw
        case rel => exact ⟨k + 1, by omega, by go_num, grown_trans hgr (grown_drewN wr nq none), HS.out⟩
        case measure => simp [intOf]; omega
      by_cases hq : bk = fk
      · subst hq
        have HS : Hid (msN F D.bd D.tp (k + 1) = true) := by show _ = _; rw [HS.out]; simp
        go_wp2
        go_quiet (first | (go_at_call 24; exact Calls.quiet_of_same (hw _)))
        go_wp2
        go_roundw
        case rel => exact ⟨k + 1, by omega, by go_num, grown_trans hgr (grown_drewN wr nq none), HS.out⟩
        case measure => simp [intOf]; omega
      · have hq' : (bk != fk) = true := by simp; omega
        rw [hq'] at HS
        go_wp2
        go_quiet (first | (go_at_call 24; exact Calls.quiet_of_same (hw _)))
        go_wp2
        go_ret
        exact ⟨by rw [msN_false F D.bd D.tp (k + 1) G.n HS.out (by omega)]; rfl, grown_trans (grown_trans G1 hgr) (grown_drewN wr nq none)⟩
    · have hlt' : ¬ (k : Int) < (G.n : Int) := by omega
      obtain rfl : k = G.n := by omega
      have HM : Hid (msN F D.bd D.tp G.n = true) := HK'.out
      clear HK'
      go_wp2
      clear c0 c1 c2 c3 c4 d0 d1 d2 d3 d4 d5
      generalize wr = wl at *
      go_loopw [7] (fun i wr => ∃ k : Nat, k ≤ A.nt ∧ i = .int .i64 k ∧ w1.grownBy wr none ∧ trN D.tr G.wi k = true) (fun i _ => A.nt - (intOf i).toNat)
      case atStart => exact ⟨0, by omega, rfl, hgr, rfl⟩
      case round =>
        clear hgr
        obtain ⟨k, hk, rfl, hgr, HK⟩ := hrel
        have HK' : Hid (trN D.tr G.wi k = true) := HK
        clear HK
        obtain ⟨c0, c1, c2, c3, c4⟩ := (b01.keep hgr (by simp)).cell5
        obtain ⟨d0, d1, d2, d3, d4, d5⟩ := (b1.keep hgr (by simp)).cell6
        by_cases hlt : k < A.nt
        · have hltt : (k : Int) < (A.nt : Int) := by omega
          obtain ⟨tb, to, et, _, _⟩ := vt.at' (by omega)
          have x1 := (et ▸ vt.keep hgr).atI k hlt
          rw [et] at d5
          have hw := fun wz => inRange_any (nthI D.tr k) 0 (G.wi - 1) wz
          have hwr : IntKind.i64.wrap (G.wi - 1) = G.wi - 1 := i64_in (by omega) (by omega)
          have HS0 := trN_step D.tr G.wi k HK'.out
          unfold trB at HS0
          have HS : Hid (trN D.tr G.wi (k + 1) = (kwB (nthI D.tr k) 0 (G.wi - 1) && !(decide (0 < k) && decide (nthI D.tr (k - 1) < nthI D.tr k)))) := HS0
          clear HK' HS0
          have x0 : ∀ j, k = j + 1 → wr.cell? ⟨tb, to + j, none⟩ = some (.int .i64 (nthI D.tr j)) := fun j hj => (et ▸ vt.keep hgr : RdX wr (some ⟨tb, to, none⟩) A.nt A.ct (zys D.tr)).atI j (by omega)
          clear et
          generalize kwB (nthI D.tr k) 0 (G.wi - 1) = q0 at *
          cases q0
          case false =>
            go_wp2
            go_quiet (first | (go_at_call 24; exact Calls.quiet_of_same (hw _)))
            go_wp2
            go_ret
            exact ⟨by rw [HM.out, trN_false D.tr G.wi (k + 1) A.nt HS.out (by omega)]; rfl, grown_trans (grown_trans G1 hgr) (grown_drewN wr nq none)⟩
          cases k with
          | zero =>
            have HS : Hid (trN D.tr G.wi (0 + 1) = true) := by show _ = _; rw [HS.out]; simp
            clear x0
            have x1' : wr.cell? ⟨tb, to, none⟩ = some (.int .i64 (nthI D.tr 0)) := by simpa using x1
            have hl0 : (0 : Int) < (A.nt : Int) := by omega
            have hl1 : 0 < A.nt := by omega
            go_wp2
            go_quiet (first | (go_at_call 24; exact Calls.quiet_of_same (hw _)))
            go_wp2
            go_roundw
            case rel => exact ⟨1, by omega, by go_num, grown_trans hgr (grown_drewN wr nq none), HS.out⟩
            case measure => simp [intOf]; omega
          | succ j =>
            have y0 := x0 j rfl
            rw [decide_eq_true (show 0 < j + 1 by omega), Nat.add_sub_cancel] at HS
            clear x0
            have hj1 : j < A.nt := by omega
            have hj2 : (j : Int) < (A.nt : Int) := by omega
            have hj3 : (0 : Int) < (j : Int) + 1 := by omega
            have hj4 : ((j : Int) + 1 - 1) = (j : Int) := by omega
            have hj5 : IntKind.i64.wrap ((j : Int) + 1 - 1) = (j : Int) := by rw [hj4]; exact i64_in (by omega) (by omega)
            have hj6 : (j : Int) + 1 < (A.nt : Int) := by omega
            generalize nthI D.tr (j + 1) = zk at *
            generalize nthI D.tr j = zj at *
            by_cases hq : zj < zk
            · rw [decide_eq_true hq] at HS
              have HS : Hid (trN D.tr G.wi (j + 1 + 1) = false) := by show _ = _; rw [HS.out]; rfl
              go_wp2
              go_quiet (first | (go_at_call 24; exact Calls.quiet_of_same (hw _)))
              go_wp2
              go_ret
              exact ⟨by rw [HM.out, trN_false D.tr G.wi (j + 1 + 1) A.nt HS.out (by omega)]; rfl, grown_trans (grown_trans G1 hgr) (grown_drewN wr nq none)⟩
            · rw [decide_eq_false hq] at HS
              have HS : Hid (trN D.tr G.wi (j + 1 + 1) = true) := by show _ = _; rw [HS.out]; rfl
              go_wp2
              go_quiet (first | (go_at_call 24; exact Calls.quiet_of_same (hw _)))
              go_wp2
              go_roundw
              case rel => exact ⟨j + 1 + 1, by omega, by go_num, grown_trans hgr (grown_drewN wr nq none), HS.out⟩
              case measure => simp [intOf]; omega
        · have hltt : ¬ (k : Int) < (A.nt : Int) := by omega
          obtain rfl : k = A.nt := by omega
          go_wp2
          go_ret
          exact ⟨by rw [HM.out, HK'.out]; rfl, grown_trans G1 hgr⟩
end Go.Proofs.Ytnpkmjdlohdieaa
