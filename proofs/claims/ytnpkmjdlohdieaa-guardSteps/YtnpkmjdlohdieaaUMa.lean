import Derived.Test.YtnpkmjdlohdieaaUBe
namespace Go.Proofs.Ytnpkmjdlohdieaa
open Go.RowKit
set_option maxRecDepth 100000
set_option linter.unusedVariables false
set_option linter.unusedSimpArgs false
/-- may a monitor stand so? -/
def moS (m : Mo) (b : Int) (t : Bool) : Bool := kwB b 0 m.fr && !(t && (b != m.fr))
def msN (F : Nat → Mo) (bd : List Int) (tp : List Bool) : Nat → Bool
  | 0 => true
  | k + 1 => msN F bd tp k && moS (F k) (nthI bd k) (hat tp k)
theorem msN_false (F : Nat → Mo) (bd : List Int) (tp : List Bool) (k n : Nat) (h : msN F bd tp k = false) (hk : k ≤ n) : msN F bd tp n = false := by
  induction n with
  | zero => obtain rfl : k = 0 := by omega
            exact h
  | succ n ih =>
    by_cases e : k = n + 1
    · subst e; exact h
    · simp only [msN, ih (by omega), Bool.false_and]
/-- the age that the trip at a place may not be above -/
def eldN (tr : List Int) (wi : Int) : Nat → Int
  | 0 => wi - 1
  | k + 1 => nthI tr k
def trN (tr : List Int) (wi : Int) : Nat → Bool
  | 0 => true
  | k + 1 => trN tr wi k && kwB (nthI tr k) 0 (eldN tr wi k)
theorem trN_false (tr : List Int) (wi : Int) (k n : Nat) (h : trN tr wi k = false) (hk : k ≤ n) : trN tr wi n = false := by
  induction n with
  | zero => obtain rfl : k = 0 := by omega
            exact h
  | succ n ih =>
    by_cases e : k = n + 1
    · subst e; exact h
    · simp only [trN, ih (by omega), Bool.false_and]
def wyB (D : Vi) (n : Nat) : Bool := if D.sf = true then (D.wy != -1) && kwB D.wy (-3) ((n : Int) - 1) else D.wy == -1
/-- may a vigil be? -/
def mmB (F : Nat → Mo) (n : Nat) (D : Vi) : Bool := decide (D.bd.length = n) && decide (D.tp.length = n) && msN F D.bd D.tp n
def tmB (tr : List Int) (wi : Int) : Bool := decide (tr.length ≤ 100) && trN tr wi tr.length
def vmB (F : Nat → Mo) (n : Nat) (D : Vi) (si wi : Int) : Bool := mmB F n D && kwB D.qu 0 si && tmB D.tr wi && wyB D n
theorem RdX.atI {w : World} {b off n cap : Nat} {S : List Int} (h : RdX w (some ⟨b, off, none⟩) n cap (zys S)) (i : Nat) (hi : i < n) : w.cell? ⟨b, off + i, none⟩ = some (.int .i64 (nthI S i)) := by
  obtain ⟨_, _, e, _, hc⟩ := h.at' (by omega)
  cases e
  exact hc i _ (zys_at S i (by rw [← zys_length, h.len]; exact hi))
theorem RdX.atH {w : World} {b off n cap : Nat} {H : List Bool} (h : RdX w (some ⟨b, off, none⟩) n cap (hls H)) (i : Nat) (hi : i < n) : w.cell? ⟨b, off + i, none⟩ = some (.bool (hat H i)) := by
  obtain ⟨_, _, e, _, hc⟩ := h.at' (by omega)
  cases e
  exact hc i _ (hls_at H i (by rw [← hls_len, h.len]; exact hi))
theorem RdX.lenI {w : World} {a : Option Addr} {n cap : Nat} {S : List Int} (h : RdX w a n cap (zys S)) : S.length = n := by rw [← zys_length]; exact h.len
theorem RdX.lenH {w : World} {a : Option Addr} {n cap : Nat} {H : List Bool} (h : RdX w a n cap (hls H)) : H.length = n := by rw [← hls_len]; exact h.len
set_option maxHeartbeats 16000000 in
theorem mstand_any (ma : Option Addr) (n mc : Nat) (F : Nat → Mo) (A : Va) (D : Vi) (w : World) (hM : RdM w ma n mc F) (hV : RdVg w A D) (hn : n ≤ 32) : Calls Try.prog 40 #[.slice ma n mc, .agg (vgA D A)] w fun e w' => e = .returned (.bool (mmB F n D)) ∧ w.grownBy w' none := by
  have lb := hV.b.lenI
  have lp := hV.p.lenH
  unfold vgA mmB
  have b0 := BxS.new w 29 #[.bool D.sf, .int .i64 D.wy, .slice A.ab A.nb A.cb, .slice A.ap A.np A.cp, .int .i64 D.qu, .slice A.at' A.nt A.ct]
  have g0 := World.grownBy_alloc w (.cells #[.bool D.sf, .int .i64 D.wy, .slice A.ab A.nb A.cb, .slice A.ap A.np A.cp, .int .i64 D.qu, .slice A.at' A.nt A.ct] 29) none
  generalize hw0 : w.alloc (.cells #[.bool D.sf, .int .i64 D.wy, .slice A.ab A.nb A.cb, .slice A.ap A.np A.cp, .int .i64 D.qu, .slice A.at' A.nt A.ct] 29) = w0 at b0 g0
  obtain ⟨c0, c1, c2, c3, c4, c5⟩ := b0.cell6
  by_cases h1 : D.bd.length = n
  case neg =>
    have h1' : ((A.nb : Int) != (n : Int)) = true := by simp; omega
    rw [decide_eq_false h1]
    clear lb lp
    go_enter Try.func40, Try.ntmps40
    go_wp2
    go_ret
    exact ⟨rfl, g0⟩
  by_cases h2 : D.tp.length = n
  case neg =>
    have h1' : ((A.nb : Int) != (n : Int)) = false := by simp; omega
    have h2' : ((A.np : Int) != (n : Int)) = true := by simp; omega
    rw [decide_eq_true h1, decide_eq_false h2]
    clear lb lp
    go_enter Try.func40, Try.ntmps40
    go_wp2
    go_ret
    exact ⟨rfl, g0⟩
  rw [decide_eq_true h1, decide_eq_true h2]
  have e1 : A.nb = n := by omega
  have e2 : A.np = n := by omega
  obtain ⟨vb, vp, vt⟩ := hV
  generalize A.ab = ab at *
  generalize A.cb = cb at *
  generalize A.ap = ap at *
  generalize A.cp = cp at *
  generalize A.at' = at' at *
  generalize A.nt = nt at *
  generalize A.ct = ct at *
  rw [e1] at vb hw0 b0 c2 ⊢
  rw [e2] at vp hw0 b0 c3 ⊢
  clear lb lp e1 e2 h1 h2
  go_enter Try.func40, Try.ntmps40
  go_wp2
  go_loopw [23] (fun i wr => ∃ k : Nat, k ≤ n ∧ i = .int .i64 k ∧ w0.grownBy wr none ∧ msN F D.bd D.tp k = true) (fun i _ => n - (intOf i).toNat)
  case atStart => exact ⟨0, by omega, rfl, World.grownBy.refl _ _, rfl⟩
  case round =>
    obtain ⟨k, hk, rfl, hgr, HK⟩ := hrel
    have HK' : Hid (msN F D.bd D.tp k = true) := HK
    clear HK c0 c1 c2 c3 c4 c5
    by_cases hlt : k < n
    · have hlt' : (k : Int) < (n : Int) := by omega
      have hltn : k < n := hlt
      obtain ⟨b, off, rfl, hbw, _⟩ := hM.at' (by omega)
      obtain ⟨bb, ob, rfl, _, _⟩ := vb.at' (by omega)
      obtain ⟨bp, op, rfl, _, _⟩ := vp.at' (by omega)
      obtain ⟨k0, k1, k2, k3, k4, k5⟩ := ((hM.keep g0).keep hgr).six k hlt
      have bm := BxS.new wr 51 #[.int .i64 (F k).of', .int .i64 (F k).lo, .int .i64 (F k).hi, .int .i64 (F k).fr, .int .i64 (F k).ti, .string (F k).th]
      have gm := World.grownBy_alloc wr (.cells #[.int .i64 (F k).of', .int .i64 (F k).lo, .int .i64 (F k).hi, .int .i64 (F k).fr, .int .i64 (F k).ti, .string (F k).th] 51) none
      generalize hwm : wr.alloc (.cells #[.int .i64 (F k).of', .int .i64 (F k).lo, .int .i64 (F k).hi, .int .i64 (F k).fr, .int .i64 (F k).ti, .string (F k).th] 51) = wm at bm gm
      have GM := grown_trans hgr gm
      obtain ⟨c0, c1, c2, c3, c4, c5⟩ := (b0.keep GM (by simp)).cell6
      obtain ⟨m0, m1, m2, m3, m4, m5⟩ := bm.cell6
      have x1 := ((vb.keep g0).keep GM).atI k hlt
      have x2 := ((vp.keep g0).keep GM).atH k hlt
      have hw := fun wz => gwithin_any (nthI D.bd k) 0 (F k).fr wz
      have HS : Hid (msN F D.bd D.tp (k + 1) = (kwB (nthI D.bd k) 0 (F k).fr && !(hat D.tp k && (nthI D.bd k != (F k).fr)))) := by
        show _ = _
        simp only [msN, HK'.out, Bool.true_and]; rfl
      clear HK' hM vb vp vt
      generalize kwB (nthI D.bd k) 0 (F k).fr = q0 at *
      generalize hat D.tp k = q1 at *
      generalize hbb : nthI D.bd k = bk at *
      clear hbb
      generalize hff : (F k).fr = fk at *
      clear hff
      cases q0
      case false =>
        go_wp2
        go_quiet (first | (go_at_call 35; exact Calls.quiet_of_same (hw _)))
        go_wp2
        go_ret
        exact ⟨by rw [msN_false F D.bd D.tp (k + 1) n HS.out (by omega)]; rfl, grown_trans (grown_trans g0 GM) (grown_drewN wm nq none)⟩
      cases q1
      case false =>
        go_wp2
        go_quiet (first | (go_at_call 35; exact Calls.quiet_of_same (hw _)))
        go_wp2
        go_roundw
        case rel => exact ⟨k + 1, by omega, by go_num, grown_trans GM (grown_drewN wm nq none), HS.out⟩
        case measure => simp [intOf]; omega
      by_cases hq : bk = fk
      · subst hq
        have HS : Hid (msN F D.bd D.tp (k + 1) = true) := by show _ = _; rw [HS.out]; simp
        go_wp2
        go_quiet (first | (go_at_call 35; exact Calls.quiet_of_same (hw _)))
        go_wp2
        go_roundw
        case rel => exact ⟨k + 1, by omega, by go_num, grown_trans GM (grown_drewN wm nq none), HS.out⟩
        case measure => simp [intOf]; omega
      · have hq' : (bk != fk) = true := by simp; omega
        rw [hq'] at HS
        go_wp2
        go_quiet (first | (go_at_call 35; exact Calls.quiet_of_same (hw _)))
        go_wp2
        go_ret
        exact ⟨by rw [msN_false F D.bd D.tp (k + 1) n HS.out (by omega)]; rfl, grown_trans (grown_trans g0 GM) (grown_drewN wm nq none)⟩
    · have hlt' : ¬ (k : Int) < (n : Int) := by omega
      obtain rfl : k = n := by omega
      go_wp2
      go_ret
      exact ⟨by rw [HK'.out]; rfl, grown_trans g0 hgr⟩
set_option maxHeartbeats 8000000 in
theorem tripsMay_any (a : Option Addr) (n cap : Nat) (tr : List Int) (wi : Int) (w : World) (hR : RdX w a n cap (zys tr)) (hw : 1 ≤ wi ∧ wi ≤ 100000) : Calls Try.prog 41 #[.slice a n cap, .int .i64 wi] w fun e w' => e = .returned (.bool (tmB tr wi)) ∧ w' = w := by
  have hl := hR.lenI
  have hw1 := hw.1
  have hw2 := hw.2
  unfold tmB
  rw [hl]
  by_cases hn : n ≤ 100
  · have hn' : ¬ (100 : Int) < (n : Int) := by omega
    rw [decide_eq_true hn]
    clear hl
    go_enter Try.func41, Try.ntmps41
    go_wp2
    go_loop [5, 15] (fun el i => ∃ k : Nat, k ≤ n ∧ i = .int .i64 k ∧ el = .int .i64 (eldN tr wi k) ∧ trN tr wi k = true) (fun _ i => n - (intOf i).toNat)
    case atStart => exact ⟨0, by omega, rfl, rfl, rfl⟩
    case round =>
      obtain ⟨k, hk, rfl, rfl, HK⟩ := hrel
      have HK' : Hid (trN tr wi k = true) := HK
      clear HK
      by_cases hlt : k < n
      · have hlt' : (k : Int) < (n : Int) := by omega
        obtain ⟨b, off, rfl, hbw, _⟩ := hR.at' (by omega)
        have c1 := hR.atI k hlt
        have hq := fun wz => gwithin_any (nthI tr k) 0 (eldN tr wi k) wz
        have HS : Hid (trN tr wi (k + 1) = kwB (nthI tr k) 0 (eldN tr wi k)) := by show _ = _; simp only [trN, HK'.out, Bool.true_and]
        have HE : Hid (eldN tr wi (k + 1) = nthI tr k) := rfl
        clear HK' hR
        generalize kwB (nthI tr k) 0 (eldN tr wi k) = q at *
        generalize hz : nthI tr k = z at *
        clear hz
        generalize hy : eldN tr wi k = y at *
        clear hy
        cases q
        · go_wp2_with (go_at_call 35; refine (hq _).mono ?_; rintro e w1 ⟨rfl, hw⟩; have hw := hw.symm; subst hw)
          go_ret
          exact ⟨by rw [trN_false tr wi (k + 1) n HS.out (by omega)]; rfl, rfl⟩
        · go_wp2_with (go_at_call 35; refine (hq _).mono ?_; rintro e w1 ⟨rfl, hw⟩; have hw := hw.symm; subst hw)
          go_round
          case rel => exact ⟨k + 1, by omega, by go_num, by rw [HE.out], HS.out⟩
          case measure => simp [intOf] <;> omega
      · have hlt' : ¬ (k : Int) < (n : Int) := by omega
        obtain rfl : k = n := by omega
        go_wp2
        go_ret
        exact ⟨by rw [HK'.out]; rfl, rfl⟩
  · have hn' : (100 : Int) < (n : Int) := by omega
    rw [decide_eq_false hn]
    clear hl
    go_enter Try.func41, Try.ntmps41
    go_wp2
    go_ret
    exact ⟨rfl, rfl⟩
set_option maxHeartbeats 8000000 in
theorem whyMay_any (A : Va) (D : Vi) (n : Nat) (w : World) (hn : n ≤ 32) : Calls Try.prog 42 #[.agg (vgA D A), .int .i64 (n : Int)] w fun e w' => e = .returned (.bool (wyB D n)) ∧ w.grownBy w' none := by
  unfold vgA wyB
  have hq := fun wz => gwithin_any D.wy (-3) ((n : Int) - 1) wz
  have b0 := BxS.new w 29 #[.bool D.sf, .int .i64 D.wy, .slice A.ab A.nb A.cb, .slice A.ap A.np A.cp, .int .i64 D.qu, .slice A.at' A.nt A.ct]
  have g0 := World.grownBy_alloc w (.cells #[.bool D.sf, .int .i64 D.wy, .slice A.ab A.nb A.cb, .slice A.ap A.np A.cp, .int .i64 D.qu, .slice A.at' A.nt A.ct] 29) none
  generalize hw0 : w.alloc (.cells #[.bool D.sf, .int .i64 D.wy, .slice A.ab A.nb A.cb, .slice A.ap A.np A.cp, .int .i64 D.qu, .slice A.at' A.nt A.ct] 29) = w0 at b0 g0
  obtain ⟨c0, c1, c2, c3, c4, c5⟩ := b0.cell6
  generalize kwB D.wy (-3) ((n : Int) - 1) = q at *
  generalize D.sf = sf at *
  generalize D.wy = wy at *
  cases sf
  · go_enter Try.func42, Try.ntmps42
    go_wp2
    go_ret
    exact ⟨by simp, g0⟩
  · by_cases h1 : wy = -1
    · subst h1
      go_enter Try.func42, Try.ntmps42
      go_wp2_with (go_at_call 35; refine (hq _).mono ?_; rintro e w1 ⟨rfl, hw⟩; have hw := hw.symm; subst hw)
      go_ret
      exact ⟨by simp, g0⟩
    · have h1' : (wy != -1) = true := by simp; omega
      rw [h1']
      go_enter Try.func42, Try.ntmps42
      go_wp2_with (go_at_call 35; refine (hq _).mono ?_; rintro e w1 ⟨rfl, hw⟩; have hw := hw.symm; subst hw)
      go_ret
      exact ⟨by simp, g0⟩
end Go.Proofs.Ytnpkmjdlohdieaa
