import Derived.Test.YtnpkmjdlohdieaaUAw
namespace Go.Proofs.Ytnpkmjdlohdieaa
open Go.RowKit
set_option maxRecDepth 100000
set_option linter.unusedVariables false
set_option linter.unusedSimpArgs false
/-- is there a value for each of the first k monitors? -/
def amN (F : Nat → Mo) (vn : Nat) : Nat → Bool
  | 0 => true
  | k + 1 => amN F vn k && decide ((F k).of' < (vn : Int))
theorem amN_false (F : Nat → Mo) (vn k n : Nat) (h : amN F vn k = false) (hk : k ≤ n) : amN F vn n = false := by
  induction n with
  | zero => obtain rfl : k = 0 := by omega
            exact h
  | succ n ih =>
    by_cases e : k = n + 1
    · subst e; exact h
    · simp only [amN, ih (by omega), Bool.false_and]
theorem amN_at (F : Nat → Mo) (vn n : Nat) (h : amN F vn n = true) (k : Nat) (hk : k < n) : (F k).of' < (vn : Int) := by
  induction n with
  | zero => omega
  | succ n ih =>
    simp only [amN, Bool.and_eq_true, decide_eq_true_eq] at h
    by_cases e : k = n
    · subst e; exact h.2
    · exact ih h.1 (by omega)
theorem meas1_any (bq vn : Nat) (m : Mo) (w : World) (hb : BxS w bq 3 #[.int .i64 (vn : Int)]) : Calls Try.prog 44 #[.agg #[.int .i64 m.of', .int .i64 m.lo, .int .i64 m.hi, .int .i64 m.fr, .int .i64 m.ti, .string m.th], .pointer (some ⟨bq, 0, none⟩)] w fun e w' => e = .returned (.bool (decide ((vn : Int) ≤ m.of'))) ∧ w.grownBy w' none := by
  have bm := BxS.new w 51 #[.int .i64 m.of', .int .i64 m.lo, .int .i64 m.hi, .int .i64 m.fr, .int .i64 m.ti, .string m.th]
  have gm := World.grownBy_alloc w (.cells #[.int .i64 m.of', .int .i64 m.lo, .int .i64 m.hi, .int .i64 m.fr, .int .i64 m.ti, .string m.th] 51) none
  generalize hwm : w.alloc (.cells #[.int .i64 m.of', .int .i64 m.lo, .int .i64 m.hi, .int .i64 m.fr, .int .i64 m.ti, .string m.th] 51) = wm at bm gm
  obtain ⟨m0, m1, m2, m3, m4, m5⟩ := bm.cell6
  have x0 : wm.cell? ⟨bq, 0, none⟩ = some (.int .i64 (vn : Int)) := (hb.keep gm (by simp)).cell 0 (by show 0 < 1; decide)
  go_enter Try.func44, Try.ntmps44
  go_wp2
  go_ret
  exact ⟨rfl, gm⟩
set_option maxHeartbeats 8000000 in
theorem indexM_any (bq vn : Nat) (ma : Option Addr) (n mc : Nat) (F : Nat → Mo) (w : World) (hM : RdM w ma n mc F) (hn : n ≤ 32) (hb : BxS w bq 3 #[.int .i64 (vn : Int)]) : Calls Try.prog 55 #[.slice ma n mc, .func (.func 44) #[] #[.pointer (some ⟨bq, 0, none⟩)]] w fun e w' => ∃ r : Int, e = .returned (.int .i64 r) ∧ (0 ≤ r ↔ amN F vn n = false) ∧ w.grownBy w' none := by
  go_enter Try.func55, Try.ntmps55
  go_wp2
  go_loopw [8] (fun i wr => ∃ k : Nat, k ≤ n ∧ i = .int .i64 k ∧ amN F vn k = true ∧ w.grownBy wr none) (fun i _ => n - (intOf i).toNat)
  case atStart => exact ⟨0, by omega, rfl, rfl, World.grownBy.refl _ _⟩
  case round =>
    obtain ⟨k, hk, rfl, HK, hgr⟩ := hrel
    have HK' : Hid (amN F vn k = true) := HK
    clear HK
    by_cases hlt : k < n
    · have hlt' : (k : Int) < (n : Int) := by omega
      obtain ⟨b, off, rfl, hbw, _⟩ := hM.at' (by omega)
      obtain ⟨k0, k1, k2, k3, k4, k5⟩ := (hM.keep hgr).six k hlt
      have ho := meas1_any bq vn (F k) wr (hb.keep hgr (by simp))
      have HS : Hid (amN F vn (k + 1) = decide ((F k).of' < (vn : Int))) := by show _ = _; simp only [amN, HK'.out, Bool.true_and]
      clear hM
      generalize F k = m at *
      by_cases hq : (vn : Int) ≤ m.of'
      · rw [decide_eq_true hq] at ho
        have HS : Hid (amN F vn (k + 1) = false) := by show _ = _; rw [HS.out]; exact decide_eq_false (by omega)
        go_wp2_with (go_at_call 44; refine ho.mono ?_; rintro e w1 ⟨rfl, g1⟩)
        go_ret
        exact ⟨k, rfl, ⟨fun _ => amN_false F vn (k + 1) n HS.out (by omega), fun _ => by omega⟩, grown_trans hgr g1⟩
      · rw [decide_eq_false hq] at ho
        have HS : Hid (amN F vn (k + 1) = true) := by show _ = _; rw [HS.out]; exact decide_eq_true (by omega)
        go_wp2_with (go_at_call 44; refine ho.mono ?_; rintro e w1 ⟨rfl, g1⟩)
        go_roundw
        case rel => exact ⟨k + 1, by omega, by go_num, HS.out, grown_trans hgr g1⟩
        case measure => simp [intOf]; omega
    · have hlt' : ¬ (k : Int) < (n : Int) := by omega
      obtain rfl : k = n := by omega
      go_wp2
      go_ret
      exact ⟨-1, rfl, ⟨fun h => absurd h (by decide), fun h => by rw [HK'.out] at h; cases h⟩, hgr⟩
theorem containsM_any (bq vn : Nat) (ma : Option Addr) (n mc : Nat) (F : Nat → Mo) (w : World) (hM : RdM w ma n mc F) (hn : n ≤ 32) (hb : BxS w bq 3 #[.int .i64 (vn : Int)]) : Calls Try.prog 43 #[.slice ma n mc, .func (.func 44) #[] #[.pointer (some ⟨bq, 0, none⟩)]] w fun e w' => e = .returned (.bool (!amN F vn n)) ∧ w.grownBy w' none := by
  have h := indexM_any bq vn ma n mc F w hM hn hb
  go_enter Try.func43, Try.ntmps43
  go_wp2_with (go_at_call 55; refine h.mono ?_; rintro e w1 ⟨r, rfl, hr, g1⟩)
  all_goals go_ret
  all_goals
    refine ⟨?_, g1⟩
    cases hg : amN F vn n <;> simp [hg] at hr ⊢ <;> omega
theorem measured_any (vn : Nat) (ma : Option Addr) (n mc : Nat) (F : Nat → Mo) (w : World) (hM : RdM w ma n mc F) (hn : n ≤ 32) : Calls Try.prog 31 #[.slice ma n mc, .int .i64 (vn : Int)] w fun e w' => e = .returned (.bool (amN F vn n)) ∧ w.grownBy w' none := by
  have b0 := BxS.new w 3 #[.int .i64 (vn : Int)]
  have g0 := World.grownBy_alloc w (.cells #[.int .i64 (vn : Int)] 3) none
  generalize hw0 : w.alloc (.cells #[.int .i64 (vn : Int)] 3) = wb at b0 g0
  have h := containsM_any w.heap.size vn ma n mc F wb (hM.keep g0) hn b0
  go_enter Try.func31, Try.ntmps31
  go_wp2_with (go_at_call 43; refine h.mono ?_; rintro e w1 ⟨rfl, g1⟩)
  go_ret
  exact ⟨by simp, grown_trans g0 g1⟩
set_option maxHeartbeats 16000000 in
theorem vigilMay_any (G : Gd) (A : Va) (D : Vi) (F : Nat → Mo) (w : World) (hM : RdM w G.ma G.n G.mc F) (hV : RdVg w A D) (hn : G.n ≤ 32) (hw : 1 ≤ G.wi ∧ G.wi ≤ 100000) :
    Calls Try.prog 30 #[.agg #[.slice G.ma G.n G.mc, .int .i64 G.si, .int .i64 G.mo, .int .i64 G.wi, .string G.sa], .agg (vgA D A)] w fun e w' => e = .returned (.bool (vmB F G.n D G.si G.wi)) ∧ w.grownBy w' none := by
  unfold vmB
  have k1 := fun wz (h1 : RdM wz G.ma G.n G.mc F) (h2 : RdVg wz A D) => mstand_any G.ma G.n G.mc F A D wz h1 h2 hn
  have k2 := fun wz => gwithin_any D.qu 0 G.si wz
  have k3 := fun wz (h2 : RdVg wz A D) => tripsMay_any A.at' A.nt A.ct D.tr G.wi wz h2.t hw
  have k4 := fun wz => whyMay_any A D G.n wz hn
  unfold vgA at k1 k4 ⊢
  have b0 := BxS.new w 24 #[.slice G.ma G.n G.mc, .int .i64 G.si, .int .i64 G.mo, .int .i64 G.wi, .string G.sa]
  have g0 := World.grownBy_alloc w (.cells #[.slice G.ma G.n G.mc, .int .i64 G.si, .int .i64 G.mo, .int .i64 G.wi, .string G.sa] 24) none
  generalize hw0 : w.alloc (.cells #[.slice G.ma G.n G.mc, .int .i64 G.si, .int .i64 G.mo, .int .i64 G.wi, .string G.sa] 24) = w0 at b0 g0
  have hz0 : w0.heap.size = w.heap.size + 1 := by rw [← hw0]; simp
  have b1 := BxS.new w0 29 #[.bool D.sf, .int .i64 D.wy, .slice A.ab A.nb A.cb, .slice A.ap A.np A.cp, .int .i64 D.qu, .slice A.at' A.nt A.ct]
  have g1 := World.grownBy_alloc w0 (.cells #[.bool D.sf, .int .i64 D.wy, .slice A.ab A.nb A.cb, .slice A.ap A.np A.cp, .int .i64 D.qu, .slice A.at' A.nt A.ct] 29) none
  generalize hw1 : w0.alloc (.cells #[.bool D.sf, .int .i64 D.wy, .slice A.ab A.nb A.cb, .slice A.ap A.np A.cp, .int .i64 D.qu, .slice A.at' A.nt A.ct] 29) = w1 at b1 g1
  rw [hz0] at b1
  have b01 := b0.keep g1 (by simp)
  have G1 := grown_trans g0 g1
  have hV1 := hV.keep G1
  have hM1 := hM.keep G1
  obtain ⟨c0, c1, c2, c3, c4⟩ := b01.cell5
  obtain ⟨d0, d1, d2, d3, d4, d5⟩ := b1.cell6
  generalize mmB F G.n D = q1 at *
  generalize kwB D.qu 0 G.si = q2 at *
  generalize tmB D.tr G.wi = q3 at *
  generalize wyB D G.n = q4 at *
  clear hM hV hw
  cases q1
  case false =>
    go_enter Try.func30, Try.ntmps30
    go_wp2_with (first
      | (go_at_call 40; refine (k1 _ hM1 hV1).mono ?_; rintro e w2 ⟨rfl, u2⟩; clear c0 c1 c2 c3 c4 d0 d1 d2 d3 d4 d5; obtain ⟨c0, c1, c2, c3, c4⟩ := (b01.keep u2 (by simp)).cell5; obtain ⟨d0, d1, d2, d3, d4, d5⟩ := (b1.keep u2 (by simp)).cell6)
      | (go_at_call 35; refine (k2 _).mono ?_; rintro e w3 ⟨rfl, hw⟩; have hw := hw.symm; subst hw)
      | (go_at_call 41; refine (k3 _ (hV1.keep u2)).mono ?_; rintro e w3 ⟨rfl, hw⟩; have hw := hw.symm; subst hw)
      | (go_at_call 42; refine (k4 _).mono ?_; rintro e w4 ⟨rfl, u4⟩))
    go_ret
    exact ⟨by simp, grown_trans G1 u2⟩
  cases q2
  case false =>
    go_enter Try.func30, Try.ntmps30
    go_wp2_with (first
      | (go_at_call 40; refine (k1 _ hM1 hV1).mono ?_; rintro e w2 ⟨rfl, u2⟩; clear c0 c1 c2 c3 c4 d0 d1 d2 d3 d4 d5; obtain ⟨c0, c1, c2, c3, c4⟩ := (b01.keep u2 (by simp)).cell5; obtain ⟨d0, d1, d2, d3, d4, d5⟩ := (b1.keep u2 (by simp)).cell6)
      | (go_at_call 35; refine (k2 _).mono ?_; rintro e w3 ⟨rfl, hw⟩; have hw := hw.symm; subst hw)
      | (go_at_call 41; refine (k3 _ (hV1.keep u2)).mono ?_; rintro e w3 ⟨rfl, hw⟩; have hw := hw.symm; subst hw)
      | (go_at_call 42; refine (k4 _).mono ?_; rintro e w4 ⟨rfl, u4⟩))
    go_ret
    exact ⟨by simp, grown_trans G1 u2⟩
  cases q3
  case false =>
    go_enter Try.func30, Try.ntmps30
    go_wp2_with (first
      | (go_at_call 40; refine (k1 _ hM1 hV1).mono ?_; rintro e w2 ⟨rfl, u2⟩; clear c0 c1 c2 c3 c4 d0 d1 d2 d3 d4 d5; obtain ⟨c0, c1, c2, c3, c4⟩ := (b01.keep u2 (by simp)).cell5; obtain ⟨d0, d1, d2, d3, d4, d5⟩ := (b1.keep u2 (by simp)).cell6)
      | (go_at_call 35; refine (k2 _).mono ?_; rintro e w3 ⟨rfl, hw⟩; have hw := hw.symm; subst hw)
      | (go_at_call 41; refine (k3 _ (hV1.keep u2)).mono ?_; rintro e w3 ⟨rfl, hw⟩; have hw := hw.symm; subst hw)
      | (go_at_call 42; refine (k4 _).mono ?_; rintro e w4 ⟨rfl, u4⟩))
    go_ret
    exact ⟨by simp, grown_trans G1 u2⟩
  go_enter Try.func30, Try.ntmps30
  go_wp2_with (first
    | (go_at_call 40; refine (k1 _ hM1 hV1).mono ?_; rintro e w2 ⟨rfl, u2⟩; clear c0 c1 c2 c3 c4 d0 d1 d2 d3 d4 d5; obtain ⟨c0, c1, c2, c3, c4⟩ := (b01.keep u2 (by simp)).cell5; obtain ⟨d0, d1, d2, d3, d4, d5⟩ := (b1.keep u2 (by simp)).cell6)
    | (go_at_call 35; refine (k2 _).mono ?_; rintro e w3 ⟨rfl, hw⟩; have hw := hw.symm; subst hw)
    | (go_at_call 41; refine (k3 _ (hV1.keep u2)).mono ?_; rintro e w3 ⟨rfl, hw⟩; have hw := hw.symm; subst hw)
    | (go_at_call 42; refine (k4 _).mono ?_; rintro e w4 ⟨rfl, u4⟩))
  go_ret
  exact ⟨by simp, grown_trans (grown_trans G1 u2) u4⟩
end Go.Proofs.Ytnpkmjdlohdieaa
