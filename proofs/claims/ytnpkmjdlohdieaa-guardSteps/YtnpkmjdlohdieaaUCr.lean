import Derived.Test.YtnpkmjdlohdieaaUCk
namespace Go.Proofs.Ytnpkmjdlohdieaa
open Go.RowKit
set_option maxRecDepth 100000
set_option linter.unusedVariables false
set_option linter.unusedSimpArgs false
def w32 (n : Int) : Int := wrap32 n
theorem w32_in (n : Int) (h : kwB n (-2147483648) 2147483647 = true) : w32 n = n := by
  have := kwB_ok h
  unfold w32 wrap32
  omega
theorem w32_out (n : Int) (h : kwB n (-2147483648) 2147483647 = false) : ¬ w32 n = n := by
  have h : ¬ (-2147483648 ≤ n ∧ n ≤ 2147483647) := of_decide_eq_false h
  unfold w32 wrap32
  omega
theorem wrap32_any (n : Int) (w : World) : Calls Try.prog 25 #[.int .i64 n] w fun e w' => e = .returned (.int .i64 (w32 n)) ∧ w' = w := by
  have h : wrap64 (wrap32 n) = w32 n := by
    unfold w32 wrap64 wrap32
    omega
  go_enter Try.func25, Try.ntmps25
  go_wp2
  go_ret
  exact ⟨congrArg (fun z => Ending.returned (Value.int .i64 z)) h, rfl⟩
theorem moB_of (m : Mo) : moB m = (kwB m.of' 0 63 && kwB m.lo (-2147483648) 2147483647 && kwB m.hi (-2147483648) 2147483647 && decide (m.lo ≤ m.hi) && kwB m.fr 1 1000 && kwB m.ti 1 3) := by
  unfold moB kwB
  rw [Bool.eq_iff_iff]
  simp
  omega
theorem noB_of (s : ByteArray) : noB s = (decide (s.size = 0) || (decide (0 < s.size) && nmB s)) := by
  unfold noB
  by_cases h : s.size = 0
  · simp [h]
  · have : 0 < s.size := by omega
    simp [h, this]
set_option maxHeartbeats 16000000 in
theorem rfault_any (ma : Option Addr) (n mc : Nat) (si mo wi : Int) (sa : ByteArray) (F : Nat → Mo) (w : World) (hM : RdM w ma n mc F) : Calls Try.prog 10 #[.agg #[.slice ma n mc, .int .i64 si, .int .i64 mo, .int .i64 wi, .string sa]] w fun e w' => e = .returned (ftV (gfP F n si mo wi sa)) ∧ w.grownBy w' none := by
  have b0 := BxS.new w 24 #[.slice ma n mc, .int .i64 si, .int .i64 mo, .int .i64 wi, .string sa]
  have g0 := World.grownBy_alloc w (.cells #[.slice ma n mc, .int .i64 si, .int .i64 mo, .int .i64 wi, .string sa] 24) none
  generalize hw0 : w.alloc (.cells #[.slice ma n mc, .int .i64 si, .int .i64 mo, .int .i64 wi, .string sa] 24) = w0 at b0 g0
  have hz0 : w0.heap.size = w.heap.size + 1 := by rw [← hw0]; simp
  have b1 := BxS.new w0 34 #[.int .i64 0, .int .i64 0]
  have g1 := World.grownBy_alloc w0 (.cells #[.int .i64 0, .int .i64 0] 34) none
  generalize hw1 : w0.alloc (.cells #[.int .i64 0, .int .i64 0] 34) = w1 at b1 g1
  rw [hz0] at b1
  have b01 := b0.keep g1 (by simp)
  have G1 := grown_trans g0 g1
  obtain ⟨c0, c1, c2, c3, c4⟩ := b01.cell5
  have i2 := Try.info_ft
  have t2 : True := trivial
  by_cases hn : 32 < n
  · have hn' : (32 : Int) < (n : Int) := by omega
    have e : gfP F n si mo wi sa = (1, 0) := if_pos hn
    rw [e]
    go_enter Try.func10, Try.ntmps10
    go_wp2_with (have _t := t2; refine wpList_stX _ rfl _ (.tmp 2) (.tmp 9) rfl (w.heap.size + 1) _ _ rfl rfl b1 i2 rfl (by simp [Value.oneCell']) ?_; clear t2; intro w9 b9 g9)
    refine bodyPost_ret (results_cell1 rfl _ _ _ ⟨w.heap.size + 1, 0, none⟩ _ rfl (BxS.load (t := 34) b9 Try.underlying34 i2)) rfl ?_
    exact ⟨rfl, grown_far G1 g9 (fun q e => by have e : w.heap.size + 1 = q := Option.some.inj e; omega)⟩
  · have hn' : ¬ (32 : Int) < (n : Int) := by omega
    have HG : Hid (gfP F n si mo wi sa = fbM F (grE si mo wi sa, 0) n 0) := if_neg hn
    rw [HG.out]
    clear HG
    go_enter Try.func10, Try.ntmps10
    go_wp2
    go_loopw [3] (fun i wr => ∃ k : Nat, k ≤ n ∧ i = .int .i64 k ∧ w1.grownBy wr none ∧ fbM F (grE si mo wi sa, 0) (n - k) k = fbM F (grE si mo wi sa, 0) n 0) (fun i _ => n - (intOf i).toNat)
    case atStart => exact ⟨0, by omega, rfl, World.grownBy.refl _ _, rfl⟩
    case round =>
      obtain ⟨k, hk, rfl, hgr, HK⟩ := hrel
      have HK' : Hid (fbM F (grE si mo wi sa, 0) (n - k) k = fbM F (grE si mo wi sa, 0) n 0) := HK
      clear HK c0 c1 c2 c3 c4
      obtain ⟨c0, c1, c2, c3, c4⟩ := (b01.keep hgr (by simp)).cell5
      have br := b1.keep hgr (by simp)
      by_cases hlt : k < n
      · have hlt' : (k : Int) < (n : Int) := by omega
        obtain ⟨b, off, rfl, hbw, _⟩ := hM.at' (by omega)
        obtain ⟨k0, k1, k2, k3, k4, k5⟩ := ((hM.keep G1).keep hgr).six k hlt
        have bm := BxS.new wr 51 #[.int .i64 (F k).of', .int .i64 (F k).lo, .int .i64 (F k).hi, .int .i64 (F k).fr, .int .i64 (F k).ti, .string (F k).th]
        have gm := World.grownBy_alloc wr (.cells #[.int .i64 (F k).of', .int .i64 (F k).lo, .int .i64 (F k).hi, .int .i64 (F k).fr, .int .i64 (F k).ti, .string (F k).th] 51) none
        generalize hwm : wr.alloc (.cells #[.int .i64 (F k).of', .int .i64 (F k).lo, .int .i64 (F k).hi, .int .i64 (F k).fr, .int .i64 (F k).ti, .string (F k).th] 51) = wm at bm gm
        obtain ⟨m0, m1, m2, m3, m4, m5⟩ := bm.cell6
        have bq := br.keep gm (by simp)
        have h0 := fun wz => inRange_any (F k).of' 0 63 wz
        have h1 := fun wz => wrap32_any (F k).lo wz
        have h2 := fun wz => wrap32_any (F k).hi wz
        have h4 := fun wz => inRange_any (F k).fr 1 1000 wz
        have h5 := fun wz => inRange_any (F k).ti 1 3 wz
        have h6 := fun wz => rname_any (F k).th wz
        have HE : Hid (moE (F k) = if (kwB (F k).of' 0 63 && kwB (F k).lo (-2147483648) 2147483647 && kwB (F k).hi (-2147483648) 2147483647 && decide ((F k).lo ≤ (F k).hi) && kwB (F k).fr 1 1000 && kwB (F k).ti 1 3) = true then (if (decide ((F k).th.size = 0) || (decide (0 < (F k).th.size) && nmB (F k).th)) = true then 0 else 10) else 2) := by
          show _ = _
          unfold moE
          rw [moB_of, noB_of]
        have HS1 := fbM_step F (grE si mo wi sa, 0) n k hlt
        have HS2 := fbM_stop F (grE si mo wi sa, 0) n k hlt
        rw [HK'.out] at HS1 HS2
        have HS1' : Hid (moE (F k) = 0 → fbM F (grE si mo wi sa, 0) (n - (k + 1)) (k + 1) = fbM F (grE si mo wi sa, 0) n 0) := HS1
        have HS2' : Hid (¬moE (F k) = 0 → fbM F (grE si mo wi sa, 0) n 0 = (moE (F k), k)) := HS2
        clear HS1 HS2 HK'
        have l1 := w32_in (F k).lo
        have l1' := w32_out (F k).lo
        have l2 := w32_in (F k).hi
        have l2' := w32_out (F k).hi
        generalize (F k).lo = zlo at *
        generalize (F k).hi = zhi at *
        generalize w32 zlo = ylo at *
        generalize w32 zhi = yhi at *
        generalize kwB (F k).of' 0 63 = q0 at *
        generalize kwB zlo (-2147483648) 2147483647 = q1 at *
        generalize kwB zhi (-2147483648) 2147483647 = q2 at *
        generalize kwB (F k).fr 1 1000 = q4 at *
        generalize kwB (F k).ti 1 3 = q5 at *
        generalize moE (F k) = me at *
        cases q0
        case false =>
          have he : me = 2 := by rw [HE.out]; simp
          have HS0 := HS2'.out (by omega)
          rw [he] at HS0
          have HS' : Hid (fbM F (grE si mo wi sa, 0) n 0 = (2, k)) := HS0
          clear HE HS1' HS2' HS0 l1 l1' l2 l2' he
          go_wp2
          go_quiet (first | (go_at_call 24; (with_reducible first | exact Calls.quiet_of_same (h0 _) | exact Calls.quiet_of_same (h4 _) | exact Calls.quiet_of_same (h5 _))) | (go_at_call 25; (with_reducible first | exact Calls.quiet_of_same (h1 _) | exact Calls.quiet_of_same (h2 _))))
          have bq := bq.keep (grown_drewN wm nq none) (by simp)
          have t3 : True := trivial
          go_wp2_with (have _t := t3; refine wpList_stX _ rfl _ (.tmp 2) (.tmp 62) rfl (w.heap.size + 1) _ _ rfl rfl bq i2 rfl (by simp [Value.oneCell']) ?_; clear t3; intro w9 b9 g9)
          have HS := HS'.out
          refine bodyPost_ret (results_cell1 rfl _ _ _ ⟨w.heap.size + 1, 0, none⟩ _ rfl (BxS.load (t := 34) b9 Try.underlying34 i2)) rfl ?_
          exact ⟨by rw [HS]; rfl, grown_far (grown_trans (grown_trans (grown_trans G1 hgr) gm) (grown_drewN wm nq none)) g9 (fun q e => by have e : w.heap.size + 1 = q := Option.some.inj e; omega)⟩
        cases q1
        case false =>
          have x1 : (ylo != zlo) = true := by simp; exact l1' rfl
          have he : me = 2 := by rw [HE.out]; simp
          have HS0 := HS2'.out (by omega)
          rw [he] at HS0
          have HS' : Hid (fbM F (grE si mo wi sa, 0) n 0 = (2, k)) := HS0
          clear HE HS1' HS2' HS0 l1 l1' l2 l2' he
          go_wp2
          go_quiet (first | (go_at_call 24; (with_reducible first | exact Calls.quiet_of_same (h0 _) | exact Calls.quiet_of_same (h4 _) | exact Calls.quiet_of_same (h5 _))) | (go_at_call 25; (with_reducible first | exact Calls.quiet_of_same (h1 _) | exact Calls.quiet_of_same (h2 _))))
          have bq := bq.keep (grown_drewN wm nq none) (by simp)
          have t3 : True := trivial
          go_wp2_with (have _t := t3; refine wpList_stX _ rfl _ (.tmp 2) (.tmp 62) rfl (w.heap.size + 1) _ _ rfl rfl bq i2 rfl (by simp [Value.oneCell']) ?_; clear t3; intro w9 b9 g9)
          have HS := HS'.out
          refine bodyPost_ret (results_cell1 rfl _ _ _ ⟨w.heap.size + 1, 0, none⟩ _ rfl (BxS.load (t := 34) b9 Try.underlying34 i2)) rfl ?_
          exact ⟨by rw [HS]; rfl, grown_far (grown_trans (grown_trans (grown_trans G1 hgr) gm) (grown_drewN wm nq none)) g9 (fun q e => by have e : w.heap.size + 1 = q := Option.some.inj e; omega)⟩
        obtain rfl := l1 rfl
        cases q2
        case false =>
          have x1 : (yhi != zhi) = true := by simp; exact l2' rfl
          have he : me = 2 := by rw [HE.out]; simp
          have HS0 := HS2'.out (by omega)
          rw [he] at HS0
          have HS' : Hid (fbM F (grE si mo wi sa, 0) n 0 = (2, k)) := HS0
          clear HE HS1' HS2' HS0 l1 l1' l2 l2' he
          go_wp2
          go_quiet (first | (go_at_call 24; (with_reducible first | exact Calls.quiet_of_same (h0 _) | exact Calls.quiet_of_same (h4 _) | exact Calls.quiet_of_same (h5 _))) | (go_at_call 25; (with_reducible first | exact Calls.quiet_of_same (h1 _) | exact Calls.quiet_of_same (h2 _))))
          have bq := bq.keep (grown_drewN wm nq none) (by simp)
          have t3 : True := trivial
          go_wp2_with (have _t := t3; refine wpList_stX _ rfl _ (.tmp 2) (.tmp 62) rfl (w.heap.size + 1) _ _ rfl rfl bq i2 rfl (by simp [Value.oneCell']) ?_; clear t3; intro w9 b9 g9)
          have HS := HS'.out
          refine bodyPost_ret (results_cell1 rfl _ _ _ ⟨w.heap.size + 1, 0, none⟩ _ rfl (BxS.load (t := 34) b9 Try.underlying34 i2)) rfl ?_
          exact ⟨by rw [HS]; rfl, grown_far (grown_trans (grown_trans (grown_trans G1 hgr) gm) (grown_drewN wm nq none)) g9 (fun q e => by have e : w.heap.size + 1 = q := Option.some.inj e; omega)⟩
        obtain rfl := l2 rfl
        by_cases hle : ylo ≤ yhi
        case neg =>
          have x1 : yhi < ylo := by omega
          rw [decide_eq_false hle] at HE
          have he : me = 2 := by rw [HE.out]; simp
          have HS0 := HS2'.out (by omega)
          rw [he] at HS0
          have HS' : Hid (fbM F (grE si mo wi sa, 0) n 0 = (2, k)) := HS0
          clear HE HS1' HS2' HS0 l1 l1' l2 l2' he
          go_wp2
          go_quiet (first | (go_at_call 24; (with_reducible first | exact Calls.quiet_of_same (h0 _) | exact Calls.quiet_of_same (h4 _) | exact Calls.quiet_of_same (h5 _))) | (go_at_call 25; (with_reducible first | exact Calls.quiet_of_same (h1 _) | exact Calls.quiet_of_same (h2 _))))
          have bq := bq.keep (grown_drewN wm nq none) (by simp)
          have t3 : True := trivial
          go_wp2_with (have _t := t3; refine wpList_stX _ rfl _ (.tmp 2) (.tmp 62) rfl (w.heap.size + 1) _ _ rfl rfl bq i2 rfl (by simp [Value.oneCell']) ?_; clear t3; intro w9 b9 g9)
          have HS := HS'.out
          refine bodyPost_ret (results_cell1 rfl _ _ _ ⟨w.heap.size + 1, 0, none⟩ _ rfl (BxS.load (t := 34) b9 Try.underlying34 i2)) rfl ?_
          exact ⟨by rw [HS]; rfl, grown_far (grown_trans (grown_trans (grown_trans G1 hgr) gm) (grown_drewN wm nq none)) g9 (fun q e => by have e : w.heap.size + 1 = q := Option.some.inj e; omega)⟩
        have x1 : ¬ yhi < ylo := by omega
        rw [decide_eq_true hle] at HE
        cases q4
        case false =>
          have he : me = 2 := by rw [HE.out]; simp
          have HS0 := HS2'.out (by omega)
          rw [he] at HS0
          have HS' : Hid (fbM F (grE si mo wi sa, 0) n 0 = (2, k)) := HS0
          clear HE HS1' HS2' HS0 l1 l1' l2 l2' he
          go_wp2
          go_quiet (first | (go_at_call 24; (with_reducible first | exact Calls.quiet_of_same (h0 _) | exact Calls.quiet_of_same (h4 _) | exact Calls.quiet_of_same (h5 _))) | (go_at_call 25; (with_reducible first | exact Calls.quiet_of_same (h1 _) | exact Calls.quiet_of_same (h2 _))))
          have bq := bq.keep (grown_drewN wm nq none) (by simp)
          have t3 : True := trivial
          go_wp2_with (have _t := t3; refine wpList_stX _ rfl _ (.tmp 2) (.tmp 62) rfl (w.heap.size + 1) _ _ rfl rfl bq i2 rfl (by simp [Value.oneCell']) ?_; clear t3; intro w9 b9 g9)
          have HS := HS'.out
          refine bodyPost_ret (results_cell1 rfl _ _ _ ⟨w.heap.size + 1, 0, none⟩ _ rfl (BxS.load (t := 34) b9 Try.underlying34 i2)) rfl ?_
          exact ⟨by rw [HS]; rfl, grown_far (grown_trans (grown_trans (grown_trans G1 hgr) gm) (grown_drewN wm nq none)) g9 (fun q e => by have e : w.heap.size + 1 = q := Option.some.inj e; omega)⟩
        cases q5
        case false =>
          have he : me = 2 := by rw [HE.out]; simp
          have HS0 := HS2'.out (by omega)
          rw [he] at HS0
          have HS' : Hid (fbM F (grE si mo wi sa, 0) n 0 = (2, k)) := HS0
          clear HE HS1' HS2' HS0 l1 l1' l2 l2' he
          go_wp2
          go_quiet (first | (go_at_call 24; (with_reducible first | exact Calls.quiet_of_same (h0 _) | exact Calls.quiet_of_same (h4 _) | exact Calls.quiet_of_same (h5 _))) | (go_at_call 25; (with_reducible first | exact Calls.quiet_of_same (h1 _) | exact Calls.quiet_of_same (h2 _))))
          have bq := bq.keep (grown_drewN wm nq none) (by simp)
          have t3 : True := trivial
          go_wp2_with (have _t := t3; refine wpList_stX _ rfl _ (.tmp 2) (.tmp 62) rfl (w.heap.size + 1) _ _ rfl rfl bq i2 rfl (by simp [Value.oneCell']) ?_; clear t3; intro w9 b9 g9)
          have HS := HS'.out
          refine bodyPost_ret (results_cell1 rfl _ _ _ ⟨w.heap.size + 1, 0, none⟩ _ rfl (BxS.load (t := 34) b9 Try.underlying34 i2)) rfl ?_
          exact ⟨by rw [HS]; rfl, grown_far (grown_trans (grown_trans (grown_trans G1 hgr) gm) (grown_drewN wm nq none)) g9 (fun q e => by have e : w.heap.size + 1 = q := Option.some.inj e; omega)⟩
        by_cases hs : (F k).th.size = 0
        · have e0 := str_empty _ hs
          have he : me = 0 := by rw [HE.out]; simp [hs]
          have HS' : Hid (fbM F (grE si mo wi sa, 0) (n - (k + 1)) (k + 1) = fbM F (grE si mo wi sa, 0) n 0) := HS1'.out he
          clear HE HS1' HS2' l1 l1' l2 l2' he
          rw [e0] at m5 k5 hwm bm
          clear h6 hs e0
          go_wp2
          go_quiet (first | (go_at_call 24; (with_reducible first | exact Calls.quiet_of_same (h0 _) | exact Calls.quiet_of_same (h4 _) | exact Calls.quiet_of_same (h5 _))) | (go_at_call 25; (with_reducible first | exact Calls.quiet_of_same (h1 _) | exact Calls.quiet_of_same (h2 _))))
          obtain ⟨m0, m1, m2, m3, m4, m5⟩ := (bm.keep (grown_drewN wm nq none) (by simp)).cell6
          go_wp2
          go_roundw
          case rel => exact ⟨k + 1, by omega, by go_num, grown_trans (grown_trans hgr gm) (grown_drewN wm nq none), HS'.out⟩
          case measure => simp [intOf]; omega
        · have hs1 : 0 < (F k).th.size := by omega
          have hl : (F k).th.toList.isEmpty = false := by
            cases h : (F k).th.toList with
            | nil => exact absurd ((toList_nil (F k).th).1 h) hs
            | cons _ _ => rfl
          have hl' : ¬ (F k).th.toList = [] := fun h => hs ((toList_nil (F k).th).1 h)
          rw [decide_eq_false hs, decide_eq_true hs1] at HE
          rw [decide_eq_true hs1] at h6
          generalize nmB (F k).th = qn at *
          cases qn
          · have he : me = 10 := by rw [HE.out]; simp
            have HS0 := HS2'.out (by omega)
            rw [he] at HS0
            have HS' : Hid (fbM F (grE si mo wi sa, 0) n 0 = (10, k)) := HS0
            clear HE HS1' HS2' HS0 l1 l1' l2 l2' he hs hs1
            go_wp2
            go_quiet (first | (go_at_call 24; (with_reducible first | exact Calls.quiet_of_same (h0 _) | exact Calls.quiet_of_same (h4 _) | exact Calls.quiet_of_same (h5 _))) | (go_at_call 25; (with_reducible first | exact Calls.quiet_of_same (h1 _) | exact Calls.quiet_of_same (h2 _))))
            have bq := bq.keep (grown_drewN wm nq none) (by simp)
            obtain ⟨m0, m1, m2, m3, m4, m5⟩ := (bm.keep (grown_drewN wm nq none) (by simp)).cell6
            go_wp2_with (first
              | (go_at_call 26; refine (h6 _).mono ?_; rintro e w3 ⟨rfl, g3⟩; have b3 := bq.keep g3 (by simp); have t3 : True := trivial)
              | (have _t := t3; refine wpList_stX _ rfl _ (.tmp 2) (.tmp 73) rfl (w.heap.size + 1) _ _ rfl rfl b3 i2 rfl (by simp [Value.oneCell']) ?_; clear t3; intro w9 b9 g9))
            have HS := HS'.out
            refine bodyPost_ret (results_cell1 rfl _ _ _ ⟨w.heap.size + 1, 0, none⟩ _ rfl (BxS.load (t := 34) b9 Try.underlying34 i2)) rfl ?_
            exact ⟨by rw [HS]; rfl, grown_far (grown_trans (grown_trans (grown_trans (grown_trans G1 hgr) gm) (grown_drewN wm nq none)) g3) g9 (fun q e => by have e : w.heap.size + 1 = q := Option.some.inj e; omega)⟩
          · have he : me = 0 := by rw [HE.out]; simp
            have HS' : Hid (fbM F (grE si mo wi sa, 0) (n - (k + 1)) (k + 1) = fbM F (grE si mo wi sa, 0) n 0) := HS1'.out he
            clear HE HS1' HS2' l1 l1' l2 l2' he hs hs1
            go_wp2
            go_quiet (first | (go_at_call 24; (with_reducible first | exact Calls.quiet_of_same (h0 _) | exact Calls.quiet_of_same (h4 _) | exact Calls.quiet_of_same (h5 _))) | (go_at_call 25; (with_reducible first | exact Calls.quiet_of_same (h1 _) | exact Calls.quiet_of_same (h2 _))))
            obtain ⟨m0, m1, m2, m3, m4, m5⟩ := (bm.keep (grown_drewN wm nq none) (by simp)).cell6
            go_wp2_with (go_at_call 26; refine (h6 _).mono ?_; rintro e w3 ⟨rfl, g3⟩)
            go_roundw
            case rel => exact ⟨k + 1, by omega, by go_num, grown_trans (grown_trans (grown_trans hgr gm) (grown_drewN wm nq none)) g3, HS'.out⟩
            case measure => simp [intOf]; omega
      · obtain rfl : k = n := by omega
        have hlt' : ¬ (k : Int) < (k : Int) := by omega
        have HS' : Hid (fbM F (grE si mo wi sa, 0) k 0 = (grE si mo wi sa, 0)) := by
          have := HK'.out
          rw [Nat.sub_self] at this
          exact this.symm
        clear HK'
        have HE : Hid (grE si mo wi sa = if (kwB si 0 100000 && kwB mo 1 100 && kwB wi 1 100000) = true then (if (decide (sa.size = 0) || (decide (0 < sa.size) && nmB sa)) = true then 0 else 10) else 2) := by
          show _ = _
          unfold grE
          rw [noB_of]
        have h0 := fun wz => inRange_any si 0 100000 wz
        have h1 := fun wz => inRange_any mo 1 100 wz
        have h2 := fun wz => inRange_any wi 1 100000 wz
        have h6 := fun wz => rname_any sa wz
        generalize kwB si 0 100000 = q0 at *
        generalize kwB mo 1 100 = q1 at *
        generalize kwB wi 1 100000 = q2 at *
        cases q0
        case false =>
          have he : grE si mo wi sa = 2 := by rw [HE.out]; simp
          have HS0 := HS'.out
          rw [he] at HS0
          have HS'' : Hid (fbM F (grE si mo wi sa, 0) k 0 = (2, 0)) := by rw [he]; exact HS0
          clear HE HS' HS0 he
          go_wp2_with (first | (go_at_call 24; (with_reducible first | refine (h0 _).mono ?_ | refine (h1 _).mono ?_ | refine (h2 _).mono ?_); rintro e w3 ⟨rfl, hw⟩; have hw := hw.symm; subst hw) | (have _t := t2; refine wpList_stX _ rfl _ (.tmp 2) (.tmp 90) rfl (w.heap.size + 1) _ _ rfl rfl br i2 rfl (by simp [Value.oneCell']) ?_; clear t2; intro w9 b9 g9))
          have HS := HS''.out
          refine bodyPost_ret (results_cell1 rfl _ _ _ ⟨w.heap.size + 1, 0, none⟩ _ rfl (BxS.load (t := 34) b9 Try.underlying34 i2)) rfl ?_
          exact ⟨by rw [HS]; rfl, grown_far (grown_trans G1 hgr) g9 (fun q e => by have e : w.heap.size + 1 = q := Option.some.inj e; omega)⟩
        cases q1
        case false =>
          have he : grE si mo wi sa = 2 := by rw [HE.out]; simp
          have HS0 := HS'.out
          rw [he] at HS0
          have HS'' : Hid (fbM F (grE si mo wi sa, 0) k 0 = (2, 0)) := by rw [he]; exact HS0
          clear HE HS' HS0 he
          go_wp2_with (first | (go_at_call 24; (with_reducible first | refine (h0 _).mono ?_ | refine (h1 _).mono ?_ | refine (h2 _).mono ?_); rintro e w3 ⟨rfl, hw⟩; have hw := hw.symm; subst hw) | (have _t := t2; refine wpList_stX _ rfl _ (.tmp 2) (.tmp 90) rfl (w.heap.size + 1) _ _ rfl rfl br i2 rfl (by simp [Value.oneCell']) ?_; clear t2; intro w9 b9 g9))
          have HS := HS''.out
          refine bodyPost_ret (results_cell1 rfl _ _ _ ⟨w.heap.size + 1, 0, none⟩ _ rfl (BxS.load (t := 34) b9 Try.underlying34 i2)) rfl ?_
          exact ⟨by rw [HS]; rfl, grown_far (grown_trans G1 hgr) g9 (fun q e => by have e : w.heap.size + 1 = q := Option.some.inj e; omega)⟩
        cases q2
        case false =>
          have he : grE si mo wi sa = 2 := by rw [HE.out]; simp
          have HS0 := HS'.out
          rw [he] at HS0
          have HS'' : Hid (fbM F (grE si mo wi sa, 0) k 0 = (2, 0)) := by rw [he]; exact HS0
          clear HE HS' HS0 he
          go_wp2_with (first | (go_at_call 24; (with_reducible first | refine (h0 _).mono ?_ | refine (h1 _).mono ?_ | refine (h2 _).mono ?_); rintro e w3 ⟨rfl, hw⟩; have hw := hw.symm; subst hw) | (have _t := t2; refine wpList_stX _ rfl _ (.tmp 2) (.tmp 90) rfl (w.heap.size + 1) _ _ rfl rfl br i2 rfl (by simp [Value.oneCell']) ?_; clear t2; intro w9 b9 g9))
          have HS := HS''.out
          refine bodyPost_ret (results_cell1 rfl _ _ _ ⟨w.heap.size + 1, 0, none⟩ _ rfl (BxS.load (t := 34) b9 Try.underlying34 i2)) rfl ?_
          exact ⟨by rw [HS]; rfl, grown_far (grown_trans G1 hgr) g9 (fun q e => by have e : w.heap.size + 1 = q := Option.some.inj e; omega)⟩
        by_cases hs : sa.size = 0
        · have e0 := str_empty _ hs
          subst e0
          have he : grE si mo wi ByteArray.empty = 0 := by rw [HE.out]; simp [hs]
          have HS0 := HS'.out
          rw [he] at HS0
          have HS'' : Hid (fbM F (grE si mo wi ByteArray.empty, 0) k 0 = (0, 0)) := by rw [he]; exact HS0
          clear HE HS' HS0 he
          go_wp2_with (first | (go_at_call 24; (with_reducible first | refine (h0 _).mono ?_ | refine (h1 _).mono ?_ | refine (h2 _).mono ?_); rintro e w3 ⟨rfl, hw⟩; have hw := hw.symm; subst hw) | (have _t := t2; refine wpList_stX _ rfl _ (.tmp 2) (.tmp 101) rfl (w.heap.size + 1) _ _ rfl rfl br i2 rfl (by simp [Value.oneCell']) ?_; clear t2; intro w9 b9 g9))
          have HS := HS''.out
          refine bodyPost_ret (results_cell1 rfl _ _ _ ⟨w.heap.size + 1, 0, none⟩ _ rfl (BxS.load (t := 34) b9 Try.underlying34 i2)) rfl ?_
          exact ⟨by rw [HS]; rfl, grown_far (grown_trans G1 hgr) g9 (fun q e => by have e : w.heap.size + 1 = q := Option.some.inj e; omega)⟩
        · have hs1 : 0 < sa.size := by omega
          have hl : sa.toList.isEmpty = false := by
            cases h : sa.toList with
            | nil => exact absurd ((toList_nil sa).1 h) hs
            | cons _ _ => rfl
          have hl' : ¬ sa.toList = [] := fun h => hs ((toList_nil sa).1 h)
          rw [decide_eq_false hs, decide_eq_true hs1] at HE
          rw [decide_eq_true hs1] at h6
          generalize nmB sa = qn at *
          cases qn
          · have he : grE si mo wi sa = 10 := by rw [HE.out]; simp
            have HS0 := HS'.out
            rw [he] at HS0
            have HS'' : Hid (fbM F (grE si mo wi sa, 0) k 0 = (10, 0)) := by rw [he]; exact HS0
            clear HE HS' HS0 he
            go_wp2_with (first | (go_at_call 24; (with_reducible first | refine (h0 _).mono ?_ | refine (h1 _).mono ?_ | refine (h2 _).mono ?_); rintro e w3 ⟨rfl, hw⟩; have hw := hw.symm; subst hw) | (go_at_call 26; refine (h6 _).mono ?_; rintro e w3 ⟨rfl, g3⟩; have b3 := br.keep g3 (by simp); have t3 : True := trivial) | (have _t := t3; refine wpList_stX _ rfl _ (.tmp 2) (.tmp 100) rfl (w.heap.size + 1) _ _ rfl rfl b3 i2 rfl (by simp [Value.oneCell']) ?_; clear t3; intro w9 b9 g9))
            have HS := HS''.out
            refine bodyPost_ret (results_cell1 rfl _ _ _ ⟨w.heap.size + 1, 0, none⟩ _ rfl (BxS.load (t := 34) b9 Try.underlying34 i2)) rfl ?_
            exact ⟨by rw [HS]; rfl, grown_far (grown_trans (grown_trans G1 hgr) g3) g9 (fun q e => by have e : w.heap.size + 1 = q := Option.some.inj e; omega)⟩
          · have he : grE si mo wi sa = 0 := by rw [HE.out]; simp
            have HS0 := HS'.out
            rw [he] at HS0
            have HS'' : Hid (fbM F (grE si mo wi sa, 0) k 0 = (0, 0)) := by rw [he]; exact HS0
            clear HE HS' HS0 he
            go_wp2_with (first | (go_at_call 24; (with_reducible first | refine (h0 _).mono ?_ | refine (h1 _).mono ?_ | refine (h2 _).mono ?_); rintro e w3 ⟨rfl, hw⟩; have hw := hw.symm; subst hw) | (go_at_call 26; refine (h6 _).mono ?_; rintro e w3 ⟨rfl, g3⟩; have b3 := br.keep g3 (by simp); have t3 : True := trivial) | (have _t := t3; refine wpList_stX _ rfl _ (.tmp 2) (.tmp 101) rfl (w.heap.size + 1) _ _ rfl rfl b3 i2 rfl (by simp [Value.oneCell']) ?_; clear t3; intro w9 b9 g9))
            have HS := HS''.out
            refine bodyPost_ret (results_cell1 rfl _ _ _ ⟨w.heap.size + 1, 0, none⟩ _ rfl (BxS.load (t := 34) b9 Try.underlying34 i2)) rfl ?_
            exact ⟨by rw [HS]; rfl, grown_far (grown_trans (grown_trans G1 hgr) g3) g9 (fun q e => by have e : w.heap.size + 1 = q := Option.some.inj e; omega)⟩
end Go.Proofs.Ytnpkmjdlohdieaa
