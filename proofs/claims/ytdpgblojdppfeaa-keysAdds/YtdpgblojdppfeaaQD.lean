import Derived.Test.YtdpgblojdppfeaaQC
namespace Go.Proofs.Ytdpgblojdppfeaa
open Go.RowKit
set_option maxRecDepth 100000
set_option linter.unusedVariables false
set_option linter.unusedSimpArgs false
theorem hasI_mono (R : List Kd) {j k : Nat} (hj : j ≤ k) {z : Int} (h : hasI R j z = true) : hasI R k z = true := by
  unfold hasI at h ⊢
  obtain ⟨x, hx, hz⟩ := List.any_eq_true.1 h
  refine List.any_eq_true.2 ⟨x, ?_, hz⟩
  rw [List.mem_take_iff_getElem] at hx ⊢
  obtain ⟨i, hi, e⟩ := hx
  exact ⟨i, by omega, e⟩
set_option maxHeartbeats 32000000 in
theorem rringMay_any (a : Option Addr) (n c : Nat) (R : List Kd) (w : World) (h : RdG w a n c R) :
    Calls Try.prog 17 #[.agg #[.slice a n c]] w fun e w' => e = .returned (.bool (rmB R)) ∧ w.grownBy w' none := by
  obtain ⟨ks, h1, h2⟩ := h.ex
  have hl1 := h1.len
  have hlR := h.len
  have b0 := BxS.new w 24 #[.slice a n c]
  have g0 := World.grownBy_alloc w (.cells #[.slice a n c] 24) none
  generalize hw0 : w.alloc (.cells #[.slice a n c] 24) = w0 at b0 g0
  have x0 : w0.cell? ⟨w.heap.size, 0, none⟩ = some (.slice a n c) := b0.cell 0 (by show 0 < 1; decide)
  by_cases h8 : n ≤ 8
  · have h8' : ¬ (8 : Int) < (n : Int) := by omega
    have HRB : Hid (rmB R = rmA R n) := by show _ = _; unfold rmB; rw [hlR, decide_eq_true h8]; rfl
    have hle := h1.le
    have hmx := h1.max
    clear h
    go_enter Try.func17, Try.ntmps17
    go_wp2
    clear x0
    go_loopw [3] (fun iv wr => ∃ (k : Nat), iv = .int .i64 k ∧ k ≤ n ∧ rmA R k = true ∧ w0.grownBy wr none) (fun iv _ => n - (intOf iv).toNat)
    case atStart => exact ⟨0, by go_num, Nat.zero_le _, rfl, World.grownBy.refl _ _⟩
    case round =>
      obtain ⟨k, rfl, hk, hok, yr⟩ := hrel
      have x0 : wr.cell? ⟨w.heap.size, 0, none⟩ = some (.slice a n c) := (b0.keep yr (by simp)).cell 0 (by show 0 < 1; decide)
      by_cases hlt : k < n
      · have hlt' : (k : Int) < (n : Int) := by omega
        obtain ⟨kk, hi, hd1⟩ := map_d_at h2 k (by omega)
        have hm1 : kk ∈ ks := List.mem_of_getElem? hi
        have H0 := (h1.keep g0).keep yr
        obtain ⟨ba, oa, ea, _⟩ := H0.at' (by omega)
        subst ea
        obtain ⟨q0, q1, q2, q3⟩ := H0.four hi
        have hW := H0.ws kk hm1
        have hbd := H0.bd kk hm1
        have hwk : IntKind.i64.wrap ((k : Int) + 1) = (k : Int) + 1 := wrap_i64_in _ (by omega) (by omega)
        have eg : R.getD k kd0 = kk.d := by rw [List.getD_eq_getElem?_getD, hd1]; rfl
        have HS : Hid (rmA R (k + 1) = (kdB kk.d && !hasI R k kk.id)) := by show (rmA R k && (kdB (R.getD k kd0) && !hasI R k (R.getD k kd0).id)) = _; rw [hok, eg]; rfl
        have kM := fun wz hz => rkeyMay_any kk.id kk.a kk.n kk.c kk.tp kk.sn kk.W wz hz hbd.2.1 hbd.2.2
        have ekb : kmB kk.id kk.n kk.W kk.tp kk.sn = kdB kk.d := by unfold kdB; rw [← hW.len]; rfl
        rw [ekb] at kM
        clear eg ekb hd1
        cases hkb : kdB kk.d with
        | false =>
          rw [hkb] at kM
          go_wp2_with (go_at_call 18; refine (kM _ hW).mono ?_; rintro e w7 ⟨rfl, y7⟩)
          go_ret
          exact ⟨by rw [HRB.out, rmA_false R (k := k + 1) (by rw [HS.out, hkb]; rfl) n (by omega)]; rfl, grown_trans g0 (grown_trans yr y7)⟩
        | true =>
          rw [hkb] at kM
          go_wp2_with (go_at_call 18; refine (kM _ hW).mono ?_; rintro e w7 ⟨rfl, y7⟩)
          clear x0 q0 q1 q2 q3
          go_loopw [4] (fun jv wx => ∃ (j : Nat), jv = .int .i64 j ∧ j ≤ k ∧ hasI R j kk.id = false ∧ w7.grownBy wx none) (fun jv _ => k - (intOf jv).toNat)
          case atStart => exact ⟨0, by go_num, Nat.zero_le _, by simp [hasI], World.grownBy.refl _ _⟩
          case round =>
            obtain ⟨j, rfl, hj, hno, yx⟩ := hrel
            by_cases hjk : j < k
            · have hjk' : (j : Int) < (k : Int) := by omega
              have hjn' : (j : Int) < (n : Int) := by omega
              obtain ⟨ll, hlj, hdl⟩ := map_d_at h2 j (by omega)
              have HX := (H0.keep y7).keep yx
              obtain ⟨q0, q1, q2, q3⟩ := HX.four hi
              obtain ⟨r0, r1, r2, r3⟩ := HX.four hlj
              have x0 := (((b0.keep yr (by simp)).keep y7 (by simp)).keep yx (by simp)).cell 0 (by show 0 < 1; decide)
              have x0 : _ = some (Value.slice (some ⟨ba, oa, none⟩) n c) := x0
              have hwj : IntKind.i64.wrap ((j : Int) + 1) = (j : Int) + 1 := wrap_i64_in _ (by omega) (by omega)
              by_cases hid : kk.id = ll.id
              · have hid' : (kk.id == ll.id) = true := by rw [hid]; simp
                have hh : hasI R k kk.id = true := hasI_mono R (j := j + 1) (by omega) (by rw [hasI_step R j ll.d hdl]; show (_ || decide (ll.id = kk.id)) = true; rw [decide_eq_true hid.symm, Bool.or_true])
                clear hid
                go_wp2
                go_quiet (fail)
                go_wp2
                go_ret
                exact ⟨by rw [HRB.out, rmA_false R (k := k + 1) (by rw [HS.out, hh, hkb]; rfl) n (by omega)]; rfl, grown_trans g0 (grown_trans yr (grown_trans y7 (grown_trans yx (grown_drewN _ _ _))))⟩
              · have hid' : (kk.id == ll.id) = false := beq_false_of_ne hid
                have hh : hasI R (j + 1) kk.id = false := by rw [hasI_step R j ll.d hdl, hno]; show (_ || decide (ll.id = kk.id)) = false; rw [decide_eq_false (fun e => hid e.symm)]; rfl
                go_wp2
                go_quiet (fail)
                go_wp2
                go_roundw
                case rel => exact ⟨j + 1, by go_num, by omega, hh, grown_trans yx (grown_drewN _ _ _)⟩
                case measure => simp [intOf]; omega
            · have hjk' : ¬ (j : Int) < (k : Int) := by omega
              obtain rfl : j = k := by omega
              go_wp2
              go_roundw
              case rel => exact ⟨j + 1, by go_num, by omega, by rw [HS.out, hkb, hno]; rfl, grown_trans yr (grown_trans y7 yx)⟩
              case measure => simp [intOf]; omega
      · have hlt' : ¬ (k : Int) < (n : Int) := by omega
        obtain rfl : k = n := by omega
        go_wp2
        go_ret
        exact ⟨by rw [HRB.out, hok]; rfl, grown_trans g0 yr⟩
  · have h8' : (8 : Int) < (n : Int) := by omega
    have HRB : Hid (rmB R = false) := by show _ = _; unfold rmB; rw [hlR, decide_eq_false h8]; rfl
    go_enter Try.func17, Try.ntmps17
    go_wp2
    go_ret
    exact ⟨by rw [HRB.out]; rfl, g0⟩
end Go.Proofs.Ytdpgblojdppfeaa
