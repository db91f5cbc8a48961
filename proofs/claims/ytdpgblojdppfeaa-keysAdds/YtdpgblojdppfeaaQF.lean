import Derived.Test.YtdpgblojdppfeaaQE
namespace Go.Proofs.Ytdpgblojdppfeaa
open Go.RowKit
set_option maxRecDepth 100000
set_option linter.unusedVariables false
set_option linter.unusedSimpArgs false
/-- where the first key of an ID lies -/
def fiN : List Kd → Int → Nat
  | [], _ => 0
  | x :: R, z => if x.id = z then 0 else fiN R z + 1
theorem hasI_cons (x : Kd) (R : List Kd) (j : Nat) (z : Int) : hasI (x :: R) (j + 1) z = (decide (x.id = z) || hasI R j z) := by
  unfold hasI
  rw [List.take_succ_cons, List.any_cons]
theorem fiN_at (R : List Kd) (j : Nat) (x : Kd) (z : Int) (h : R[j]? = some x) (hz : x.id = z) (hn : hasI R j z = false) : fiN R z = j := by
  induction R generalizing j with
  | nil => cases h
  | cons y R ih =>
    cases j with
    | zero =>
      have h : some y = some x := h
      have h := Option.some.inj h
      subst h
      exact if_pos hz
    | succ j =>
      rw [hasI_cons, Bool.or_eq_false_iff] at hn
      show (if y.id = z then 0 else fiN R z + 1) = j + 1
      rw [if_neg (of_decide_eq_false hn.1), ih j h hn.2]
theorem fiN_no (R : List Kd) (z : Int) (hn : hasI R R.length z = false) : fiN R z = R.length := by
  induction R with
  | nil => rfl
  | cons y R ih =>
    rw [List.length_cons, hasI_cons, Bool.or_eq_false_iff] at hn
    show (if y.id = z then 0 else fiN R z + 1) = R.length + 1
    rw [if_neg (of_decide_eq_false hn.1), ih hn.2]
def fiX (R : List Kd) (z : Int) : Int := if fiN R z < R.length then (fiN R z : Int) else -1
set_option maxHeartbeats 4000000 in
theorem find1_any (g : Nat) (z : Int) (kk : Kw) (w : World) (b : BxS w g 3 #[.int .i64 z]) :
    Calls Try.prog 33 #[.agg #[.int .i64 kk.id, .slice kk.a kk.n kk.c, .int .i64 kk.tp, .int .i64 kk.sn], .pointer (some ⟨g, 0, none⟩)] w fun e w' => e = .returned (.bool (kk.id == z)) ∧ w.grownBy w' none := by
  have b0 := BxS.new w 27 #[.int .i64 kk.id, .slice kk.a kk.n kk.c, .int .i64 kk.tp, .int .i64 kk.sn]
  have g0 := World.grownBy_alloc w (.cells #[.int .i64 kk.id, .slice kk.a kk.n kk.c, .int .i64 kk.tp, .int .i64 kk.sn] 27) none
  generalize hw0 : w.alloc (.cells #[.int .i64 kk.id, .slice kk.a kk.n kk.c, .int .i64 kk.tp, .int .i64 kk.sn] 27) = w0 at b0 g0
  have x0 : w0.cell? ⟨g, 0, none⟩ = some (.int .i64 z) := (b.keep g0 (by simp)).cell 0 (by show 0 < 1; decide)
  obtain ⟨t0, t1, t2, t3⟩ := BxS.cell4 b0
  go_enter Try.func33, Try.ntmps33
  go_wp2
  go_ret
  exact ⟨rfl, g0⟩
set_option maxHeartbeats 16000000 in
theorem index_any (g : Nat) (z : Int) (a : Option Addr) (n c : Nat) (R : List Kd) (w : World) (h : RdG w a n c R) (b : BxS w g 3 #[.int .i64 z]) :
    Calls Try.prog 32 #[.slice a n c, .func (.func 33) #[] #[.pointer (some ⟨g, 0, none⟩)]] w fun e w' => e = .returned (.int .i64 (fiX R z)) ∧ w.grownBy w' none := by
  obtain ⟨ks, h1, h2⟩ := h.ex
  have hl1 := h1.len
  have hlR := h.len
  have hmm : maxLen ≤ 9223372036854775807 := by decide
  have hle := h1.le
  have hmx := h1.max
  clear h
  go_enter Try.func32, Try.ntmps32
  go_wp2
  go_loopw [8] (fun iv wr => ∃ (k : Nat), iv = .int .i64 k ∧ k ≤ n ∧ hasI R k z = false ∧ w.grownBy wr none) (fun iv _ => n - (intOf iv).toNat)
  case atStart => exact ⟨0, by go_num, Nat.zero_le _, by simp [hasI], World.grownBy.refl _ _⟩
  case round =>
    obtain ⟨k, rfl, hk, hno, yr⟩ := hrel
    by_cases hlt : k < n
    · have hlt' : (k : Int) < (n : Int) := by omega
      obtain ⟨kk, hi, hd1⟩ := map_d_at h2 k (by omega)
      obtain ⟨ba, oa, ea, _⟩ := h1.at' (by omega)
      subst ea
      have HA := h1.keep yr
      obtain ⟨q0, q1, q2, q3⟩ := HA.four hi
      have hwk : IntKind.i64.wrap ((k : Int) + 1) = (k : Int) + 1 := wrap_i64_in _ (by omega) (by omega)
      have kF := find1_any g z kk wr (b.keep yr (by simp))
      by_cases hid : kk.id = z
      · have hid' : (kk.id == z) = true := by rw [hid]; simp
        have HF : Hid (fiX R z = (k : Int)) := by show _ = _; unfold fiX; rw [fiN_at R k kk.d z hd1 hid hno, if_pos (by omega)]
        rw [hid'] at kF
        clear hid hid' hd1
        go_wp2_with (go_at_call 33; refine kF.mono ?_; rintro e w7 ⟨rfl, y7⟩)
        go_ret
        exact ⟨by rw [HF.out]; rfl, grown_trans yr y7⟩
      · have hid' : (kk.id == z) = false := beq_false_of_ne hid
        have hh : hasI R (k + 1) z = false := by rw [hasI_step R k kk.d hd1, hno]; show (_ || decide (kk.id = z)) = false; rw [decide_eq_false hid]; rfl
        rw [hid'] at kF
        clear hd1
        go_wp2_with (go_at_call 33; refine kF.mono ?_; rintro e w7 ⟨rfl, y7⟩)
        refine ⟨⟨k + 1, by go_num, by omega, hh, grown_trans yr y7⟩, by simp [intOf]; omega⟩
    · have hlt' : ¬ (k : Int) < (n : Int) := by omega
      obtain rfl : k = n := by omega
      have HF : Hid (fiX R z = -1) := by show _ = _; unfold fiX; rw [fiN_no R z (by rw [hlR]; exact hno), if_neg (by omega)]
      go_wp2
      go_ret
      exact ⟨by rw [HF.out]; rfl, yr⟩
set_option maxHeartbeats 4000000 in
theorem find_any (a : Option Addr) (n c : Nat) (R : List Kd) (z : Int) (w : World) (h : RdG w a n c R) :
    Calls Try.prog 22 #[.agg #[.slice a n c], .int .i64 z] w fun e w' => e = .returned (.int .i64 (fiX R z)) ∧ w.grownBy w' none := by
  have b0 := BxS.new w 24 #[.slice a n c]
  have g0 := World.grownBy_alloc w (.cells #[.slice a n c] 24) none
  generalize hw0 : w.alloc (.cells #[.slice a n c] 24) = w0 at b0 g0
  have hz0 : w0.heap.size = w.heap.size + 1 := by rw [← hw0]; simp
  have b1 := BxS.new w0 3 #[.int .i64 z]
  have g1 := World.grownBy_alloc w0 (.cells #[.int .i64 z] 3) none
  generalize hw1 : w0.alloc (.cells #[.int .i64 z] 3) = w1 at b1 g1
  rw [hz0] at b1
  have G1 := grown_trans g0 g1
  have x0 : w1.cell? ⟨w.heap.size, 0, none⟩ = some (.slice a n c) := (b0.keep g1 (by simp)).cell 0 (by show 0 < 1; decide)
  have kI := index_any (w.heap.size + 1) z a n c R w1 (h.keep G1) b1
  go_enter Try.func22, Try.ntmps22
  go_wp2_with (go_at_call 32; refine kI.mono ?_; rintro e w7 ⟨rfl, y7⟩)
  go_ret
  exact ⟨rfl, grown_trans G1 y7⟩
end Go.Proofs.Ytdpgblojdppfeaa
