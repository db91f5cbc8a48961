import Derived.Test.YtnpkmjdlohdieaaUNm
namespace Go.Proofs.Ytnpkmjdlohdieaa
open Go.RowKit
set_option maxRecDepth 100000
set_option linter.unusedVariables false
set_option linter.unusedSimpArgs false

/-- a monitor -/
structure Mo where
  of' : Int
  lo : Int
  hi : Int
  fr : Int
  ti : Int
  th : ByteArray
def Mo.cells (m : Mo) : List Value := [.int .i64 m.of', .int .i64 m.lo, .int .i64 m.hi, .int .i64 m.fr, .int .i64 m.ti, .string m.th]
def mo0 : Mo := ⟨0, 0, 0, 0, 0, ByteArray.empty⟩
def mth (Ms : List Mo) (i : Nat) : Mo := Ms.getD i mo0
/-- may there be such a monitor; why there may be none -/
def moB (m : Mo) : Bool := kwB m.of' 0 63 && kwB m.lo (-2147483648) 2147483647 && kwB m.hi m.lo 2147483647 && kwB m.fr 1 1000 && kwB m.ti 1 3
def moE (m : Mo) : Nat := if moB m = true then (if noB m.th = true then 0 else 10) else 2
/-- .. a guard's rest -/
def grE (si mo wi : Int) (sa : ByteArray) : Nat := if (kwB si 0 100000 && kwB mo 1 100 && kwB wi 1 100000) = true then (if noB sa = true then 0 else 10) else 2
theorem ret_nat (n m : Nat) (h : n = m) : Ending.returned (.int .i64 (n : Int)) = Ending.returned (.int .i64 (m : Int)) := by rw [h]
theorem BxS.cell6 {w : World} {g : Nat} {t : TypeId} {a0 a1 a2 a3 a4 a5 : Value} (k : BxS w g t #[a0, a1, a2, a3, a4, a5]) : w.cell? ⟨g, 0, none⟩ = some a0 ∧ w.cell? ⟨g, 1, none⟩ = some a1 ∧ w.cell? ⟨g, 2, none⟩ = some a2 ∧ w.cell? ⟨g, 3, none⟩ = some a3 ∧ w.cell? ⟨g, 4, none⟩ = some a4 ∧ w.cell? ⟨g, 5, none⟩ = some a5 := by
  simp [World.cell?, show w.heap[g]? = _ from k]
theorem BxS.cell5 {w : World} {g : Nat} {t : TypeId} {a0 a1 a2 a3 a4 : Value} (k : BxS w g t #[a0, a1, a2, a3, a4]) : w.cell? ⟨g, 0, none⟩ = some a0 ∧ w.cell? ⟨g, 1, none⟩ = some a1 ∧ w.cell? ⟨g, 2, none⟩ = some a2 ∧ w.cell? ⟨g, 3, none⟩ = some a3 ∧ w.cell? ⟨g, 4, none⟩ = some a4 := by
  simp [World.cell?, show w.heap[g]? = _ from k]
set_option maxHeartbeats 8000000 in
theorem wrongMonitor_any (a b c d f : Int) (s : ByteArray) (w : World) : Calls Try.prog 22 #[.agg #[.int .i64 a, .int .i64 b, .int .i64 c, .int .i64 d, .int .i64 f, .string s]] w fun e w' => e = .returned (.int .i64 (moE ⟨a, b, c, d, f, s⟩ : Nat)) ∧ w.grownBy w' none := by
  have h0 := fun wz => gwithin_any a 0 63 wz
  have h1 := fun wz => gwithin_any b (-2147483648) 2147483647 wz
  have h2 := fun wz => gwithin_any c b 2147483647 wz
  have h3 := fun wz => gwithin_any d 1 1000 wz
  have h4 := fun wz => gwithin_any f 1 3 wz
  have h5 := fun wz => nameOr_any s wz
  have b0 := BxS.new w 51 #[.int .i64 a, .int .i64 b, .int .i64 c, .int .i64 d, .int .i64 f, .string s]
  have g0 := World.grownBy_alloc w (.cells #[.int .i64 a, .int .i64 b, .int .i64 c, .int .i64 d, .int .i64 f, .string s] 51) none
  generalize hw0 : w.alloc (.cells #[.int .i64 a, .int .i64 b, .int .i64 c, .int .i64 d, .int .i64 f, .string s] 51) = w0 at b0 g0
  obtain ⟨c0, c1, c2, c3, c4, c5⟩ := b0.cell6
  have t0 : True := trivial
  unfold moE moB
  dsimp only
  generalize kwB a 0 63 = q0 at h0 ⊢
  generalize kwB b (-2147483648) 2147483647 = q1 at h1 ⊢
  generalize kwB c b 2147483647 = q2 at h2 ⊢
  generalize kwB d 1 1000 = q3 at h3 ⊢
  generalize kwB f 1 3 = q4 at h4 ⊢
  generalize noB s = q5 at h5 ⊢
  clear b0
  cases q0
  case false =>
    go_enter Try.func22, Try.ntmps22
    go_wp2_with (first
        | (go_at_call 35; have _t := t0; clear t0; refine (h0 _).mono ?_; rintro e w1 ⟨rfl, hw⟩; have hw := hw.symm; subst hw; have t1 : True := trivial)
        | (go_at_call 35; have _t := t1; clear t1; refine (h1 _).mono ?_; rintro e w1 ⟨rfl, hw⟩; have hw := hw.symm; subst hw; have t2 : True := trivial)
        | (go_at_call 35; have _t := t2; clear t2; refine (h2 _).mono ?_; rintro e w1 ⟨rfl, hw⟩; have hw := hw.symm; subst hw; have t3 : True := trivial)
        | (go_at_call 35; have _t := t3; clear t3; refine (h3 _).mono ?_; rintro e w1 ⟨rfl, hw⟩; have hw := hw.symm; subst hw; have t4 : True := trivial)
        | (go_at_call 35; have _t := t4; clear t4; refine (h4 _).mono ?_; rintro e w1 ⟨rfl, hw⟩; have hw := hw.symm; subst hw; have t5 : True := trivial)
        | (go_at_call 36; refine (h5 _).mono ?_; rintro e w1 ⟨rfl, g1⟩))
    go_ret
    exact ⟨rfl, g0⟩
  cases q1
  case false =>
    go_enter Try.func22, Try.ntmps22
    go_wp2_with (first
        | (go_at_call 35; have _t := t0; clear t0; refine (h0 _).mono ?_; rintro e w1 ⟨rfl, hw⟩; have hw := hw.symm; subst hw; have t1 : True := trivial)
        | (go_at_call 35; have _t := t1; clear t1; refine (h1 _).mono ?_; rintro e w1 ⟨rfl, hw⟩; have hw := hw.symm; subst hw; have t2 : True := trivial)
        | (go_at_call 35; have _t := t2; clear t2; refine (h2 _).mono ?_; rintro e w1 ⟨rfl, hw⟩; have hw := hw.symm; subst hw; have t3 : True := trivial)
        | (go_at_call 35; have _t := t3; clear t3; refine (h3 _).mono ?_; rintro e w1 ⟨rfl, hw⟩; have hw := hw.symm; subst hw; have t4 : True := trivial)
        | (go_at_call 35; have _t := t4; clear t4; refine (h4 _).mono ?_; rintro e w1 ⟨rfl, hw⟩; have hw := hw.symm; subst hw; have t5 : True := trivial)
        | (go_at_call 36; refine (h5 _).mono ?_; rintro e w1 ⟨rfl, g1⟩))
    go_ret
    exact ⟨rfl, g0⟩
  cases q2
  case false =>
    go_enter Try.func22, Try.ntmps22
    go_wp2_with (first
        | (go_at_call 35; have _t := t0; clear t0; refine (h0 _).mono ?_; rintro e w1 ⟨rfl, hw⟩; have hw := hw.symm; subst hw; have t1 : True := trivial)
        | (go_at_call 35; have _t := t1; clear t1; refine (h1 _).mono ?_; rintro e w1 ⟨rfl, hw⟩; have hw := hw.symm; subst hw; have t2 : True := trivial)
        | (go_at_call 35; have _t := t2; clear t2; refine (h2 _).mono ?_; rintro e w1 ⟨rfl, hw⟩; have hw := hw.symm; subst hw; have t3 : True := trivial)
        | (go_at_call 35; have _t := t3; clear t3; refine (h3 _).mono ?_; rintro e w1 ⟨rfl, hw⟩; have hw := hw.symm; subst hw; have t4 : True := trivial)
        | (go_at_call 35; have _t := t4; clear t4; refine (h4 _).mono ?_; rintro e w1 ⟨rfl, hw⟩; have hw := hw.symm; subst hw; have t5 : True := trivial)
        | (go_at_call 36; refine (h5 _).mono ?_; rintro e w1 ⟨rfl, g1⟩))
    go_ret
    exact ⟨rfl, g0⟩
  cases q3
  case false =>
    go_enter Try.func22, Try.ntmps22
    go_wp2_with (first
        | (go_at_call 35; have _t := t0; clear t0; refine (h0 _).mono ?_; rintro e w1 ⟨rfl, hw⟩; have hw := hw.symm; subst hw; have t1 : True := trivial)
        | (go_at_call 35; have _t := t1; clear t1; refine (h1 _).mono ?_; rintro e w1 ⟨rfl, hw⟩; have hw := hw.symm; subst hw; have t2 : True := trivial)
        | (go_at_call 35; have _t := t2; clear t2; refine (h2 _).mono ?_; rintro e w1 ⟨rfl, hw⟩; have hw := hw.symm; subst hw; have t3 : True := trivial)
        | (go_at_call 35; have _t := t3; clear t3; refine (h3 _).mono ?_; rintro e w1 ⟨rfl, hw⟩; have hw := hw.symm; subst hw; have t4 : True := trivial)
        | (go_at_call 35; have _t := t4; clear t4; refine (h4 _).mono ?_; rintro e w1 ⟨rfl, hw⟩; have hw := hw.symm; subst hw; have t5 : True := trivial)
        | (go_at_call 36; refine (h5 _).mono ?_; rintro e w1 ⟨rfl, g1⟩))
    go_ret
    exact ⟨rfl, g0⟩
  cases q4
  case false =>
    go_enter Try.func22, Try.ntmps22
    go_wp2_with (first
        | (go_at_call 35; have _t := t0; clear t0; refine (h0 _).mono ?_; rintro e w1 ⟨rfl, hw⟩; have hw := hw.symm; subst hw; have t1 : True := trivial)
        | (go_at_call 35; have _t := t1; clear t1; refine (h1 _).mono ?_; rintro e w1 ⟨rfl, hw⟩; have hw := hw.symm; subst hw; have t2 : True := trivial)
        | (go_at_call 35; have _t := t2; clear t2; refine (h2 _).mono ?_; rintro e w1 ⟨rfl, hw⟩; have hw := hw.symm; subst hw; have t3 : True := trivial)
        | (go_at_call 35; have _t := t3; clear t3; refine (h3 _).mono ?_; rintro e w1 ⟨rfl, hw⟩; have hw := hw.symm; subst hw; have t4 : True := trivial)
        | (go_at_call 35; have _t := t4; clear t4; refine (h4 _).mono ?_; rintro e w1 ⟨rfl, hw⟩; have hw := hw.symm; subst hw; have t5 : True := trivial)
        | (go_at_call 36; refine (h5 _).mono ?_; rintro e w1 ⟨rfl, g1⟩))
    go_ret
    exact ⟨rfl, g0⟩
  cases q5
  case false =>
    go_enter Try.func22, Try.ntmps22
    go_wp2_with (first
        | (go_at_call 35; have _t := t0; clear t0; refine (h0 _).mono ?_; rintro e w1 ⟨rfl, hw⟩; have hw := hw.symm; subst hw; have t1 : True := trivial)
        | (go_at_call 35; have _t := t1; clear t1; refine (h1 _).mono ?_; rintro e w1 ⟨rfl, hw⟩; have hw := hw.symm; subst hw; have t2 : True := trivial)
        | (go_at_call 35; have _t := t2; clear t2; refine (h2 _).mono ?_; rintro e w1 ⟨rfl, hw⟩; have hw := hw.symm; subst hw; have t3 : True := trivial)
        | (go_at_call 35; have _t := t3; clear t3; refine (h3 _).mono ?_; rintro e w1 ⟨rfl, hw⟩; have hw := hw.symm; subst hw; have t4 : True := trivial)
        | (go_at_call 35; have _t := t4; clear t4; refine (h4 _).mono ?_; rintro e w1 ⟨rfl, hw⟩; have hw := hw.symm; subst hw; have t5 : True := trivial)
        | (go_at_call 36; refine (h5 _).mono ?_; rintro e w1 ⟨rfl, g1⟩))
    go_ret
    exact ⟨rfl, grown_trans g0 g1⟩
  go_enter Try.func22, Try.ntmps22
  go_wp2_with (first
      | (go_at_call 35; have _t := t0; clear t0; refine (h0 _).mono ?_; rintro e w1 ⟨rfl, hw⟩; have hw := hw.symm; subst hw; have t1 : True := trivial)
      | (go_at_call 35; have _t := t1; clear t1; refine (h1 _).mono ?_; rintro e w1 ⟨rfl, hw⟩; have hw := hw.symm; subst hw; have t2 : True := trivial)
      | (go_at_call 35; have _t := t2; clear t2; refine (h2 _).mono ?_; rintro e w1 ⟨rfl, hw⟩; have hw := hw.symm; subst hw; have t3 : True := trivial)
      | (go_at_call 35; have _t := t3; clear t3; refine (h3 _).mono ?_; rintro e w1 ⟨rfl, hw⟩; have hw := hw.symm; subst hw; have t4 : True := trivial)
      | (go_at_call 35; have _t := t4; clear t4; refine (h4 _).mono ?_; rintro e w1 ⟨rfl, hw⟩; have hw := hw.symm; subst hw; have t5 : True := trivial)
      | (go_at_call 36; refine (h5 _).mono ?_; rintro e w1 ⟨rfl, g1⟩))
  go_ret
  exact ⟨rfl, grown_trans g0 g1⟩
set_option maxHeartbeats 8000000 in
theorem wrongRest_any (ma : Option Addr) (mn mc : Nat) (si mo wi : Int) (sa : ByteArray) (w : World) : Calls Try.prog 23 #[.agg #[.slice ma mn mc, .int .i64 si, .int .i64 mo, .int .i64 wi, .string sa]] w fun e w' => e = .returned (.int .i64 (grE si mo wi sa : Nat)) ∧ w.grownBy w' none := by
  have h0 := fun wz => gwithin_any si 0 100000 wz
  have h1 := fun wz => gwithin_any mo 1 100 wz
  have h2 := fun wz => gwithin_any wi 1 100000 wz
  have h5 := fun wz => nameOr_any sa wz
  have b0 := BxS.new w 24 #[.slice ma mn mc, .int .i64 si, .int .i64 mo, .int .i64 wi, .string sa]
  have g0 := World.grownBy_alloc w (.cells #[.slice ma mn mc, .int .i64 si, .int .i64 mo, .int .i64 wi, .string sa] 24) none
  generalize hw0 : w.alloc (.cells #[.slice ma mn mc, .int .i64 si, .int .i64 mo, .int .i64 wi, .string sa] 24) = w0 at b0 g0
  obtain ⟨c0, c1, c2, c3, c4⟩ := b0.cell5
  have t0 : True := trivial
  unfold grE
  generalize kwB si 0 100000 = q0 at h0 ⊢
  generalize kwB mo 1 100 = q1 at h1 ⊢
  generalize kwB wi 1 100000 = q2 at h2 ⊢
  generalize noB sa = q5 at h5 ⊢
  clear b0
  cases q0
  case false =>
    go_enter Try.func23, Try.ntmps23
    go_wp2_with (first
        | (go_at_call 35; have _t := t0; clear t0; refine (h0 _).mono ?_; rintro e w1 ⟨rfl, hw⟩; have hw := hw.symm; subst hw; have t1 : True := trivial)
        | (go_at_call 35; have _t := t1; clear t1; refine (h1 _).mono ?_; rintro e w1 ⟨rfl, hw⟩; have hw := hw.symm; subst hw; have t2 : True := trivial)
        | (go_at_call 35; have _t := t2; clear t2; refine (h2 _).mono ?_; rintro e w1 ⟨rfl, hw⟩; have hw := hw.symm; subst hw; have t3 : True := trivial)
        | (go_at_call 36; refine (h5 _).mono ?_; rintro e w1 ⟨rfl, g1⟩))
    go_ret
    exact ⟨rfl, g0⟩
  cases q1
  case false =>
    go_enter Try.func23, Try.ntmps23
    go_wp2_with (first
        | (go_at_call 35; have _t := t0; clear t0; refine (h0 _).mono ?_; rintro e w1 ⟨rfl, hw⟩; have hw := hw.symm; subst hw; have t1 : True := trivial)
        | (go_at_call 35; have _t := t1; clear t1; refine (h1 _).mono ?_; rintro e w1 ⟨rfl, hw⟩; have hw := hw.symm; subst hw; have t2 : True := trivial)
        | (go_at_call 35; have _t := t2; clear t2; refine (h2 _).mono ?_; rintro e w1 ⟨rfl, hw⟩; have hw := hw.symm; subst hw; have t3 : True := trivial)
        | (go_at_call 36; refine (h5 _).mono ?_; rintro e w1 ⟨rfl, g1⟩))
    go_ret
    exact ⟨rfl, g0⟩
  cases q2
  case false =>
    go_enter Try.func23, Try.ntmps23
    go_wp2_with (first
        | (go_at_call 35; have _t := t0; clear t0; refine (h0 _).mono ?_; rintro e w1 ⟨rfl, hw⟩; have hw := hw.symm; subst hw; have t1 : True := trivial)
        | (go_at_call 35; have _t := t1; clear t1; refine (h1 _).mono ?_; rintro e w1 ⟨rfl, hw⟩; have hw := hw.symm; subst hw; have t2 : True := trivial)
        | (go_at_call 35; have _t := t2; clear t2; refine (h2 _).mono ?_; rintro e w1 ⟨rfl, hw⟩; have hw := hw.symm; subst hw; have t3 : True := trivial)
        | (go_at_call 36; refine (h5 _).mono ?_; rintro e w1 ⟨rfl, g1⟩))
    go_ret
    exact ⟨rfl, g0⟩
  cases q5
  case false =>
    go_enter Try.func23, Try.ntmps23
    go_wp2_with (first
        | (go_at_call 35; have _t := t0; clear t0; refine (h0 _).mono ?_; rintro e w1 ⟨rfl, hw⟩; have hw := hw.symm; subst hw; have t1 : True := trivial)
        | (go_at_call 35; have _t := t1; clear t1; refine (h1 _).mono ?_; rintro e w1 ⟨rfl, hw⟩; have hw := hw.symm; subst hw; have t2 : True := trivial)
        | (go_at_call 35; have _t := t2; clear t2; refine (h2 _).mono ?_; rintro e w1 ⟨rfl, hw⟩; have hw := hw.symm; subst hw; have t3 : True := trivial)
        | (go_at_call 36; refine (h5 _).mono ?_; rintro e w1 ⟨rfl, g1⟩))
    go_ret
    exact ⟨rfl, grown_trans g0 g1⟩
  go_enter Try.func23, Try.ntmps23
  go_wp2_with (first
      | (go_at_call 35; have _t := t0; clear t0; refine (h0 _).mono ?_; rintro e w1 ⟨rfl, hw⟩; have hw := hw.symm; subst hw; have t1 : True := trivial)
      | (go_at_call 35; have _t := t1; clear t1; refine (h1 _).mono ?_; rintro e w1 ⟨rfl, hw⟩; have hw := hw.symm; subst hw; have t2 : True := trivial)
      | (go_at_call 35; have _t := t2; clear t2; refine (h2 _).mono ?_; rintro e w1 ⟨rfl, hw⟩; have hw := hw.symm; subst hw; have t3 : True := trivial)
      | (go_at_call 36; refine (h5 _).mono ?_; rintro e w1 ⟨rfl, g1⟩))
  go_ret
  exact ⟨rfl, grown_trans g0 g1⟩
end Go.Proofs.Ytnpkmjdlohdieaa
