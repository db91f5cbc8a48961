import Derived.Laws.BitsAllLaws
import Derived.OpenShut
import Derived.Test.YtlmddjkplnbadaaFSums
import Derived.Test.YtlmddjkplnbadaaSRev
import Derived.Test.YtlmddjkplnbadaaFB2
namespace Go.Proofs.Ytlmddjkplnbadaa
open Go.RowKit
set_option maxRecDepth 100000
set_option linter.unusedVariables false
set_option linter.unusedSimpArgs false

/-- a packet, as a value -/
def pkV (up se : Bool) (ap pt ct : Int) (a : Option Addr) (n cap : Nat) : Value := .agg #[.bool up, .bool se, .int .i64 ap, .int .i64 pt, .int .i64 ct, .slice a n cap]
/-- why a packet may not be (0: it may) -/
def mayE (ap pt ct : Int) (n : Nat) : Nat := if (0 ≤ ap ∧ ap ≤ 2047) ∧ (0 ≤ pt ∧ pt ≤ 3) ∧ (0 ≤ ct ∧ ct ≤ 16383) then (if n = 0 ∨ 65536 < n then 1 else 0) else 2
theorem within_t (n m : Int) (h : 0 ≤ n ∧ n ≤ m) (w : World) : Calls Try.prog 83 #[.int .i64 n, .int .i64 m] w fun e w' => e = .returned (.bool true) ∧ w' = w := by
  have h1 := h.1
  have h2 := h.2
  go_enter Try.func83, Try.ntmps83
  go_wp2
  go_ret
  exact ⟨rfl, rfl⟩
theorem within_f (n m : Int) (h : ¬ (0 ≤ n ∧ n ≤ m)) (w : World) : Calls Try.prog 83 #[.int .i64 n, .int .i64 m] w fun e w' => e = .returned (.bool false) ∧ w' = w := by
  by_cases h1 : 0 ≤ n
  · have h2 : ¬ n ≤ m := fun h2 => h ⟨h1, h2⟩
    go_enter Try.func83, Try.ntmps83
    go_wp2
    go_ret
    exact ⟨rfl, rfl⟩
  · go_enter Try.func83, Try.ntmps83
    go_wp2
    go_ret
    exact ⟨rfl, rfl⟩
set_option maxHeartbeats 2000000 in
theorem wrong_any (up se : Bool) (ap pt ct : Int) (a : Option Addr) (n cap : Nat) (w : World) : Calls Try.prog 72 #[pkV up se ap pt ct a n cap] w fun e w' => e = .returned (.int .i64 (mayE ap pt ct n : Nat)) ∧ w.grownBy w' none := by
  unfold pkV
  have gA := World.grownBy_alloc w (.cells #[.bool up, .bool se, .int .i64 ap, .int .i64 pt, .int .i64 ct, .slice a n cap] 64) none
  by_cases HA : 0 ≤ ap ∧ ap ≤ 2047
  · by_cases HP : 0 ≤ pt ∧ pt ≤ 3
    · by_cases HC : 0 ≤ ct ∧ ct ≤ 16383
      · have t1 : True := trivial
        by_cases n0 : n = 0
        · have e : mayE ap pt ct n = 1 := by unfold mayE; rw [if_pos ⟨HA, HP, HC⟩, if_pos (.inl n0)]
          rw [e]
          clear e
          subst n0
          go_enter Try.func72, Try.ntmps72
          go_wp2_with (first | (go_at_call 83; have _t := t1; clear t1; refine (within_t _ _ HA _).mono ?_; rintro e wx ⟨rfl, hw⟩; have hw := hw.symm; subst hw; have t2 : True := trivial) | (go_at_call 83; have _t := t2; clear t2; refine (within_t _ _ HP _).mono ?_; rintro e wx ⟨rfl, hw⟩; have hw := hw.symm; subst hw; have t3 : True := trivial) | (go_at_call 83; have _t := t3; clear t3; refine (within_t _ _ HC _).mono ?_; rintro e wx ⟨rfl, hw⟩; have hw := hw.symm; subst hw; have t4 : True := trivial))
          go_ret
          exact ⟨rfl, gA⟩
        · have h0 : (((n : Int) == 0) : Bool) = false := by simp; omega
          by_cases n1 : 65536 < n
          · have e : mayE ap pt ct n = 1 := by unfold mayE; rw [if_pos ⟨HA, HP, HC⟩, if_pos (.inr n1)]
            rw [e]
            clear e
            have d1 : decide ((65536 : Int) < (n : Int)) = true := decide_eq_true (by omega)
            go_enter Try.func72, Try.ntmps72
            go_wp2_with (first | (go_at_call 83; have _t := t1; clear t1; refine (within_t _ _ HA _).mono ?_; rintro e wx ⟨rfl, hw⟩; have hw := hw.symm; subst hw; have t2 : True := trivial) | (go_at_call 83; have _t := t2; clear t2; refine (within_t _ _ HP _).mono ?_; rintro e wx ⟨rfl, hw⟩; have hw := hw.symm; subst hw; have t3 : True := trivial) | (go_at_call 83; have _t := t3; clear t3; refine (within_t _ _ HC _).mono ?_; rintro e wx ⟨rfl, hw⟩; have hw := hw.symm; subst hw; have t4 : True := trivial))
            go_ret
            exact ⟨rfl, gA⟩
          · have e : mayE ap pt ct n = 0 := by unfold mayE; rw [if_pos ⟨HA, HP, HC⟩, if_neg (by omega)]
            rw [e]
            clear e
            have d1 : decide ((65536 : Int) < (n : Int)) = false := decide_eq_false (by omega)
            go_enter Try.func72, Try.ntmps72
            go_wp2_with (first | (go_at_call 83; have _t := t1; clear t1; refine (within_t _ _ HA _).mono ?_; rintro e wx ⟨rfl, hw⟩; have hw := hw.symm; subst hw; have t2 : True := trivial) | (go_at_call 83; have _t := t2; clear t2; refine (within_t _ _ HP _).mono ?_; rintro e wx ⟨rfl, hw⟩; have hw := hw.symm; subst hw; have t3 : True := trivial) | (go_at_call 83; have _t := t3; clear t3; refine (within_t _ _ HC _).mono ?_; rintro e wx ⟨rfl, hw⟩; have hw := hw.symm; subst hw; have t4 : True := trivial))
            go_ret
            exact ⟨rfl, gA⟩
      · have e : mayE ap pt ct n = 2 := by unfold mayE; rw [if_neg (fun h => HC h.2.2)]
        rw [e]
        clear e
        have t1 : True := trivial
        go_enter Try.func72, Try.ntmps72
        go_wp2_with (first | (go_at_call 83; have _t := t1; clear t1; refine (within_t _ _ HA _).mono ?_; rintro e wx ⟨rfl, hw⟩; have hw := hw.symm; subst hw; have t2 : True := trivial) | (go_at_call 83; have _t := t2; clear t2; refine (within_t _ _ HP _).mono ?_; rintro e wx ⟨rfl, hw⟩; have hw := hw.symm; subst hw; have t3 : True := trivial) | (go_at_call 83; have _t := t3; clear t3; refine (within_f _ _ HC _).mono ?_; rintro e wx ⟨rfl, hw⟩; have hw := hw.symm; subst hw; have t4 : True := trivial))
        go_ret
        exact ⟨rfl, gA⟩
    · have e : mayE ap pt ct n = 2 := by unfold mayE; rw [if_neg (fun h => HP h.2.1)]
      rw [e]
      clear e
      have t1 : True := trivial
      go_enter Try.func72, Try.ntmps72
      go_wp2_with (first | (go_at_call 83; have _t := t1; clear t1; refine (within_t _ _ HA _).mono ?_; rintro e wx ⟨rfl, hw⟩; have hw := hw.symm; subst hw; have t2 : True := trivial) | (go_at_call 83; have _t := t2; clear t2; refine (within_f _ _ HP _).mono ?_; rintro e wx ⟨rfl, hw⟩; have hw := hw.symm; subst hw; have t3 : True := trivial))
      go_ret
      exact ⟨rfl, gA⟩
  · have e : mayE ap pt ct n = 2 := by unfold mayE; rw [if_neg (fun h => HA h.1)]
    rw [e]
    clear e
    have t1 : True := trivial
    go_enter Try.func72, Try.ntmps72
    go_wp2_with (first | (go_at_call 83; have _t := t1; clear t1; refine (within_f _ _ HA _).mono ?_; rintro e wx ⟨rfl, hw⟩; have hw := hw.symm; subst hw; have t2 : True := trivial))
    go_ret
    exact ⟨rfl, gA⟩

theorem wrapU (x : Int) : IntKind.u64.wrap x = x % 18446744073709551616 := by simp [IntKind.wrap, IntKind.bits, IntKind.signed]
/-- bits are put behind others -/
theorem put_val (k x h : Nat) (hk : k ≤ 16) (hx : x < 2 ^ k) (hh : h * 2 ^ k + x < 18446744073709551616) :
    bits .or .u64 (IntKind.u64.wrap ((h : Int) * 2 ^ k)) (IntKind.u64.wrap (x : Int)) = ((h * 2 ^ k + x : Nat) : Int) := by
  have e1 : (h : Int) * 2 ^ k = ((h * 2 ^ k : Nat) : Int) := by simp
  rw [e1, wrapU, wrapU]
  have e2 : ((h * 2 ^ k : Nat) : Int) % 18446744073709551616 = ((h * 2 ^ k : Nat) : Int) := by
    generalize h * 2 ^ k = m at hh
    omega
  have hp : 2 ^ k ≤ 2 ^ 16 := Nat.pow_le_pow_right (by decide) hk
  have e3 : (x : Int) % 18446744073709551616 = (x : Int) := by
    generalize 2 ^ k = m at hx hp
    omega
  rw [e2, e3, u64_or_nat _ _ (by omega) (by omega)]
  have h3 := Nat.shiftLeft_add_eq_or_of_lt hx h
  rw [Nat.shiftLeft_eq] at h3
  rw [← h3]
/-- a box of 64 bits -/
def BxU (w : World) (g x : Nat) : Prop := w.heap[g]? = some (.cells #[.int .u64 x] 120)
theorem BxU.cell {w : World} {g x : Nat} (h : BxU w g x) : w.cell? ⟨g, 0, none⟩ = some (.int .u64 x) := by simp [World.cell?, show w.heap[g]? = _ from h] -- 120
theorem BxU.free {w : World} {g x : Nat} (h : BxU w g x) : w.frozen? ⟨g, 0, none⟩ = false := by simp [World.frozen?, show w.heap[g]? = _ from h] -- 120
theorem BxU.lt {w : World} {g x : Nat} (h : BxU w g x) : g < w.heap.size := (Array.getElem?_eq_some_iff.1 h).1 -- 120
theorem BxU.set {w : World} {g x : Nat} (h : BxU w g x) (y : Nat) : BxU (w.setCell ⟨g, 0, none⟩ (.int .u64 y)) g y := by -- 120
  unfold BxU
  rw [setCell_eq_setRow w g 0 _ _ _ _ h]
  exact setRow_heap w g _ _ _ _ h
theorem BxU.keep {w w' : World} {g x : Nat} {r : Option Nat} (h : BxU w g x) (hg : w.grownBy w' r) (hne : some g ≠ r) : BxU w' g x := (hg.block g h.lt hne).trans h -- 120
set_option maxHeartbeats 4000000 in
theorem put_any (k x g h : Nat) (w : World) (hB : BxU w g h) (hk : k ≤ 16) (hx : x < 2 ^ k) (hh : h * 2 ^ k + x < 18446744073709551616) :
    Calls Try.prog 84 #[.int .i64 k, .int .i64 x, .pointer (some ⟨g, 0, none⟩)] w fun e w' => e = .returned (.tuple #[]) ∧ BxU w' g (h * 2 ^ k + x) ∧ w.grownBy w' (some g) := by
  have hc := hB.cell
  have hf := hB.free
  have hv : Hid (_ = _) := put_val k x h hk hx hh
  have hS := hB.set (h * 2 ^ k + x)
  clear hx hh
  go_enter Try.func84, Try.ntmps84
  go_wp2
  go_end0
  rw [hv.out]
  exact ⟨rfl, hS, grown_set _ _ _ _⟩
/-- a packet in a box -/
def BxP (w : World) (g : Nat) (up se : Bool) (ap pt ct : Int) (a : Option Addr) (n cap : Nat) : Prop := w.heap[g]? = some (.cells #[.bool up, .bool se, .int .i64 ap, .int .i64 pt, .int .i64 ct, .slice a n cap] 64)
theorem BxP.cell {w : World} {g : Nat} {up se : Bool} {ap pt ct : Int} {a : Option Addr} {n cap : Nat} (h : BxP w g up se ap pt ct a n cap) :
    w.cell? ⟨g, 0, none⟩ = some (.bool up) ∧ w.cell? ⟨g, 1, none⟩ = some (.bool se) ∧ w.cell? ⟨g, 2, none⟩ = some (.int .i64 ap) ∧ w.cell? ⟨g, 3, none⟩ = some (.int .i64 pt) ∧ w.cell? ⟨g, 4, none⟩ = some (.int .i64 ct) ∧ w.cell? ⟨g, 5, none⟩ = some (.slice a n cap) := by
  simp [World.cell?, show w.heap[g]? = _ from h]
theorem BxP.lt {w : World} {g : Nat} {up se : Bool} {ap pt ct : Int} {a : Option Addr} {n cap : Nat} (h : BxP w g up se ap pt ct a n cap) : g < w.heap.size := (Array.getElem?_eq_some_iff.1 h).1
theorem BxP.keep {w w' : World} {g : Nat} {up se : Bool} {ap pt ct : Int} {a : Option Addr} {n cap : Nat} {r : Option Nat} (h : BxP w g up se ap pt ct a n cap) (hg : w.grownBy w' r) (hne : some g ≠ r) : BxP w' g up se ap pt ct a n cap := (hg.block g h.lt hne).trans h
theorem BxP.new (w : World) (up se : Bool) (ap pt ct : Int) (a : Option Addr) (n cap : Nat) : BxP (w.alloc (.cells #[.bool up, .bool se, .int .i64 ap, .int .i64 pt, .int .i64 ct, .slice a n cap] 64)) w.heap.size up se ap pt ct a n cap := heap_alloc_new w _
theorem BxU.new (w : World) (x : Nat) : BxU (w.alloc (.cells #[.int .u64 x] 120)) w.heap.size x := heap_alloc_new w _
end Go.Proofs.Ytlmddjkplnbadaa
