import Derived.Test.YtnnoeeakkpaocaaKxNs
import Derived.Test.YtnnoeeakkpaocaaPOp
namespace Go.Proofs.Ytnnoeeakkpaocaa
open Go.RowKit
set_option maxRecDepth 100000
set_option linter.unusedVariables false
set_option linter.unusedSimpArgs false

/-- is a number from l to m? -/
def kwB (n l m : Int) : Bool := decide (l ≤ n ∧ n ≤ m)
theorem kwB_t {n l m : Int} (h : l ≤ n ∧ n ≤ m) : kwB n l m = true := decide_eq_true h
theorem kwB_f {n l m : Int} (h : ¬ (l ≤ n ∧ n ≤ m)) : kwB n l m = false := decide_eq_false h
theorem kwB_ok {n l m : Int} (h : kwB n l m = true) : l ≤ n ∧ n ≤ m := of_decide_eq_true h
theorem kwithin_any (n l m : Int) (w : World) : Calls Try.prog 62 #[.int .i64 n, .int .i64 l, .int .i64 m] w fun e w' => e = .returned (.bool (kwB n l m)) ∧ w' = w := by
  by_cases h : l ≤ n ∧ n ≤ m
  · rw [kwB_t h]
    have h1 := h.1
    have h2 := h.2
    go_enter Try.func62, Try.ntmps62
    go_wp2
    go_ret
    exact ⟨rfl, rfl⟩
  · rw [kwB_f h]
    by_cases h1 : l ≤ n
    · have h2 : ¬ n ≤ m := fun h2 => h ⟨h1, h2⟩
      go_enter Try.func62, Try.ntmps62
      go_wp2
      go_ret
      exact ⟨rfl, rfl⟩
    · go_enter Try.func62, Try.ntmps62
      go_wp2
      go_ret
      exact ⟨rfl, rfl⟩
theorem bitIf_any (b : Bool) (x : Int) (w : World) : Calls Try.prog 61 #[.bool b, .int .i64 x] w fun e w' => e = .returned (.int .i64 (b.toNat * x)) ∧ w' = w := by
  cases b
  · go_enter Try.func61, Try.ntmps61
    go_wp2
    go_ret
    exact ⟨ret_int (by simp), rfl⟩
  · go_enter Try.func61, Try.ntmps61
    go_wp2
    go_ret
    exact ⟨ret_int (by simp), rfl⟩
theorem ofInt_mod (z : Int) : (BitVec.ofInt 64 z).toNat = (z % 18446744073709551616).toNat := by
  rw [BitVec.toNat_ofInt]; rfl
/-- a number's lowest eight bits, whatever it is -/
theorem and_255 (z : Int) : bits .and .i64 z 255 = z % 256 := by
  show IntKind.i64.wrap ((BitVec.ofInt 64 z &&& BitVec.ofInt 64 255).toNat : Int) = _
  rw [BitVec.toNat_and, ofInt_mod, ofInt_mod]
  have h : ((z % 18446744073709551616).toNat &&& ((255 : Int) % 18446744073709551616).toNat) = (z % 18446744073709551616).toNat % 256 := by
    show (z % 18446744073709551616).toNat &&& 255 = _
    exact Nat.and_two_pow_sub_one_eq_mod _ 8
  rw [h, wrap_i64_in _ (by omega) (by omega)]
  omega
theorem around_any (z : Int) (w : World) : Calls Try.prog 90 #[.int .i64 z] w fun e w' => e = .returned (.int .i64 (z % 256)) ∧ w' = w := by
  have h := and_255 z
  go_enter Try.func90, Try.ntmps90
  go_wp2
  go_ret
  exact ⟨ret_int (by first | exact h | rfl), rfl⟩
/-- a gate, cell by cell -/
def gtA (cr nx ha : Int) (sh wa ag : Bool) (ct : Int) : Array Value := #[.int .i64 cr, .int .i64 nx, .int .i64 ha, .bool sh, .bool wa, .bool ag, .int .i64 ct]
theorem BxS.cell7 {w : World} {g : Nat} {t : TypeId} {a b c d e f h : Value} (k : BxS w g t #[a, b, c, d, e, f, h]) : w.cell? ⟨g, 0, none⟩ = some a ∧ w.cell? ⟨g, 1, none⟩ = some b ∧ w.cell? ⟨g, 2, none⟩ = some c ∧ w.cell? ⟨g, 3, none⟩ = some d ∧ w.cell? ⟨g, 4, none⟩ = some e ∧ w.cell? ⟨g, 5, none⟩ = some f ∧ w.cell? ⟨g, 6, none⟩ = some h := by
  simp [World.cell?, show w.heap[g]? = _ from k]
theorem Try.info_gt : (Try.prog.info? 38).map (fun i => i.size) = some 7 := by kernel_rfl
def gtB (cr nx ha ct : Int) : Bool := kwB cr 0 1023 && kwB ha 1 127 && kwB nx 0 255 && kwB ct 0 3
set_option maxHeartbeats 4000000 in
theorem gmay_any (cr nx ha : Int) (sh wa ag : Bool) (ct : Int) (w : World) : Calls Try.prog 59 #[.agg (gtA cr nx ha sh wa ag ct)] w fun e w' => e = .returned (.bool (gtB cr nx ha ct)) ∧ w.grownBy w' none := by
  unfold gtA gtB
  have gA := World.grownBy_alloc w (.cells #[.int .i64 cr, .int .i64 nx, .int .i64 ha, .bool sh, .bool wa, .bool ag, .int .i64 ct] 38) none
  have h0 := fun wz => kwithin_any cr 0 1023 wz
  have h1 := fun wz => kwithin_any ha 1 127 wz
  have h2 := fun wz => kwithin_any nx 0 255 wz
  have h3 := fun wz => kwithin_any ct 0 3 wz
  generalize kwB cr 0 1023 = b0 at h0 ⊢
  generalize kwB ha 1 127 = b1 at h1 ⊢
  generalize kwB nx 0 255 = b2 at h2 ⊢
  generalize kwB ct 0 3 = b3 at h3 ⊢
  have t1 : True := trivial
  cases b0 <;> cases b1 <;> cases b2 <;> cases b3
  all_goals
    go_enter Try.func59, Try.ntmps59
    go_wp2_with (first
      | (go_at_call 62; have _t := t1; clear t1; refine (h0 _).mono ?_; rintro e wx ⟨rfl, hw⟩; have hw := hw.symm; subst hw; have t2 : True := trivial)
      | (go_at_call 62; have _t := t2; clear t2; refine (h1 _).mono ?_; rintro e wx ⟨rfl, hw⟩; have hw := hw.symm; subst hw; have t3 : True := trivial)
      | (go_at_call 62; have _t := t3; clear t3; refine (h2 _).mono ?_; rintro e wx ⟨rfl, hw⟩; have hw := hw.symm; subst hw; have t4 : True := trivial)
      | (go_at_call 62; have _t := t4; clear t4; refine (h3 _).mono ?_; rintro e wx ⟨rfl, hw⟩; have hw := hw.symm; subst hw))
    go_ret
    exact ⟨rfl, gA⟩
end Go.Proofs.Ytnnoeeakkpaocaa
