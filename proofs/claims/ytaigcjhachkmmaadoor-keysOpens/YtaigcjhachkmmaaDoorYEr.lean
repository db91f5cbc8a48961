import Derived.Test.YtaigcjhachkmmaaDoorYZi
import Derived.Test.YtaigcjhachkmmaaDoorYBm
namespace Go.Proofs.YtaigcjhachkmmaaDoor
open Go.RowKit
set_option maxRecDepth 100000
set_option linter.unusedVariables false
set_option linter.unusedSimpArgs false
/-- is a number from l to m? -/
def kwB (n l m : Int) : Bool := decide (l ≤ n ∧ n ≤ m)
theorem kwB_t {n l m : Int} (h : l ≤ n ∧ n ≤ m) : kwB n l m = true := decide_eq_true h
theorem kwB_f {n l m : Int} (h : ¬ (l ≤ n ∧ n ≤ m)) : kwB n l m = false := decide_eq_false h
theorem kwB_ok {n l m : Int} (h : kwB n l m = true) : l ≤ n ∧ n ≤ m := of_decide_eq_true h
theorem ywithin_any (n l m : Int) (w : World) : Calls Tryd.prog 22 #[.int .i64 n, .int .i64 l, .int .i64 m] w fun e w' => e = .returned (.bool (kwB n l m)) ∧ w' = w := by
  by_cases h : l ≤ n ∧ n ≤ m
  · rw [kwB_t h]
    have h1 := h.1
    have h2 := h.2
    go_enter Tryd.func22, Tryd.ntmps22
    go_wp2
    go_ret
    exact ⟨rfl, rfl⟩
  · rw [kwB_f h]
    by_cases h1 : l ≤ n
    · have h2 : ¬ n ≤ m := fun h2 => h ⟨h1, h2⟩
      go_enter Tryd.func22, Tryd.ntmps22
      go_wp2
      go_ret
      exact ⟨rfl, rfl⟩
    · go_enter Tryd.func22, Tryd.ntmps22
      go_wp2
      go_ret
      exact ⟨rfl, rfl⟩
/-- words that may be a key's -/
def wdB (S : List Int) : Bool := (List.range 8).all fun i => kwB (nthI S i) 0 4294967295
theorem wdB_t {S : List Int} (h : ∀ i, i < 8 → 0 ≤ nthI S i ∧ nthI S i ≤ 4294967295) : wdB S = true := by
  unfold wdB
  rw [List.all_eq_true]
  intro i hi
  exact kwB_t (h i (List.mem_range.1 hi))
theorem wdB_ok {S : List Int} (h : wdB S = true) (i : Nat) (hi : i < 8) : 0 ≤ nthI S i ∧ nthI S i ≤ 4294967295 := by
  unfold wdB at h
  rw [List.all_eq_true] at h
  exact kwB_ok (h i (List.mem_range.2 hi))
theorem wdB_f {S : List Int} (i : Nat) (hi : i < 8) (h : ¬ (0 ≤ nthI S i ∧ nthI S i ≤ 4294967295)) : wdB S = false := by
  cases e : wdB S
  · rfl
  · exact absurd (wdB_ok e i hi) h
def wdE (n : Nat) (S : List Int) : Int := if n = 8 then (if wdB S = true then 0 else 2) else 1
def blE (n : Nat) (S : List Int) (z x : Int) : Int := if wdE n S = 0 then (if kwB z 0 281474976710655 = true ∧ kwB x 0 1000 = true then 0 else 2) else wdE n S
theorem wrongWords_any (a : Option Addr) (n cap : Nat) (S : List Int) (w : World) (hp : RdI w a n cap S) :
    Calls Tryd.prog 49 #[.slice a n cap] w fun e w' => e = .returned (.int .i64 (wdE n S)) ∧ w' = w := by
  by_cases h8 : n = 8
  · subst h8
    obtain ⟨b, off, rfl, hbw, hcc⟩ := hp.at' (by decide)
    go_enter Tryd.func49, Tryd.ntmps49
    go_wp2
    go_loopw [10] (fun i wr => ∃ q : Nat, q ≤ 8 ∧ i = .int .i64 q ∧ wr = w ∧ ∀ i, i < q → 0 ≤ nthI S i ∧ nthI S i ≤ 4294967295) (fun i _ => 8 - (intOf i).toNat)
    case atStart => exact ⟨0, by omega, rfl, rfl, fun i hi => by omega⟩
    case round =>
      obtain ⟨q, hq, rfl, rfl, hall⟩ := hrel
      by_cases hlt : q < 8
      · have c0 := hcc q hlt
        have hi4 : (q : Int) < 8 := by omega
        by_cases hg : 0 ≤ nthI S q ∧ nthI S q ≤ 4294967295
        · have hk := kwB_t hg
          have HA : Hid (∀ i, i < q + 1 → 0 ≤ nthI S i ∧ nthI S i ≤ 4294967295) := fun i hi => by
            by_cases e : i = q
            · subst e; exact hg
            · exact hall i (by omega)
          clear hcc hall hp
          generalize nthI S q = v at *
          go_wp2_with (go_at_call 22; refine (ywithin_any v 0 4294967295 _).mono ?_; rintro e w' ⟨rfl, rfl⟩; rw [hk])
          go_roundw
          case rel => exact ⟨q + 1, by omega, by go_num, by first | rfl | trivial, HA.out⟩
          case measure => simp [intOf]; omega
        · have hk := kwB_f hg
          have HE : Hid (wdE 8 S = 2) := by show wdE 8 S = 2; unfold wdE; rw [if_pos rfl, wdB_f q hlt hg]; rfl
          clear hcc hall hp
          generalize nthI S q = v at *
          go_wp2_with (go_at_call 22; refine (ywithin_any v 0 4294967295 _).mono ?_; rintro e w' ⟨rfl, rfl⟩; rw [hk])
          go_ret
          rw [HE.out]
          exact ⟨rfl, rfl⟩
      · obtain rfl : q = 8 := by omega
        have HE : Hid (wdE 8 S = 0) := by show wdE 8 S = 0; unfold wdE; rw [if_pos rfl, wdB_t hall]; rfl
        clear hcc hall hp
        go_wp2
        go_ret
        rw [HE.out]
        exact ⟨rfl, rfl⟩
  · have HE : Hid (wdE n S = 1) := if_neg h8
    have hm1 := hp.le; have hm2 := hp.max
    unfold maxLen at hm2
    have h8' : ¬ (n : Int) = 8 := by omega
    clear hp
    go_enter Tryd.func49, Tryd.ntmps49
    go_wp2
    go_ret
    rw [HE.out]
    exact ⟨rfl, rfl⟩
theorem wdE_vals (n : Nat) (S : List Int) : wdE n S = 0 ∨ wdE n S = 1 ∨ wdE n S = 2 := by
  unfold wdE; split
  · split
    · exact .inl rfl
    · exact .inr (.inr rfl)
  · exact .inr (.inl rfl)
set_option maxHeartbeats 2000000 in
theorem padded_any (a : Option Addr) (n cap : Nat) (z x : Int) (S : List Int) (w : World) (hp : RdI w a n cap S) :
    Calls Tryd.prog 52 #[.slice a n cap, .int .i64 z, .int .i64 x] w fun e w' => e = .returned (.int .i64 (blE n S z x)) ∧ w' = w := by
  by_cases h8 : n = 8
  · subst h8
    obtain ⟨b, off, rfl, hbw, hcc⟩ := hp.at' (by decide)
    go_enter Tryd.func52, Tryd.ntmps52
    go_wp2
    go_loopw [7] (fun i wr => ∃ q : Nat, q ≤ 8 ∧ i = .int .i64 q ∧ wr = w ∧ ∀ i, i < q → 0 ≤ nthI S i ∧ nthI S i ≤ 4294967295) (fun i _ => 8 - (intOf i).toNat)
    case atStart => exact ⟨0, by omega, rfl, rfl, fun i hi => by omega⟩
    case round =>
      obtain ⟨q, hq, rfl, rfl, hall⟩ := hrel
      by_cases hlt : q < 8
      · have c0 := hcc q hlt
        have hi4 : (q : Int) < 8 := by omega
        by_cases hg : 0 ≤ nthI S q ∧ nthI S q ≤ 4294967295
        · have HA : Hid (∀ i, i < q + 1 → 0 ≤ nthI S i ∧ nthI S i ≤ 4294967295) := fun i hi => by
            by_cases e : i = q
            · subst e; exact hg
            · exact hall i (by omega)
          have g1 : ¬ nthI S q < 0 := by omega
          have g2 : ¬ nthI S q > 4294967295 := by omega
          clear hcc hall hp hg
          generalize nthI S q = v at *
          go_wp2
          go_roundw
          case rel => exact ⟨q + 1, by omega, by go_num, by first | rfl | trivial, HA.out⟩
          case measure => simp [intOf]; omega
        · have HE : Hid (blE 8 S z x = 2) := by
            show blE 8 S z x = 2
            have : wdE 8 S = 2 := by unfold wdE; rw [if_pos rfl, wdB_f q hlt hg]; rfl
            unfold blE; rw [this]; rfl
          by_cases g1 : nthI S q < 0
          · clear hcc hall hp hg
            generalize nthI S q = v at *
            go_wp2
            go_ret
            rw [HE.out]
            exact ⟨rfl, rfl⟩
          · have g2 : nthI S q > 4294967295 := by omega
            clear hcc hall hp hg
            generalize nthI S q = v at *
            go_wp2
            go_ret
            rw [HE.out]
            exact ⟨rfl, rfl⟩
      · obtain rfl : q = 8 := by omega
        have HE : Hid (blE 8 S z x = if kwB z 0 281474976710655 = true ∧ kwB x 0 1000 = true then 0 else 2) := by
          show blE 8 S z x = _
          have : wdE 8 S = 0 := by unfold wdE; rw [if_pos rfl, wdB_t hall]; rfl
          unfold blE; rw [this]; rfl
        clear hcc hall hp
        by_cases h1 : z < 0
        · have k1 : kwB z 0 281474976710655 = false := kwB_f (by omega)
          go_wp2
          go_ret
          rw [HE.out, k1]
          exact ⟨rfl, rfl⟩
        · by_cases h2 : z > 281474976710655
          · have k1 : kwB z 0 281474976710655 = false := kwB_f (by omega)
            go_wp2
            go_ret
            rw [HE.out, k1]
            exact ⟨rfl, rfl⟩
          · have k1 : kwB z 0 281474976710655 = true := kwB_t (by omega)
            by_cases h3 : x < 0
            · have k2 : kwB x 0 1000 = false := kwB_f (by omega)
              go_wp2
              go_ret
              rw [HE.out, k1, k2]
              exact ⟨rfl, rfl⟩
            · by_cases h4 : x > 1000
              · have k2 : kwB x 0 1000 = false := kwB_f (by omega)
                go_wp2
                go_ret
                rw [HE.out, k1, k2]
                exact ⟨rfl, rfl⟩
              · have k2 : kwB x 0 1000 = true := kwB_t (by omega)
                go_wp2
                go_ret
                rw [HE.out, k1, k2]
                exact ⟨rfl, rfl⟩
  · have HE : Hid (blE n S z x = 1) := by
      show blE n S z x = 1
      have : wdE n S = 1 := if_neg h8
      unfold blE; rw [this]; rfl
    have hm1 := hp.le; have hm2 := hp.max
    unfold maxLen at hm2
    have h8' : ¬ (n : Int) = 8 := by omega
    clear hp
    go_enter Tryd.func52, Tryd.ntmps52
    go_wp2
    go_ret
    rw [HE.out]
    exact ⟨rfl, rfl⟩
end Go.Proofs.YtaigcjhachkmmaaDoor
