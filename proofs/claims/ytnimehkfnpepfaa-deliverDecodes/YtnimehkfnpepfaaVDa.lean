import Derived.Test.YtnimehkfnpepfaaVNow
import Derived.Test.YtnimehkfnpepfaaVNm
import Derived.Test.YtnimehkfnpepfaaVNb
import Derived.Test.YtnimehkfnpepfaaPOp
import Derived.Test.YtnimehkfnpepfaaVNt
namespace Go.Proofs.Ytnimehkfnpepfaa
open Go.RowKit
set_option maxRecDepth 100000
set_option linter.unusedVariables false
set_option linter.unusedSimpArgs false

/-- bytes that are not yet read -/
structure Rdr (w0 w : World) (gr : Nat) (D : List Nat) : Prop where
  lo : w0.heap.size ≤ gr
  ex : ∃ a n c, BxS w gr 123 #[.slice a n c] ∧ Rd w0 a n c D
  g : w0.grownBy w none
theorem or_256 (x b : Nat) (hx : x < 4294967296) (hb : b < 256) : bits .or .i64 ((x : Int) * 256) (b : Int) = ((x * 256 + b : Nat) : Int) := by
  have e : (x : Int) * 256 = ((x * 256 : Nat) : Int) := by omega
  rw [e, i64_or_n _ _ (by omega) (by omega)]
  congr 1
  have h3 := Nat.shiftLeft_add_eq_or_of_lt (show b < 2 ^ 8 by omega) x
  rw [Nat.shiftLeft_eq] at h3
  exact h3.symm
theorem hdV_4 {D : List Nat} (hB : IsB D) {k : Nat} (hk : k ≤ 3) : hdV D k < 16777216 := by
  have h1 := hdV_lt hB k
  have h2 : 256 ^ k ≤ 256 ^ 3 := Nat.pow_le_pow_right (by decide) hk
  omega
theorem Rd.beh {w : World} {b off n cap k : Nat} {L : List Nat} (h : Rd w (some ⟨b, off, none⟩) n cap L) (hk : k ≤ n) : Rd w (some ⟨b, if cap = k then off else off + k, none⟩) (n - k) (cap - k) (L.drop k) := by
  have h1 := h.le
  have hl := h.len
  have hB : IsB (L.drop k) := fun x hx => h.byte x (List.mem_of_mem_drop hx)
  by_cases e : cap = k
  · rw [if_pos e]
    refine ⟨by rw [List.length_drop, hl], by omega, by have := h.max; omega, (fun e => by cases e), hB, fun h0 => by omega⟩
  · rw [if_neg e]
    refine ⟨by rw [List.length_drop, hl], by omega, by have := h.max; omega, (fun e => by cases e), hB, fun h0 => ?_⟩
    obtain ⟨b', off', e', hb, hc⟩ := h.at' (by omega)
    cases e'
    refine ⟨b, off + k, rfl, hb, fun i hi => ?_⟩
    have := hc (k + i) (by omega)
    rw [← Nat.add_assoc] at this
    rw [this]
    congr 3
    unfold nth
    simp [List.getD_eq_getElem?_getD, List.getElem?_drop]
set_option maxHeartbeats 8000000 in
theorem number_ok (w0 w : World) (gr k : Nat) (D : List Nat) (hh : Rdr w0 w gr D) (hk : 1 ≤ k ∧ k ≤ 4) (hl : k ≤ D.length) :
    Calls Try.prog 110 #[.pointer (some ⟨gr, 0, none⟩), .int .i64 (k : Int)] w fun e w' => e = .returned (.int .i64 (hdV D k : Nat)) ∧ Rdr w0 w' gr (D.drop k) ∧ w.grownBy w' (some gr) := by
  obtain ⟨a, n, c, bx, hR⟩ := hh.ex
  have hn := hR.len
  have hB := hR.byte
  have hle := hR.le
  have hmx := hR.max
  unfold maxLen at hmx
  obtain ⟨b, off, rfl, hbw, hc⟩ := (hR.keep hh.g).at' (by omega)
  have hc0 : w.cell? ⟨gr, 0, none⟩ = some (.slice (some ⟨b, off, none⟩) n c) := bx.cell 0 (by show 0 < 1; decide)
  have hf := bx.free 0
  have hbe := hR.beh (k := k) (by omega)
  have lk : ¬ (n : Int) < (k : Int) := by omega
  have lk1 : (k : Int) ≤ (n : Int) := by omega
  have lk2 : (k : Int) ≤ (c : Int) := by omega
  go_enter Try.func110, Try.ntmps110
  go_wp2
  go_loopw [5, 30] (fun nv iv wr => ∃ j : Nat, j ≤ k ∧ iv = .int .i64 j ∧ nv = .int .i64 (hdV D j : Nat) ∧ Hid (wr = w)) (fun _ iv _ => k - (intOf iv).toNat)
  case atStart => exact ⟨0, Nat.zero_le _, rfl, rfl, rfl⟩
  case round =>
    obtain ⟨j, hj, rfl, rfl, hwr⟩ := hrel
    have hwr := hwr.out
    subst hwr
    by_cases hlt : j < k
    · have lj : (j : Int) < (k : Int) := by omega
      have cj := hc j (by omega)
      have v1 := hdV_4 hB (k := j) (by omega)
      have v2 := hB.nth j
      have ho := or_256 (hdV D j) (nth D j) (by omega) v2
      have e2 : ((hdV D (j + 1) : Nat) : Int) = ((hdV D j * 256 + nth D j : Nat) : Int) := rfl
      have HE : Hid _ := e2
      clear e2
      generalize hdV D j = x at *
      generalize nth D j = y at *
      go_wp2
      go_roundw
      case rel => exact ⟨j + 1, by omega, by go_num, by rw [HE.out]; go_num, (by first | exact rfl | exact trivial)⟩
      case measure => simp [intOf] <;> omega
    · obtain rfl : j = k := by omega
      have lj : ¬ (j : Int) < (j : Int) := by omega
      have HBE : Hid _ := hbe
      clear hbe
      go_wp2
      · go_ret
        refine ⟨rfl, ⟨hh.lo, ⟨_, _, _, bx.set 0 _, ?_⟩, grown_far hh.g (grown_set wr gr 0 _) (fun q e => by have e := Option.some.inj e; have := hh.lo; omega)⟩, grown_set wr gr 0 _⟩
        have h9 := HBE.out
        rw [if_pos (by omega), show c - j = 0 by omega] at h9
        exact h9
      · rename_i hne
        go_ret
        refine ⟨rfl, ⟨hh.lo, ⟨_, _, _, bx.set 0 _, ?_⟩, grown_far hh.g (grown_set wr gr 0 _) (fun q e => by have e := Option.some.inj e; have := hh.lo; omega)⟩, grown_set wr gr 0 _⟩
        have h9 := HBE.out
        rw [if_neg (by omega)] at h9
        exact h9
/-- bytes end too early -/
theorem number_no (w0 w : World) (gr k : Nat) (D : List Nat) (hh : Rdr w0 w gr D) (hk : 1 ≤ k ∧ k ≤ 4) (hl : D.length < k) :
    Calls Try.prog 110 #[.pointer (some ⟨gr, 0, none⟩), .int .i64 (k : Int)] w fun e w' => e = .panicked [{ v := .iface 120 (.int .i64 ((k : Int) - (D.length : Int))), recovered := false }] ∧ w' = w := by
  obtain ⟨a, n, c, bx, hR⟩ := hh.ex
  have hn := hR.len
  have hle := hR.le
  have hmx := hR.max
  unfold maxLen at hmx
  have hc0 : w.cell? ⟨gr, 0, none⟩ = some (.slice a n c) := bx.cell 0 (by show 0 < 1; decide)
  have lk : (n : Int) < (k : Int) := by omega
  subst hn
  go_enter Try.func110, Try.ntmps110
  go_wp2
  exact ⟨rfl, rfl, rfl⟩
set_option maxHeartbeats 8000000 in
/-- all bytes that are left -/
theorem rest_any (w0 w : World) (gr : Nat) (D : List Nat) (hh : Rdr w0 w gr D) (hl : D.length ≤ 140737488355328) :
    Calls Try.prog 111 #[.pointer (some ⟨gr, 0, none⟩)] w fun e w' => ∃ a c, e = .returned (.slice a D.length c) ∧ Ans w' w.heap.size a D.length c D ∧ Rdr w0 w' gr [] ∧ w.grownBy w' (some gr) := by
  obtain ⟨a, n, c, bx, hR⟩ := hh.ex
  have hn := hR.len
  have hc0 : w.cell? ⟨gr, 0, none⟩ = some (.slice a n c) := bx.cell 0 (by show 0 < 1; decide)
  have s0 : True := trivial
  go_enter Try.func111, Try.ntmps111
  go_wp2_with (go_at_call 57; have _t := s0; clear s0; refine (dclone_any a n c D w (hR.keep hh.g) (by omega)).mono ?_; rintro e w1 ⟨a', c', rfl, hA, g1⟩; have b1 := bx.keep g1 (by simp); have c1 : w1.cell? ⟨gr, 0, none⟩ = some (.slice a n c) := b1.cell 0 (by show 0 < 1; decide); have f1 := b1.free 0)
  go_ret
  subst hn
  refine ⟨a', c', rfl, hA.kept (grown_set w1 gr 0 _) (.inr (fun e => ?_)), ⟨hh.lo, ⟨_, _, _, b1.set 0 _, ⟨rfl, Nat.le_refl _, Nat.zero_le _, (fun _ => rfl), (fun x hx => by cases hx), (fun h => by omega)⟩⟩, grown_far (grown_trans hh.g g1) (grown_set w1 gr 0 _) (fun q e => by have e := Option.some.inj e; have := hh.lo; omega)⟩, grown_trans (grown_weak g1 _) (grown_set w1 gr 0 _)⟩
  have h1 := bx.lt
  have h2 := hA.new gr e
  omega
end Go.Proofs.Ytnimehkfnpepfaa
