import Derived.Test.YtbgbohddkfaacaaCCst
namespace Go.Proofs.Ytbgbohddkfaacaa
open Go.RowKit
set_option maxRecDepth 100000
set_option linter.unusedVariables false
set_option linter.unusedSimpArgs false

/-- bits as a number -/
def valN (B : List Nat) : Nat → Nat
  | 0 => 0
  | k + 1 => 2 * valN B k + nth B k
theorem valN_lt (B : List Nat) (hB : IsBit B) (k : Nat) : valN B k < 2 ^ k := by
  induction k with
  | zero => exact (by decide : 0 < 1)
  | succ k ih => have := hB k; show 2 * valN B k + nth B k < _; rw [Nat.pow_succ]; omega
theorem valN_inj (B B' : List Nat) (hB : IsBit B) (hB' : IsBit B') (k : Nat) (h : valN B k = valN B' k) : ∀ j, j < k → nth B j = nth B' j := by
  induction k with
  | zero => intro j hj; omega
  | succ k ih =>
    have h1 := hB k; have h2 := hB' k
    have e : 2 * valN B k + nth B k = 2 * valN B' k + nth B' k := h
    intro j hj
    by_cases e2 : j = k
    · subst e2; omega
    · exact ih (by omega) j (by omega)
theorem val_first (B B' : List Nat) (hB : IsBit B) (hB' : IsBit B') (k : Nat) (h : valN B k < valN B' k) : ∃ i, i < k ∧ (∀ j, j < i → nth B j = nth B' j) ∧ nth B i = 0 ∧ nth B' i = 1 := by
  induction k with
  | zero => exact absurd h (Nat.lt_irrefl 0)
  | succ k ih =>
    have h1 := hB k; have h2 := hB' k
    have e : 2 * valN B k + nth B k < 2 * valN B' k + nth B' k := h
    by_cases e2 : valN B k < valN B' k
    · obtain ⟨i, h3, h4⟩ := ih e2
      exact ⟨i, by omega, h4⟩
    · exact ⟨k, by omega, valN_inj B B' hB hB' k (by omega), by omega, by omega⟩
def bitL (m k : Nat) : List Nat := (List.range k).map fun i => m / 2 ^ (k - 1 - i) % 2
theorem bitL_len (m k : Nat) : (bitL m k).length = k := by simp [bitL]
theorem bitL_bit (m k : Nat) : IsBit (bitL m k) := by
  intro i
  by_cases h : i < k
  · unfold bitL; rw [nth_map_range _ _ _ h]; exact Nat.mod_lt _ (by decide)
  · rw [nth_out _ _ (by rw [bitL_len]; omega)]; decide
theorem bitL_val (m k : Nat) (hm : m < 2 ^ k) : ∀ i, i ≤ k → valN (bitL m k) i = m / 2 ^ (k - i) := by
  intro i
  induction i with
  | zero => intro _; rw [Nat.sub_zero, Nat.div_eq_of_lt hm]; rfl
  | succ i ih =>
    intro hi
    show 2 * valN (bitL m k) i + nth (bitL m k) i = _
    rw [ih (by omega)]
    unfold bitL
    rw [nth_map_range _ _ _ (by omega), show k - i = (k - 1 - i) + 1 by omega, Nat.pow_succ, ← Nat.div_div_eq_div_mul, show k - (i + 1) = k - 1 - i by omega]
    omega
theorem best_fact (p : Nat → Int) (k m : Nat) (hm : m < 2 ^ k) : vN p k (k + 6) 0 ≤ restC p (bitL m k) 0 (k + 6) ∧ (restC p (bitL m k) 0 (k + 6) = vN p k (k + 6) 0 → valN (gotN p k) k ≤ m) := by
  have hl := low_any p k (bitL m k) (bitL_bit m k) (bitL_len m k) (k + 6) 0 (by omega)
  refine ⟨hl, fun he => ?_⟩
  by_cases h : valN (gotN p k) k ≤ m
  · exact h
  · have hv := bitL_val m k hm k (Nat.le_refl _)
    rw [Nat.sub_self, Nat.pow_zero, Nat.div_one] at hv
    obtain ⟨i, hi, h1, h2, h3⟩ := val_first (bitL m k) (gotN p k) (bitL_bit m k) (gotN_bit p k) k (by rw [hv]; omega)
    have := first_more p k (bitL m k) (bitL_bit m k) (bitL_len m k) i hi h1 h2 h3
    omega
theorem cnt_six (r k : Nat) (h1 : 1 ≤ r) (h2 : r ≤ 5) : 6 < cntN r (k + 6) := by
  have := cnt_mono r (show 6 ≤ k + 6 by omega)
  have e : 6 < cntN r 6 := by
    rcases (by omega : r = 1 ∨ r = 2 ∨ r = 3 ∨ r = 4 ∨ r = 5) with rfl | rfl | rfl | rfl | rfl <;> decide +kernel
  omega
/-- 'picked' -/
theorem picked_any (n of : Int) (w : World) (h1 : -9223372036854775808 ≤ n) (h2 : n ≤ 9223372036854775807) (ho : 0 < of) (ho2 : of ≤ 9223372036854775807) :
    Calls Try.prog 22 #[.int .i64 n, .int .i64 of] w fun e w' => ∃ v : Nat, (v : Int) < of ∧ e = .returned (.int .i64 v) ∧ w' = w := by
  by_cases hn : n < 0
  · have hnz : ¬ of = 0 := by omega
    go_enter Try.func22, Try.ntmps22
    go_wp2
    go_ret
    have p1 := Int.emod_nonneg (-(n + 1)) (show of ≠ 0 by omega)
    have p2 := Int.emod_lt_of_pos (-(n + 1)) ho
    have e : -((n + 1).tmod of) = (-(n + 1)) % of := by rw [← Int.neg_tmod, Int.tmod_eq_emod_of_nonneg (by omega)]
    refine ⟨((-(n + 1)) % of).toNat, by omega, ?_, rfl⟩
    refine congrArg (fun z => Ending.returned (Value.int .i64 z)) (?_ : -((n + 1).tmod of) = _)
    rw [e]; omega
  · have hnz : ¬ of = 0 := by omega
    go_enter Try.func22, Try.ntmps22
    go_wp2
    go_ret
    have p1 := Int.emod_nonneg n (show of ≠ 0 by omega)
    have p2 := Int.emod_lt_of_pos n ho
    refine ⟨(n % of).toNat, by omega, ?_, rfl⟩
    refine congrArg (fun z => Ending.returned (Value.int .i64 z)) (?_ : n % of = _)
    omega
theorem Try.info_int : (Try.prog.info? 3).map (fun i => (i.zero, i.size, i.bytes)) = some (some (.int .i64 0), 1, 8) := by kernel_rfl
theorem madeI (n : Nat) : madeCells #[.int .i64 0] (n * 1) = ints n fun _ => 0 := by
  apply Array.ext'
  rw [Nat.mul_one, toList_madeCells_one]
  unfold ints
  apply List.ext_getElem
  · simp
  · intro i h1 h2; simp
/-- 'make([]int, n)' -/
theorem wpList_mkI (w : World) {ops : Array Oper} {rest : List Oper} {o : Oper} {a : Act} {Q : Exit → Act → World → Prop} (hg : o.guard = none) (l c : Operand)
    (hop : o.op = Op.makeSlice 35 l c) (n : Nat) (hl : a.eval l = .int .i64 (n : Nat)) (hc : a.eval c = .int .i64 (n : Nat)) (hn : n ≤ 100000)
    (hK : ∀ w', IRow w' w.heap.size 3 n (fun _ => 0) → w.grownBy w' none → wpList Try.prog ops Q rest (a.put o.dst (.slice (some ⟨w.heap.size, 0, none⟩) n n)) w') :
    wpList Try.prog ops Q (o :: rest) a w := by
  obtain ⟨i0, hi, hz0, hz1, hz2⟩ := info_parts Try.info_int
  refine wpList_plain hg fun K hK' => ?_
  have h := run_makeSlice (P := Try.prog) w 35 3 i0 _ Try.underlying35 hi hz0 .i64 .i64 n n (by omega) (by omega) (by rw [hz1]; omega) (by rw [hz2]; omega) (by omega)
  rw [hz1] at h
  simp only [Int.toNat_natCast] at h
  unfold Oper.wp
  simp [execOp, hop, hl, hc, h, Result.andThen]
  refine hK' _ _ (hK _ ?_ (World.grownBy_alloc _ _ _))
  unfold IRow
  rw [heap_alloc_new]
  have := madeI n
  rw [← this]
  simp
  rfl
def lisI (m : Nat) (f : Nat → Int) : List Int := (List.range m).map f
theorem lisI_len (m : Nat) (f : Nat → Int) : (lisI m f).length = m := by simp [lisI]
theorem lisI_at (m : Nat) (f : Nat → Int) (i : Nat) (h : i < m) : nthI (lisI m f) i = f i := by
  unfold nthI lisI
  rw [List.getD_eq_getElem?_getD, List.getElem?_map, List.getElem?_range h]; rfl
theorem lisI_bd (m : Nat) (f : Nat → Int) (h : ∀ i, i < m → -7 ≤ f i ∧ f i ≤ 7) (i : Nat) : -7 ≤ nthI (lisI m f) i ∧ nthI (lisI m f) i ≤ 7 := by
  by_cases hi : i < m
  · rw [lisI_at m f i hi]; exact h i hi
  · unfold nthI
    rw [List.getD_eq_getElem?_getD, List.getElem?_eq_none (by rw [lisI_len]; omega)]; exact ⟨by decide, by decide⟩
theorem IRow.rdI {w : World} {g ty m : Nat} {f : Nat → Int} (h : IRow w g ty m f) (hm : m ≤ 100000) : RdI w (some ⟨g, 0, none⟩) m m (lisI m f) :=
  ⟨lisI_len m f, Nat.le_refl _, by unfold maxLen; omega, (fun h => by cases h), fun _ => ⟨g, 0, rfl, h.lt, fun i hi => by rw [Nat.zero_add, lisI_at m f i hi]; exact h.cell i hi⟩⟩
theorem Gather_ok (a : Option Addr) (m cap n r : Nat) (S : List Int) (w : World) (hp : RdI w a m cap S) (hn : n ≤ 16384) (h1 : 1 ≤ r) (h2 : r ≤ 5) (hm : m = cntN r (n + 6)) (hSb : ∀ i, -7 ≤ nthI S i ∧ nthI S i ≤ 7) :
    Calls Try.prog 20 #[.slice a m cap, .int .i64 n, .int .i64 r] w fun e w' => ∃ a' c', e = .returned (.tuple #[.slice a' n c', .int .i64 (vN (prV r S) n (n + 6) 0), .int .i64 0]) ∧ Ans w' w.heap.size a' n c' (gotN (prV r S) n) ∧ w.grownBy w' none := by
  have e : gatE S n r = 0 := by
    unfold gatE
    rw [if_pos ⟨by omega, by omega⟩, hp.len, if_pos ⟨by omega, by omega, by simpa using hm⟩, if_pos (of_soft S (fun i _ => hSb i))]
  have eL : gatL S n r = gotN (prV r S) n := by unfold gatL; rw [e, if_pos rfl]; simp [gotN]
  have eC : gatC S n r = vN (prV r S) n (n + 6) 0 := by unfold gatC; rw [e, if_pos rfl]; simp
  refine (Gather_all a m cap n r S w hp (by omega) (by omega)).mono ?_
  rintro x w' ⟨a', n', c', rfl, hA, hg⟩
  rw [eL] at hA
  have hl := hA.len
  rw [gotN_len] at hl
  subst hl
  exact ⟨a', c', by rw [e, eC], hA, hg⟩
end Go.Proofs.Ytbgbohddkfaacaa
