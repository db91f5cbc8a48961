import Derived.Test.YtlaiocefbhoccaaDoorYTn
import Derived.Test.YtlaiocefbhoccaaDoorYEr
namespace Go.Proofs.YtlaiocefbhoccaaDoor
open Go.RowKit
set_option maxRecDepth 100000
set_option linter.unusedVariables false
set_option linter.unusedSimpArgs false
/-! the document's block: a row of numbers of the call's own -/
def lisN (n : Nat) (f : Nat → Nat) : List Int := (List.range n).map fun i => (f i : Int)
theorem lisN_len (n : Nat) (f : Nat → Nat) : (lisN n f).length = n := by simp [lisN]
theorem lisN_at (n : Nat) (f : Nat → Nat) (i : Nat) (h : i < n) : nthI (lisN n f) i = (f i : Int) := by
  unfold nthI lisN
  rw [List.getD_eq_getElem?_getD, List.getElem?_map, List.getElem?_range h]; rfl
theorem lisN_set (n : Nat) (f : Nat → Nat) (j x : Nat) : (lisN n f).set j (x : Int) = lisN n (updF f j x) := by
  apply List.ext_getElem?
  intro i
  rw [List.getElem?_set]
  by_cases e : j = i
  · subst e
    rw [if_pos rfl]
    by_cases hj : j < n
    · rw [if_pos (by rw [lisN_len]; exact hj)]
      unfold lisN updF
      rw [List.getElem?_map, List.getElem?_range hj]; simp
    · rw [if_neg (by rw [lisN_len]; exact hj), List.getElem?_eq_none (by rw [lisN_len]; omega)]
  · rw [if_neg e]
    unfold lisN updF
    rw [List.getElem?_map, List.getElem?_map]
    by_cases hi : i < n
    · rw [List.getElem?_range hi]; simp [Ne.symm e]
    · rw [List.getElem?_eq_none (by simp; omega)]; rfl
theorem lisN_congr (n : Nat) (f f' : Nat → Nat) (h : ∀ i, i < n → f i = f' i) : lisN n f = lisN n f' := by
  unfold lisN
  apply List.map_congr_left
  intro i hi
  rw [h i (List.mem_range.1 hi)]
structure QR (w : World) (lo g n cap : Nat) (f : Nat → Nat) : Prop where
  ans : AnsZ w lo (some ⟨g, 0, none⟩) n cap (lisN n f)
theorem QR.lt {w : World} {lo g n cap : Nat} {f : Nat → Nat} (h : QR w lo g n cap f) : g < w.heap.size := h.ans.lt g rfl
theorem QR.cell {w : World} {lo g n cap : Nat} {f : Nat → Nat} (h : QR w lo g n cap f) (j : Nat) (hj : j < n) : w.cell? ⟨g, j, none⟩ = some (.int .i64 (f j : Nat)) := by
  rw [h.ans.own.cellAt j (by omega), zys_at _ _ (by rw [lisN_len]; exact hj), lisN_at n f j hj]
theorem QR.free {w : World} {lo g n cap : Nat} {f : Nat → Nat} (h : QR w lo g n cap f) (j : Nat) : w.frozen? ⟨g, j, none⟩ = false := h.ans.own.frozenAt j
theorem QR.set {w : World} {lo g n cap : Nat} {f : Nat → Nat} (h : QR w lo g n cap f) (j x : Nat) : QR (w.setCell ⟨g, j, none⟩ (.int .i64 (x : Nat))) lo g n cap (updF f j x) := by
  have := (h.ans.own.stored j (.int .i64 (x : Int))).1
  have e : (zys (lisN n f)).set j (.int .i64 (x : Int)) = zys (lisN n (updF f j x)) := by
    rw [← lisN_set]; simp [zys, List.map_set]
  rw [e] at this
  exact ⟨⟨this, h.ans.new⟩⟩
theorem QR.kept {w w' : World} {lo g n cap : Nat} {f : Nat → Nat} {o : Option Nat} (h : QR w lo g n cap f) (hg : w.grownBy w' o) (hne : some g ≠ o) : QR w' lo g n cap f :=
  ⟨h.ans.kept hg (.inr (by simpa [Value.ownBlock] using hne))⟩
theorem QR.keep {w w' : World} {lo g n cap : Nat} {f : Nat → Nat} (h : QR w lo g n cap f) (hg : w.grownBy w' none) : QR w' lo g n cap f := h.kept hg (by simp)
theorem i64_or_nat (a b : Nat) (ha : a < 2 ^ 63) (hb : b < 2 ^ 63) : bits .or .i64 (a : Int) (b : Int) = ((a ||| b : Nat) : Int) := by
  have hx : a ||| b < 2 ^ 63 := Nat.or_lt_two_pow (by omega) (by omega)
  show IntKind.i64.wrap ((BitVec.ofInt 64 (a : Int) ||| BitVec.ofInt 64 (b : Int)).toNat : Int) = _
  rw [BitVec.toNat_or, ofInt_i64 a ha, ofInt_i64 b hb, wrap_i64_in _ (by omega) (by omega)]
theorem wrap64_nat (a : Nat) (ha : a < 2 ^ 63) : wrap64 (a : Int) = (a : Int) := by
  unfold wrap64; omega
theorem mask32 (a : Nat) (ha : a < 2 ^ 63) : bits .and .i64 (a : Int) 4294967295 = ((a % 4294967296 : Nat) : Int) := by
  have := i64_and_nat a 4294967295 ha (by decide)
  rw [show ((4294967295 : Nat) : Int) = 4294967295 from rfl] at this
  rw [this, Nat.and_two_pow_sub_one_eq_mod a 32]
theorem rturn_val (x k : Nat) (hx : x < 4294967296) (hk : k < 18) : bits .and .i64 (bits .or .i64 (wrap64 ((x : Int) * 2 ^ k)) ((x : Int) / 2 ^ (32 - k))) 4294967295 = ((rotN x k : Nat) : Int) := by
  have h0 : 2 ^ k ≤ 2 ^ 17 := Nat.pow_le_pow_right (by decide) (by omega)
  have h1 : (x : Int) * 2 ^ k = ((x * 2 ^ k : Nat) : Int) := by
    rw [Int.natCast_mul, Int.natCast_pow]; rfl
  have h2 : (x : Int) / 2 ^ (32 - k) = ((x / 2 ^ (32 - k) : Nat) : Int) := by
    rw [Int.natCast_ediv, Int.natCast_pow]; rfl
  have h3 : x / 2 ^ (32 - k) < 4294967296 := Nat.lt_of_le_of_lt (Nat.div_le_self _ _) hx
  have h4 : x * 2 ^ k < 2 ^ 63 := by
    have : x * 2 ^ k ≤ 4294967296 * 2 ^ 17 := Nat.mul_le_mul (by omega) h0
    omega
  have h5 : x * 2 ^ k ||| x / 2 ^ (32 - k) < 2 ^ 63 := Nat.or_lt_two_pow h4 (by omega)
  rw [h1, h2, wrap64_nat _ h4, i64_or_nat _ _ h4 (by omega), mask32 _ h5]
  unfold rotN
  rw [Nat.shiftLeft_eq, Nat.shiftRight_eq_div_pow]
theorem turned_any (x k : Nat) (hx : x < 4294967296) (hk : k < 18) (w : World) :
    Calls Tryd.prog 55 #[.int .i64 x, .int .i64 k] w fun e w' => e = .returned (.int .i64 (rotN x k : Nat)) ∧ ∃ m, w' = w.drewN m := by
  have e1 := rturn_val x k hx hk
  have i0 : (k : Int) < 64 := by omega
  have i1 : (0 : Int) ≤ 32 - (k : Int) := by omega
  have i3 : (0 : Int) ≤ (k : Int) := by omega
  go_enter Tryd.func55, Tryd.ntmps55
  go_wp2
  go_quiet (fail)
  go_wp2
  go_ret
  exact ⟨by simp [e1], nq, rfl⟩
end Go.Proofs.YtlaiocefbhoccaaDoor
