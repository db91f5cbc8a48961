import Derived.Test.YtmfgnpbocpdeiaaDoorGE
namespace Go.Proofs.YtmfgnpbocpdeiaaDoor
set_option maxRecDepth 100000
set_option linter.unusedVariables false
set_option linter.unusedSimpArgs false
open GF

def gn (P : List Nat) (i : Nat) : GF := ⟨nth P i % 256, Nat.mod_lt _ (by decide)⟩
theorem gn_v {P : List Nat} (hP : IsB P) (i : Nat) : (gn P i).v = nth P i := Nat.mod_eq_of_lt (hP.nth i)
theorem gv_sum {P : List Nat} (hP : IsB P) (x : GF) (n : Nat) (hn : P.length ≤ n) : gv P x = sum n (fun i => gn P i * pw x i) := by
  apply GF.ext
  rw [gv_v hP, sum_v, atL_ev hP x.v n x.h hn]
  refine xsum_congr n (fun i _ => ?_)
  show _ = Fld.mul (gn P i).v _
  rw [gn_v hP]; rfl
/-- the weight of place p of a word of n bytes, and where a locator is nought for it -/
def wt (n p : Nat) : GF := al ((n : Int) - 1 - p)
def xp (n p : Nat) : GF := al ((p : Int) + 1 - n)
theorem wt_xp (n p : Nat) : wt n p * xp n p = 1 := by
  unfold wt xp; rw [← al_add]
  have e : (n : Int) - 1 - p + ((p : Int) + 1 - n) = 0 := by omega
  rw [e]; rfl
theorem wt_ne (n p : Nat) : wt n p ≠ 0 := al_ne _
theorem xp_ne (n p : Nat) : xp n p ≠ 0 := al_ne _
theorem lin_at (n p : Nat) : 1 + wt n p * xp n p = 0 := by rw [wt_xp]; exact add_self 1
theorem lin_ne {n p q : Nat} (hn : n ≤ 255) (hp : p < n) (hq : q < n) (h : p ≠ q) : 1 + wt n q * xp n p ≠ 0 := by
  intro e
  have e1 := add_eq_zero e
  unfold wt xp at e1
  rw [← al_add, ← al_zero] at e1
  have := al_inj e1
  omega
theorem rev_val {W : List Nat} (hW : IsB W) (n : Nat) (hn : W.length = n) (k : Nat) : gv W.reverse (al ((k : Int) + 1)) = sum n (fun p => gn W p * pw (wt n p) (k + 1)) := by
  rw [gv_sum (isB_reverse hW) _ n (by rw [List.length_reverse]; omega), sum_rev]
  refine sum_congr fun p hp => ?_
  have e1 : gn W.reverse (n - 1 - p) = gn W p := by
    apply GF.ext
    rw [gn_v (isB_reverse hW), gn_v hW, nth_reverse W _ (by omega)]
    congr 1; omega
  rw [e1]
  congr 1
  unfold wt
  rw [← al_pw, ← al_pw]
  congr 1
  have : ((n - 1 - p : Nat) : Int) = (n : Int) - 1 - p := by omega
  rw [this, Int.mul_comm]
  congr 1
theorem syn_val {W V : List Nat} (hW : IsB W) (hV : IsB V) (n c : Nat) (h1 : W.length = n) (h2 : V.length = n) (hc : valL V c = []) (j : Nat) (hj : j < c) :
    gn (synL W c) j = sum n (fun p => (gn W p + gn V p) * pw (wt n p) (j + 1)) := by
  have e1 : gn (synL W c) j = gv W.reverse (al ((j : Int) + 1)) := by
    apply GF.ext
    rw [gn_v (isB_synL hW c), nth_synL W c j hj, gv_v (isB_reverse hW)]; rfl
  have e2 : gv V.reverse (al ((j : Int) + 1)) = 0 := by
    apply GF.ext
    rw [gv_v (isB_reverse hV)]
    show atL V.reverse (pow2 ((j : Int) + 1)) = 0
    rw [← nth_synL V c j hj, ← nth_trimL]
    show nth (valL V c) j = 0
    rw [hc]; exact nth_nil j
  rw [rev_val hV n h2 j] at e2
  rw [e1, rev_val hW n h1 j, ← add_zero (sum n fun p => gn W p * pw (wt n p) (j + 1)), ← e2, ← sum_add]
  exact sum_congr fun p _ => (add_mul _ _ _).symm
theorem val_S {W V : List Nat} (hW : IsB W) (hV : IsB V) (n c : Nat) (h1 : W.length = n) (h2 : V.length = n) (hc : valL V c = []) (x : GF) :
    gv (valL W c) x = sum n (fun p => (gn W p + gn V p) * wt n p * sum c (fun j => pw (wt n p * x) j)) := by
  have e0 : gv (valL W c) x = gv (synL W c) x := gv_congr (isB_valL hW c) (isB_synL hW c) (fun i => nth_trimL _ i) x
  rw [e0, gv_sum (isB_synL hW c) x c (by rw [synL_len]; exact Nat.le_refl _)]
  have e1 : sum c (fun i => gn (synL W c) i * pw x i) = sum c (fun j => sum n (fun p => (gn W p + gn V p) * wt n p * pw (wt n p * x) j)) := by
    refine sum_congr fun j hj => ?_
    rw [syn_val hW hV n c h1 h2 hc j hj, sum_mul]
    refine sum_congr fun p _ => ?_
    rw [mul_pw, pw_succ]
    ac_rfl
  rw [e1, sum_swap]
  exact sum_congr fun p _ => (mul_sum _ _ _).symm

/-! products over sets of places -/
def loc (n : Nat) (B : Nat → Bool) (x : GF) : GF := prod n (fun p => if B p then 1 + wt n p * x else 1)
def less (B : Nat → Bool) (q p : Nat) : Bool := p != q && B p
theorem loc_out {n : Nat} (B : Nat → Bool) (q : Nat) (hq : q < n) (hB : B q = true) (x : GF) : loc n B x = (1 + wt n q * x) * loc n (less B q) x := by
  unfold loc
  rw [prod_out _ q hq, hB]
  simp only [if_true]
  congr 1
  refine prod_congr fun p _ => ?_
  unfold less
  by_cases e : p = q
  · subst e; simp
  · simp [e]
theorem cn_congr {B C : Nat → Bool} (n : Nat) (h : ∀ i, i < n → B i = C i) : cn B n = cn C n := by
  induction n with
  | zero => rfl
  | succ n ih => unfold cn; rw [h n (by omega), ih (fun i hi => h i (by omega))]
theorem cn_less (B : Nat → Bool) (q n : Nat) (hq : q < n) (hB : B q = true) : cn (less B q) n + 1 = cn B n := by
  induction n with
  | zero => omega
  | succ n ih =>
    by_cases e : q = n
    · subst e
      have e1 : cn (less B q) q = cn B q := cn_congr q (fun i hi => by unfold less; simp [show i ≠ q by omega])
      simp only [cn, hB, if_true]
      rw [show less B q q = false by unfold less; simp, e1]
      simp
    · have e2 : less B q n = B n := by unfold less; simp [show n ≠ q by omega]
      have := ih (by omega)
      simp only [cn, e2]
      split <;> omega
theorem loc_zero {n : Nat} (B : Nat → Bool) (q : Nat) (hq : q < n) (hB : B q = true) : loc n B (xp n q) = 0 := by
  rw [loc_out B q hq hB, lin_at, zero_mul]
theorem loc_ne {n : Nat} (hn : n ≤ 255) (B : Nat → Bool) (q : Nat) (hq : q < n) (hB : B q = false) : loc n B (xp n q) ≠ 0 := by
  unfold loc
  refine prod_ne fun p hp => ?_
  by_cases e : B p = true
  · rw [e, if_pos rfl]
    exact lin_ne hn hq hp (fun h => by rw [h, e] at hB; cases hB)
  · rw [if_neg e]; exact v_ne (by decide)
theorem loc_isP (n : Nat) (hn : n ≤ 255) (B : Nat → Bool) : IsP (loc n B) (cn B n + 1) := isP_prod B (wt n) n (by omega)

/-- what is wrong, seen by the locator -/
def ome (n : Nat) (E : Nat → GF) (B : Nat → Bool) (x : GF) : GF := sum n (fun p => E p * wt n p * loc n (less B p) x)
def ome2 (n c : Nat) (E : Nat → GF) (B : Nat → Bool) (x : GF) : GF := sum n (fun p => E p * wt n p * pw (wt n p) c * loc n (less B p) x)
theorem key_eq (n c : Nat) (E : Nat → GF) (B : Nat → Bool) (hE : ∀ p, p < n → B p = false → E p = 0) (x : GF) :
    sum n (fun p => E p * wt n p * sum c (fun j => pw (wt n p * x) j)) * loc n B x = ome n E B x + pw x c * ome2 n c E B x := by
  unfold ome ome2
  rw [sum_mul, mul_sum, ← sum_add]
  refine sum_congr fun p hp => ?_
  by_cases hB : B p = true
  · rw [loc_out B p hp hB]
    have g := geo (wt n p * x) c
    have e1 : E p * wt n p * sum c (fun j => pw (wt n p * x) j) * ((1 + wt n p * x) * loc n (less B p) x) = E p * wt n p * loc n (less B p) x * ((1 + wt n p * x) * sum c (fun j => pw (wt n p * x) j)) := by ac_rfl
    rw [e1, g, mul_add, mul_one, mul_pw]
    congr 1
    ac_rfl
  · have h0 := hE p hp (by simpa using hB)
    rw [h0]
    simp only [zero_mul, mul_zero, add_zero]
theorem ome_isP (n : Nat) (hn : n ≤ 255) (E : Nat → GF) (B : Nat → Bool) (hE : ∀ p, p < n → B p = false → E p = 0) : IsP (ome n E B) (cn B n) := by
  refine isP_sum fun p hp => ?_
  by_cases hB : B p = true
  · have h1 := cn_less B p n hp hB
    have h2 := isP_mul (isP_const (E p * wt n p)) (loc_isP n hn (less B p)) (by omega) (by have := cn_le (less B p) n; omega)
    exact h2.le (by omega)
  · exact isP_congr (isP_zero _) (fun x => by rw [hE p hp (by simpa using hB), zero_mul, zero_mul])
theorem ome2_isP (n c : Nat) (hn : n ≤ 255) (E : Nat → GF) (B : Nat → Bool) (hE : ∀ p, p < n → B p = false → E p = 0) : IsP (ome2 n c E B) (cn B n) := by
  refine isP_sum fun p hp => ?_
  by_cases hB : B p = true
  · have h1 := cn_less B p n hp hB
    have h2 := isP_mul (isP_const (E p * wt n p * pw (wt n p) c)) (loc_isP n hn (less B p)) (by omega) (by have := cn_le (less B p) n; omega)
    exact h2.le (by omega)
  · exact isP_congr (isP_zero _) (fun x => by rw [hE p hp (by simpa using hB), zero_mul, zero_mul, zero_mul])
theorem ome_at {n : Nat} (E : Nat → GF) (B : Nat → Bool) (hE : ∀ p, p < n → B p = false → E p = 0) (q : Nat) (hq : q < n) (hB : B q = true) :
    ome n E B (xp n q) = E q * wt n q * loc n (less B q) (xp n q) := by
  unfold ome
  refine sum_one q hq fun p hp hpq => ?_
  by_cases hBp : B p = true
  · rw [loc_zero (less B p) q hq (by unfold less; simp [hB]; omega), mul_zero]
  · rw [hE p hp (by simpa using hBp), zero_mul, zero_mul]
theorem less_ne {n : Nat} (hn : n ≤ 255) (B : Nat → Bool) (q : Nat) (hq : q < n) : loc n (less B q) (xp n q) ≠ 0 := loc_ne hn _ q hq (by unfold less; simp)
end Go.Proofs.YtmfgnpbocpdeiaaDoor
