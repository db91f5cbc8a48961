import Derived.Test.YtdpgblojdppfeaaFNum
namespace Go.Proofs.Ytdpgblojdppfeaa
open Go.RowKit
set_option maxRecDepth 100000

/-! the contracts once more, over whole numbers: they fit whatever stands in a slot -/
def mulI (x y : Int) : Int := (Fld.mul x.toNat y.toNat : Nat)
theorem mulI_nat (a b : Nat) : mulI a b = (Fld.mul a b : Nat) := by simp [mulI]
theorem mulI_bd (x y : Int) (hx : 0 ≤ x) (hx' : x < 256) : 0 ≤ mulI x y ∧ mulI x y < 256 := by
  have := Fld.mul_lt y.toNat (a := x.toNat) (by omega)
  unfold mulI; omega
def divI (x y : Int) : Int := (divV x.toNat y.toNat : Nat)
def nzB (x : Int) : Bool := !(x.toNat == 0)
theorem divV_lt (a b : Nat) (ha : a < 256) : divV a b < 256 := by
  unfold divV; split
  · decide
  · exact Fld.mul_lt _ ha
theorem divI_bd (x y : Int) (hx : 0 ≤ x) (hx' : x < 256) : 0 ≤ divI x y ∧ divI x y < 256 := by
  have := divV_lt x.toNat y.toNat (by omega)
  unfold divI; omega
def logV (a : Nat) : Nat := (Fld.logN a 255).getD 0
theorem logN_none (a k : Nat) (h : ∀ m, m < k → Fld.dblN m 1 ≠ a) : Fld.logN a k = none := by
  induction k with
  | zero => rfl
  | succ k ih =>
    unfold Fld.logN
    rw [ih (fun m hm => h m (by omega))]
    exact if_neg (h k (by omega))
theorem logN_some (a k n : Nat) (hn : n < k) (e : Fld.dblN n 1 = a) (h : ∀ m, m < n → Fld.dblN m 1 ≠ a) : Fld.logN a k = some n := by
  induction k with
  | zero => omega
  | succ k ih =>
    unfold Fld.logN
    by_cases hk : n < k
    · rw [ih hk]
    · obtain rfl : n = k := by omega
      rw [logN_none a n h]
      exact if_pos e
theorem logV_zero : logV 0 = 0 := by
  unfold logV
  rw [logN_none 0 255 (fun m _ => Fld.pow_ne_zero m)]
  rfl
theorem logV_some (a : Nat) (ha : a < 256) (h0 : a ≠ 0) : logV a < 255 ∧ Fld.dblN (logV a) 1 = a := by
  obtain ⟨n, hn, e⟩ := Fld.some_log ha h0
  unfold logV
  rw [logN_some a 255 n hn e (fun m hm => by rw [← e]; exact Fld.pow_inj hm hn)]
  exact ⟨hn, e⟩
theorem logV_pow (n : Nat) (hn : n < 255) : logV (Fld.dblN n 1) = n := by
  obtain ⟨h1, h2⟩ := logV_some (Fld.dblN n 1) (Fld.dblN_lt n (by decide)) (Fld.pow_ne_zero n)
  rcases Nat.lt_trichotomy (logV (Fld.dblN n 1)) n with h | h | h
  · exact absurd h2 (Fld.pow_inj h hn)
  · exact h
  · exact absurd h2.symm (Fld.pow_inj h h1)
def logI (x : Int) : Int := (logV x.toNat : Nat)
theorem divV_back (a b : Nat) (ha : a < 256) (hb : b < 256) (h0 : b ≠ 0) : Fld.mul (divV a b) b = a := by
  unfold divV; rw [if_neg h0, Fld.mul_assoc ha (Fld.inv_lt hb) hb, Fld.inv_mul hb h0, Fld.mul_one ha]
end Go.Proofs.Ytdpgblojdppfeaa
