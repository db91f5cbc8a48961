import Derived.Test.YtmfgnpbocpdeiaaDoorGP
namespace Go.Proofs.YtmfgnpbocpdeiaaDoor
set_option maxRecDepth 100000
set_option linter.unusedVariables false
set_option linter.unusedSimpArgs false
open GF

/-- the value of a list, whatever it holds -/
def gv (P : List Nat) (x : GF) : GF := ⟨atL P x.v % 256, Nat.mod_lt _ (by decide)⟩
theorem gv_v {P : List Nat} (hP : IsB P) (x : GF) : (gv P x).v = atL P x.v := Nat.mod_eq_of_lt (horN_lt hP x.v _)
theorem gv_mul {P Q : List Nat} (hP : IsB P) (hQ : IsB Q) (h1 : P.length ≤ 512) (h2 : Q.length ≤ 512) (x : GF) : gv (timR P Q) x = gv P x * gv Q x := by
  apply GF.ext
  rw [gv_v (isB_timR hP hQ), at_times hP hQ x.v x.h h1 h2]
  show _ = Fld.mul (gv P x).v (gv Q x).v
  rw [gv_v hP, gv_v hQ]
theorem gv_add {P Q : List Nat} (hP : IsB P) (hQ : IsB Q) (x : GF) : gv (trimL (sumL P Q)) x = gv P x + gv Q x := by
  apply GF.ext
  rw [gv_v (isB_trimL (isB_sumL hP hQ)), Go.Proofs.YtmfgnpbocpdeiaaDoor.at_sum hP hQ x.v x.h]
  show _ = (gv P x).v ^^^ (gv Q x).v
  rw [gv_v hP, gv_v hQ]
theorem gv_congr {P Q : List Nat} (hP : IsB P) (hQ : IsB Q) (h : ∀ i, nth P i = nth Q i) (x : GF) : gv P x = gv Q x := by
  apply GF.ext; rw [gv_v hP, gv_v hQ]; exact atL_congr hP hQ x.v x.h h
theorem gv_isP {P : List Nat} (hP : IsB P) : IsP (gv P) P.length := ⟨P, hP, Nat.le_refl _, fun x => gv_v hP x⟩
theorem gv_over {P Q : List Nat} (hP : IsB P) (hQ : IsB Q) (h1 : P.length ≤ 512) (h2 : Q.length ≤ 512) (hz : trimN Q Q.length ≠ 0) (x : GF) : gv P x = gv (ovQ P Q) x * gv Q x + gv (ovT P Q) x := by
  have HS := div_sum hP hQ h1 h2 hz
  have hq := ovQ_small (P := P) hz
  have hQB := isB_ovQ hP hQ
  have hTB := isB_ovT hP hQ
  have e : gv (trimL (sumL P [])) x = gv P x := gv_congr (isB_trimL (isB_sumL hP (fun x hx => by cases hx))) hP (fun i => by rw [nth_trimL, nth_sumL, nth_nil, Nat.xor_zero]) x
  rw [← e, ← HS, gv_add (isB_timR hQB hQ) hTB, gv_mul hQB hQ (by omega) h2]
theorem gv_nil (x : GF) : gv [] x = 0 := rfl
theorem gv_one (x : GF) : gv [1] x = 1 := by
  apply GF.ext
  rw [gv_v (fun y hy => by simp at hy; omega)]
  exact at_single 1 (by decide) x.v x.h

/-! Euclid's way, by values -/
structure WInv (c : Nat) (T : GF → GF) (l r b f : List Nat) : Prop where
  det : ∀ x, gv f x * gv l x + gv b x * gv r x = pw x c
  bez : ∃ g gb : GF → GF, IsP g f.length ∧ IsP gb f.length ∧ ∀ x, gv r x = gv f x * T x + pw x c * g x ∧ gv l x = gv b x * T x + pw x c * gb x
theorem WInv.step {c h : Nat} {T : GF → GF} {l r b f : List Nat} (i : WInv c T l r b f) (e : EInv c h l r b f) (hc : c ≤ 64) (hr : c + h + 2 ≤ 2 * r.length) : WInv c T r (ovT l r) f (trimL (sumL b (timR (ovQ l r) f))) := by
  have tr := e.top hr
  have f0 := e.tf.1
  have h0 := e.sum
  have h9 := e.lt
  have r0 := tr.1
  have h10 := e.lb
  obtain ⟨q1, q2, q3, q4⟩ := over_top e.bl e.br e.tl tr (by omega) (by omega)
  have hQB := isB_ovQ e.bl e.br
  obtain ⟨t1, t2⟩ := top_times hQB e.bf q1 e.tf (by omega) (by omega)
  obtain ⟨s1, s2⟩ := top_sum (A := b) t2 (by omega)
  have hv : ∀ x, gv (ovT l r) x = gv l x + gv (ovQ l r) x * gv r x := fun x => by
    have := gv_over e.bl e.br (by omega) (by omega) (top_z tr) x
    have h2 := eq_add this
    rw [← h2]
  have hf : ∀ x, gv (trimL (sumL b (timR (ovQ l r) f))) x = gv b x + gv (ovQ l r) x * gv f x := fun x => by
    rw [gv_add e.bb (isB_timR hQB e.bf), gv_mul hQB e.bf (by omega) (by omega)]
  obtain ⟨g, gb, g1, g2, g3⟩ := i.bez
  refine ⟨fun x => ?_, fun x => gb x + gv (ovQ l r) x * g x, g, ?_, ?_, fun x => ⟨?_, ?_⟩⟩
  · rw [hv x, hf x, ← i.det x]
    generalize gv b x = B; generalize gv (ovQ l r) x = Q; generalize gv f x = F; generalize gv r x = R; generalize gv l x = L
    rw [add_mul, mul_add]
    have e1 : Q * F * R = F * (Q * R) := by ac_rfl
    rw [e1]
    have e2 : B * R + F * (Q * R) + (F * L + F * (Q * R)) = F * L + B * R + (F * (Q * R) + F * (Q * R)) := by ac_rfl
    rw [e2, add_self, add_zero]
  · exact isP_add (g2.le (by omega)) ((isP_mul (gv_isP hQB) g1 (by omega) (by omega)).le (by omega))
  · exact g1.le (by omega)
  · show _ = _ + pw x c * (gb x + gv (ovQ l r) x * g x)
    rw [hv x, hf x]
    obtain ⟨k1, k2⟩ := g3 x
    rw [k1, k2]
    generalize gv b x = B; generalize gv (ovQ l r) x = Q; generalize gv f x = F; generalize g x = G1; generalize gb x = G2; generalize T x = T1; generalize pw x c = X
    simp only [add_mul, mul_add]
    have e1 : Q * (F * T1) = Q * F * T1 := by ac_rfl
    have e2 : Q * (X * G1) = X * (Q * G1) := by ac_rfl
    rw [e1, e2]
    ac_rfl
  · exact (g3 x).1
theorem euc_w {c h : Nat} {T : GF → GF} (hc : c ≤ 64) : ∀ (k : Nat) (l r b f : List Nat), EInv c h l r b f → WInv c T l r b f → r.length ≤ k → ∃ l' b', EInv c h l' (euc c h k l r b f).2 b' (euc c h k l r b f).1 ∧ WInv c T l' (euc c h k l r b f).2 b' (euc c h k l r b f).1 ∧ 2 * (euc c h k l r b f).2.length < c + h + 2 := by
  intro k
  induction k with
  | zero => intro l r b f e i hk; exact ⟨l, b, e, i, by show 2 * r.length < _; omega⟩
  | succ k ih =>
    intro l r b f e i hk
    by_cases hr : c + h + 2 ≤ 2 * r.length
    · obtain ⟨e2, h2⟩ := e.step hc hr
      have := ih _ _ _ _ e2 (i.step e hc hr) (by omega)
      simp only [euc, if_pos hr]
      exact this
    · simp only [euc, if_neg hr]
      exact ⟨l, b, e, i, by omega⟩
theorem w_start (c : Nat) (K : List Nat) (hK : IsB K) : WInv c (gv K) (List.replicate c 0 ++ [1]) K [] [1] := by
  have hx : ∀ x, gv (List.replicate c 0 ++ [1]) x = pw x c := fun x => by
    apply GF.ext
    show (gv (xc c) x).v = _
    rw [gv_v (isB_xc c)]
    exact at_xc c x
  refine ⟨fun x => ?_, fun _ => 0, fun _ => 1, (isP_zero 0).le (by simp), (isP_const 1), fun x => ⟨?_, ?_⟩⟩
  · rw [gv_one, gv_nil, hx, one_mul, zero_mul, add_zero]
  · rw [gv_one, one_mul, mul_zero, add_zero]
  · rw [hx, gv_nil, zero_mul, zero_add, mul_one]
end Go.Proofs.YtmfgnpbocpdeiaaDoor
