import Derived.Test.YtmfgnpbocpdeiaaDoorGM
namespace Go.Proofs.YtmfgnpbocpdeiaaDoor
set_option maxRecDepth 100000
set_option linter.unusedVariables false
set_option linter.unusedSimpArgs false
open GF

/-- which places are wrong and no holes -/
def wrU (W V : List Nat) (H : List Bool) (p : Nat) : Bool := (nth W p != nth V p) && !bat H p
def wrE (W V : List Nat) (p : Nat) : GF := gn W p + gn V p
theorem wrE_v {W V : List Nat} (hW : IsB W) (hV : IsB V) (p : Nat) : (wrE W V p).v = nth W p ^^^ nth V p := by
  show (gn W p).v ^^^ (gn V p).v = _
  rw [gn_v hW, gn_v hV]
theorem wrE_zero {W V : List Nat} (hW : IsB W) (hV : IsB V) (p : Nat) : wrE W V p = 0 ↔ nth W p = nth V p := by
  constructor
  · intro h
    have h2 := congrArg GF.v h
    rw [wrE_v hW hV] at h2
    exact xor_eq h2
  · intro h
    apply GF.ext
    rw [wrE_v hW hV, h, Nat.xor_self]; rfl
theorem near_key {W V : List Nat} (hW : IsB W) (hV : IsB V) (H : List Bool) (n c : Nat) (h1 : W.length = n) (h2 : V.length = n) (h3 : H.length = n) (hn : n ≤ 255) (hc : c ≤ 64) (hv : valL V c = [])
    (he : 2 * cn (wrU W V H) n + cntB H n ≤ c) :
    let B := fun p => wrU W V H p || bat H p
    (valL W c = [] → ∀ p, p < n → nth W p = nth V p) ∧ ∀ p, p < n → mby (accA (valL W c) c H) (accS (valL W c) c H).2 n p = nth W p ^^^ nth V p := by
  intro B
  have hdis : ∀ i, wrU W V H i = true → bat H i = false := fun i hi => by
    unfold wrU at hi
    simp at hi
    exact hi.2
  have hE : ∀ p, p < n → B p = false → wrE W V p = 0 := fun p _ hb => by
    rw [wrE_zero hW hV]
    have hb' : wrU W V H p = false ∧ bat H p = false := by simpa [B] using hb
    have h4 := hb'.1
    unfold wrU at h4
    rw [hb'.2] at h4
    simpa using h4
  obtain ⟨e, hee⟩ : ∃ e, e = cn (wrU W V H) n := ⟨_, rfl⟩
  obtain ⟨h, hhh⟩ : ∃ h, h = cntB H n := ⟨_, rfl⟩
  have hcB : cn B n = e + h := by rw [hee, hhh, cnt_cn]; exact cn_or _ _ n hdis
  rw [← hee, ← hhh] at he
  obtain ⟨K, hK⟩ : ∃ K, K = valL W c := ⟨_, rfl⟩
  have hKB : IsB K := by rw [hK]; exact isB_valL hW c
  have hKl : K.length ≤ c := by rw [hK]; have := trimL_le (synL W c); rw [synL_len] at this; exact this
  have hkey : ∀ x, gv K x * loc n B x = ome n (wrE W V) B x + pw x c * ome2 n c (wrE W V) B x := fun x => by
    rw [hK, val_S hW hV n c h1 h2 hv x]
    exact key_eq n c (wrE W V) B hE x
  have hO := ome_isP n hn (wrE W V) B hE
  have hO2 := ome2_isP n c hn (wrE W V) B hE
  rw [hcB] at hO hO2
  have hOat := fun q hq hB => ome_at (n := n) (wrE W V) B hE q hq hB
  rw [← hK]
  constructor
  · intro hK0 p hp
    have hz : ∀ x, ome n (wrE W V) B x = 0 := by
      refine isP_all hO (by omega) c (e + h) hO2 (by omega) (by omega) (fun x => ?_)
      have hx := hkey x
      rw [hK0, gv_nil, zero_mul] at hx
      exact (add_eq_zero hx.symm)
    by_cases hb : B p = true
    · have h5 := hOat p hp hb
      rw [hz] at h5
      rcases mul_eq_zero h5.symm with h6 | h6
      · rcases mul_eq_zero h6 with h7 | h7
        · exact (wrE_zero hW hV p).1 h7
        · exact absurd h7 (wt_ne n p)
      · exact absurd h6 (less_ne hn B p hp)
    · exact (wrE_zero hW hV p).1 (hE p hp (by simpa using hb))
  · -- Euclid's way
    have hGB := isB_holN H H.length H.length
    have hGl := holN_len H H.length H.length
    obtain ⟨G, hG⟩ : ∃ G, G = holN H H.length H.length := ⟨_, rfl⟩
    rw [← hG] at hGB hGl
    rw [h3, ← hhh] at hGl
    have hGv : ∀ x, gv G x = loc n (bat H) x := fun x => by rw [hG, hol_val H H.length H.length (by omega) x, h3]; rfl
    have hTB := isB_timR hKB hGB
    have hTl := timR_short hKB hGB
    obtain ⟨M, hM⟩ : ∃ M, M = accM K c H := ⟨_, rfl⟩
    have hMe : M = trimL ((timR K G).take c) := by rw [hM, hG]; rfl
    have hMB : IsB M := by rw [hMe]; exact isB_trimL (isB_take hTB c)
    have hMl : M.length ≤ c := by
      rw [hMe]
      have h4 := trimL_le ((timR K G).take c)
      rw [List.length_take] at h4
      omega
    have hMv : ∀ x, gv K x * gv G x = gv M x + pw x c * gv ((timR K G).drop c) x := fun x => by
      rw [← gv_mul hKB hGB (by omega) (by omega), gv_split hTB c x]
      congr 1
      rw [hMe]
      exact gv_congr (isB_take hTB c) (isB_trimL (isB_take hTB c)) (fun i => (nth_trimL _ i).symm) x
    have hDB := isB_drop hTB c
    have hDl : ((timR K G).drop c).length ≤ h := by rw [List.length_drop]; omega
    obtain ⟨l', b', E1, W1, E2⟩ := euc_w (T := gv M) hc M.length (List.replicate c 0 ++ [1]) M [] [1] (euc_start (h := h) hMB (by rw [hMe]; exact trim_top _) hMl (by omega)) (w_start c M hMB) (Nat.le_refl _)
    have hS : euc c h M.length (List.replicate c 0 ++ [1]) M [] [1] = accS K c H := by rw [hM, hhh, ← h3]; rfl
    rw [hS] at E1 W1 E2
    obtain ⟨f, hf⟩ : ∃ f, f = (accS K c H).1 := ⟨_, rfl⟩
    obtain ⟨r, hr⟩ : ∃ r, r = (accS K c H).2 := ⟨_, rfl⟩
    have hA : accA K c H = timR f G := by rw [hf, hG]; rfl
    rw [hA, ← hr]
    rw [← hf, ← hr] at E1 W1
    rw [← hr] at E2
    have i1 := E1.sum
    have i2 := E1.big
    have f0 := E1.tf.1
    have hfl : 2 * f.length ≤ c - h + 2 := by omega
    obtain ⟨g, gb, g1, _, g3⟩ := W1.bez
    have hAB := isB_timR E1.bf hGB
    have hAl := timR_short E1.bf hGB
    have hAv : ∀ x, gv (timR f G) x = gv f x * loc n (bat H) x := fun x => by rw [gv_mul E1.bf hGB (by omega) (by omega), hGv]
    have hLB : ∀ x, loc n B x = loc n (wrU W V H) x * loc n (bat H) x := fun x => loc_or n _ _ hdis x
    have hU := loc_isP n hn (wrU W V H)
    rw [← hee] at hU
    -- the two ways to say what is wrong are one
    have hN : ∀ x, loc n (wrU W V H) x * gv r x + gv f x * ome n (wrE W V) B x = 0 := by
      refine isP_all (d := c) (isP_add ((isP_mul hU (gv_isP E1.br) (by omega) (by omega)).le (by omega)) ((isP_mul (gv_isP E1.bf) hO (by omega) (by omega)).le (by omega))) (by omega) c (f.length + e + h + 2)
        (M := fun x => loc n (wrU W V H) x * g x + (gv f x * loc n (wrU W V H) x * gv ((timR K G).drop c) x + gv f x * ome2 n c (wrE W V) B x))
        (isP_add ((isP_mul hU g1 (by omega) (by omega)).le (by omega)) (isP_add ((isP_mul (isP_mul (gv_isP E1.bf) hU (by omega) (by omega)) (gv_isP hDB) (by omega) (by omega)).le (by omega)) ((isP_mul (gv_isP E1.bf) hO2 (by omega) (by omega)).le (by omega)))) (by omega) (Nat.le_refl _) (fun x => ?_)
      have k1 := (g3 x).1
      have k2 := hkey x
      have k3 := hMv x
      rw [hGv] at k3
      have k4 : ome n (wrE W V) B x = gv K x * loc n B x + pw x c * ome2 n c (wrE W V) B x := by
        rw [k2, add_assoc, add_self, add_zero]
      rw [hLB] at k4
      have k5 : gv K x * (loc n (wrU W V H) x * loc n (bat H) x) = loc n (wrU W V H) x * (gv M x + pw x c * gv ((timR K G).drop c) x) := by
        rw [← k3]; ac_rfl
      rw [k5] at k4
      rw [k4, k1]
      show _ = pw x c * (loc n (wrU W V H) x * g x + (gv f x * loc n (wrU W V H) x * gv ((timR K G).drop c) x + gv f x * ome2 n c (wrE W V) B x))
      generalize loc n (wrU W V H) x = S; generalize gv f x = F; generalize gv M x = T; generalize g x = G1; generalize pw x c = X; generalize gv ((timR K G).drop c) x = D; generalize ome2 n c (wrE W V) B x = O
      simp only [mul_add]
      have a1 : S * (F * T) = F * (S * T) := by ac_rfl
      rw [a1]
      have a2 : F * (S * T) + S * (X * G1) + (F * (S * T) + F * (S * (X * D)) + F * (X * O)) = (F * (S * T) + F * (S * T)) + (S * (X * G1) + (F * (S * (X * D)) + F * (X * O))) := by ac_rfl
      rw [a2, add_self, zero_add]
      ac_rfl
    have hN' : ∀ x, loc n (wrU W V H) x * gv r x = gv f x * ome n (wrE W V) B x := fun x => add_eq_zero (hN x)
    have hdet : ∀ x, x ≠ 0 → ¬ (gv f x = 0 ∧ gv r x = 0) := fun x hx hh => by
      have := W1.det x
      rw [hh.1, hh.2, zero_mul, mul_zero, add_zero] at this
      exact pw_ne hx c this.symm
    intro p hp
    rw [← wrE_v hW hV p]
    have hx0 := xp_ne n p
    have hpt : ptX n p = (xp n p).v := rfl
    unfold mby
    rw [hpt]
    by_cases hb : B p = true
    · -- a place that is wrong or doubtful
      have hA0 : gv (timR f G) (xp n p) = 0 := by
        rw [hAv]
        by_cases hh : bat H p = true
        · rw [loc_zero (bat H) p hp hh, mul_zero]
        · have hu : wrU W V H p = true := by
            have hb2 : wrU W V H p = true ∨ bat H p = true := by simpa [B] using hb
            exact hb2.resolve_right hh
          have k := hN' (xp n p)
          rw [loc_zero _ p hp hu, zero_mul, hOat p hp hb] at k
          rcases mul_eq_zero k.symm with k1 | k1
          · rw [k1, zero_mul]
          · exfalso
            rcases mul_eq_zero k1 with k2 | k2
            · rcases mul_eq_zero k2 with k3 | k3
              · have := (wrE_zero hW hV p).1 k3
                unfold wrU at hu
                rw [this] at hu
                simp at hu
              · exact wt_ne n p k3
            · exact less_ne hn B p hp k2
      have hA0' : atL (timR f G) (xp n p).v = 0 := by rw [← gv_v hAB, hA0]; rfl
      rw [if_pos hA0']
      obtain ⟨F, F1, F2, F3⟩ := take_zero hAB (by omega) (wt n p) (xp n p) (wt_xp n p) hA0
      have hoff : ∀ y, y ≠ xp n p → 1 + wt n p * y ≠ 0 := fun y hy e => by
        have e1 := add_eq_zero e
        rw [← wt_xp n p] at e1
        exact hy (mul_cancel (wt_ne n p) e1).symm
      have hR : F (xp n p) * (wrE W V p * wt n p) = gv r (xp n p) := by
        have hz : F (xp n p) * ome n (wrE W V) B (xp n p) + loc n (less B p) (xp n p) * gv r (xp n p) = 0 := by
          refine isP_off (F := fun y => F y * ome n (wrE W V) B y + loc n (less B p) y * gv r y) (d := 250)
            (isP_add ((isP_mul F1 hO (by omega) (by omega)).le (by omega)) ((isP_mul (loc_isP n hn (less B p)) (gv_isP E1.br) (by have := cn_less B p n hp hb; omega) (by omega)).le (by have := cn_less B p n hp hb; omega))) (by omega) (xp n p) (fun y hy => ?_)
          have k1 : gv (timR f G) y * ome n (wrE W V) B y = loc n B y * gv r y := by
            rw [hAv, hLB]
            have := hN' y
            have a1 : gv f y * loc n (bat H) y * ome n (wrE W V) B y = loc n (bat H) y * (gv f y * ome n (wrE W V) B y) := by ac_rfl
            rw [a1, ← this]; ac_rfl
          rw [F2 y, loc_out B p hp hb] at k1
          have k2 : (1 + wt n p * y) * (F y * ome n (wrE W V) B y + loc n (less B p) y * gv r y) = 0 := by
            rw [mul_add, ← mul_assoc, k1, ← mul_assoc, add_self]
          exact (mul_eq_zero k2).resolve_left (hoff y hy)
        have k := add_eq_zero hz
        rw [hOat p hp hb] at k
        have a1 : F (xp n p) * (wrE W V p * wt n p * loc n (less B p) (xp n p)) = loc n (less B p) (xp n p) * (F (xp n p) * (wrE W V p * wt n p)) := by ac_rfl
        rw [a1] at k
        exact mul_cancel (less_ne hn B p hp) k
      have hdv : gv r (xp n p) = gv (drvL (timR f G)) (xp n p) * wrE W V p := by
        rw [F3, ← hR]; ac_rfl
      have hdn : gv (drvL (timR f G)) (xp n p) ≠ 0 := by
        intro hd
        have hr0 : gv r (xp n p) = 0 := by rw [hdv, hd, zero_mul]
        have hf0 : gv f (xp n p) ≠ 0 := fun e => hdet _ hx0 ⟨e, hr0⟩
        have hF0 : F (xp n p) = 0 := by
          rw [F3] at hd
          exact (mul_eq_zero hd).resolve_left (wt_ne n p)
        by_cases hh : bat H p = true
        · have hz : F (xp n p) + gv f (xp n p) * loc n (less (bat H) p) (xp n p) = 0 := by
            refine isP_off (F := fun y => F y + gv f y * loc n (less (bat H) p) y) (d := 250)
              (isP_add (F1.le (by omega)) ((isP_mul (gv_isP E1.bf) (loc_isP n hn (less (bat H) p)) (by omega) (by have := cn_less (bat H) p n hp hh; rw [← cnt_cn, ← hhh] at this; omega)).le (by have := cn_less (bat H) p n hp hh; rw [← cnt_cn, ← hhh] at this; omega))) (by omega) (xp n p) (fun y hy => ?_)
            have k1 := hAv y
            rw [F2 y, loc_out (bat H) p hp hh] at k1
            have k2 : (1 + wt n p * y) * (F y + gv f y * loc n (less (bat H) p) y) = 0 := by
              rw [mul_add, k1]
              have a1 : gv f y * ((1 + wt n p * y) * loc n (less (bat H) p) y) = (1 + wt n p * y) * (gv f y * loc n (less (bat H) p) y) := by ac_rfl
              rw [a1, add_self]
            exact (mul_eq_zero k2).resolve_left (hoff y hy)
          rw [hF0, zero_add] at hz
          exact mul_ne_zero hf0 (less_ne hn (bat H) p hp) hz
        · rw [hAv] at hA0
          exact hf0 ((mul_eq_zero hA0).resolve_right (loc_ne hn (bat H) p hp (by simpa using hh)))
      have hdB := isB_drvL hAB
      have e1 : atL r (xp n p).v = (gv r (xp n p)).v := (gv_v E1.br _).symm
      have e2 : atL (drvL (timR f G)) (xp n p).v = (gv (drvL (timR f G)) (xp n p)).v := (gv_v hdB _).symm
      rw [e1, e2]
      unfold divV
      rw [if_neg (ne_v hdn), hdv]
      obtain ⟨d, hd⟩ : ∃ d, d = gv (drvL (timR f G)) (xp n p) := ⟨_, rfl⟩
      rw [← hd] at hdn ⊢
      have e3 : d * wrE W V p * inv d = wrE W V p := by
        have a1 : d * wrE W V p * inv d = d * inv d * wrE W V p := by ac_rfl
        rw [a1, mul_inv hdn, one_mul]
      exact congrArg GF.v e3
    · -- a place that is right and not doubtful
      have hb' : wrU W V H p = false ∧ bat H p = false := by simpa [B] using hb
      have hA0 : gv (timR f G) (xp n p) ≠ 0 := by
        intro h0
        rw [hAv] at h0
        have hf0 := (mul_eq_zero h0).resolve_right (loc_ne hn (bat H) p hp hb'.2)
        have k := hN' (xp n p)
        rw [hf0, zero_mul] at k
        have hr0 := (mul_eq_zero k).resolve_left (loc_ne hn _ p hp hb'.1)
        exact hdet _ hx0 ⟨hf0, hr0⟩
      have hA0' : ¬ atL (timR f G) (xp n p).v = 0 := by rw [← gv_v hAB]; exact ne_v hA0
      rw [if_neg hA0', hE p hp (by simpa using hb)]; rfl
end Go.Proofs.YtmfgnpbocpdeiaaDoor
