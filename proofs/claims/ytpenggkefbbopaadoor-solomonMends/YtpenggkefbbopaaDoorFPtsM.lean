import Derived.Test.YtpenggkefbbopaaDoorFPoly
import Derived.Test.YtpenggkefbbopaaDoorFDup
namespace Go.Proofs.YtpenggkefbbopaaDoor
set_option linter.unusedVariables false

/-! the value of a product -/
theorem ev_set {L : List Nat} (hL : IsB L) (N x i d : Nat) (hx : x < 256) (hd : d < 256) (hi : i < L.length) (hN : L.length ≤ N) : ev (nth (L.set i (nth L i ^^^ d))) N x = ev (nth L) N x ^^^ Fld.mul d (Fld.pw x i) := by
  unfold ev
  rw [xsum_one (g := fun k => Fld.mul (nth L k) (Fld.pw x k)) N i (by omega) (fun k hk => by
    show Fld.mul (nth (L.set i (nth L i ^^^ d)) k) (Fld.pw x k) = _
    rw [nth_set _ _ _ _ hi, if_neg (fun h => hk h.symm)])]
  congr 1
  show Fld.mul (nth (L.set i (nth L i ^^^ d)) i) (Fld.pw x i) ^^^ Fld.mul (nth L i) (Fld.pw x i) = _
  rw [nth_set _ _ _ _ hi, if_pos rfl, Fld.mul_xor_left _ (hL.nth i) hd, Nat.xor_comm, ← Nat.xor_assoc, Nat.xor_self, Nat.zero_xor]
theorem ev_addN {L Q : List Nat} (hL : IsB L) (hQ : IsB Q) (N x o c m : Nat) (hx : x < 256) (hc : c < 256) (h : o + m ≤ L.length) (hN : L.length ≤ N) :
    ev (nth (addN L o Q c m)) N x = ev (nth L) N x ^^^ Fld.mul (Fld.mul c (Fld.pw x o)) (ev (nth Q) m x) := by
  have hco : Fld.mul c (Fld.pw x o) < 256 := Fld.mul_lt _ hc
  induction m with
  | zero => show _ = ev (nth L) N x ^^^ Fld.mul _ 0; rw [Fld.mul_zero, Nat.xor_zero]; rfl
  | succ m ih =>
    simp only [addN]
    rw [ev_set (addN_isB hL hQ o c m) N x (o + m) _ hx (Fld.mul_lt _ (hQ.nth m)) (by rw [addN_length]; omega) (by rw [addN_length]; exact hN), ih (by omega), Nat.xor_assoc]
    congr 1
    show _ = Fld.mul (Fld.mul c (Fld.pw x o)) (ev (nth Q) m x ^^^ Fld.mul (nth Q m) (Fld.pw x m))
    rw [Fld.mul_xor_right]
    congr 1
    have ho := Fld.pw_lt x o hx
    have hm := Fld.pw_lt x m hx
    have hq := hQ.nth m
    rw [Fld.pw_add x o m hx, Fld.mul_comm hq hc, ← Fld.mul_assoc (Fld.mul_lt _ hc) ho hm, mul_right_comm hc hq ho, Fld.mul_assoc hco hq hm]
theorem ev_timN {P Q : List Nat} (hP : IsB P) (hQ : IsB Q) (N x k : Nat) (hx : x < 256) (hk : k ≤ P.length) (hN : P.length + Q.length ≤ N) : ev (nth (timN P Q k)) N x = Fld.mul (ev (nth P) k x) (ev (nth Q) Q.length x) := by
  induction k with
  | zero =>
    show ev (nth (List.replicate _ 0)) N x = Fld.mul 0 _
    rw [Fld.zero_mul (ev_lt _ _ hQ.nth)]
    unfold ev
    exact xsum_zero N (fun i _ => by show Fld.mul (nth _ i) _ = 0; rw [nth_zeros, Fld.zero_mul (Fld.pw_lt x i hx)])
  | succ k ih =>
    simp only [timN]
    rw [ev_addN (timN_isB hP hQ k) hQ N x k _ _ hx (hP.nth k) (by rw [timN_length]; omega) (by rw [timN_length]; exact hN), ih (by omega)]
    show _ = Fld.mul (ev (nth P) k x ^^^ Fld.mul (nth P k) (Fld.pw x k)) _
    rw [Fld.mul_xor_left _ (ev_lt _ _ hP.nth) (Fld.mul_lt _ (hP.nth k))]
theorem at_times {P Q : List Nat} (hP : IsB P) (hQ : IsB Q) (x : Nat) (hx : x < 256) (h1 : P.length ≤ 512) (h2 : Q.length ≤ 512) : atL (timR P Q) x = Fld.mul (atL P x) (atL Q x) := by
  have hT : IsB (timL P Q) := timN_isB hP hQ _
  unfold timR
  rw [if_pos ⟨h1, h2⟩, atL_congr (isB_trimL hT) hT x hx (nth_trimL _), atL_eq hP x hx, atL_eq hQ x hx, atL_ev hT x (P.length + Q.length) hx (by rw [show (timL P Q).length = P.length + Q.length from timN_length P Q _]; exact Nat.le_refl _)]
  exact ev_timN hP hQ _ x _ hx (Nat.le_refl _) (Nat.le_refl _)
theorem nth_sumL' (P M : List Nat) (j : Nat) : nth (sumL P M) j = nth P j ^^^ nth M j := by
  by_cases h : j < max P.length M.length
  · unfold sumL; rw [nth_map_range _ _ _ h]
  · rw [nth_out P j (by omega), nth_out M j (by omega), nth_out _ _ (by simp [sumL]; omega)]; rfl
theorem isB_sumL {P Q : List Nat} (hP : IsB P) (hQ : IsB Q) : IsB (sumL P Q) := by
  intro y hy
  unfold sumL at hy
  obtain ⟨i, _, rfl⟩ := List.mem_map.1 hy
  exact Fld.xor_lt (hP.nth i) (hQ.nth i)
theorem at_sum {P Q : List Nat} (hP : IsB P) (hQ : IsB Q) (x : Nat) (hx : x < 256) : atL (trimL (sumL P Q)) x = atL P x ^^^ atL Q x := by
  have hS := isB_sumL hP hQ
  rw [atL_congr (isB_trimL hS) hS x hx (nth_trimL _), atL_ev hS x (max P.length Q.length) hx (by simp [sumL]), atL_ev hP x (max P.length Q.length) hx (by omega), atL_ev hQ x (max P.length Q.length) hx (by omega), ← ev_xor _ _ hP.nth hQ.nth]
  exact ev_congr _ _ (fun i _ => nth_sumL' P Q i)

/-! the one through its own points -/
theorem cb_factor {X : List Nat} (hX : IsB X) (n i x : Nat) (hx : x < 256) (hi : i < n) : ev (cbF X (i + 1)) (n + 1) x = Fld.mul (ev (cbF X i) (n + 1) x) (nth X i ^^^ x) := by
  have e1 : ev (cbF X (i + 1)) (n + 1) x = ev (fun j => Fld.mul (cbF X i j) (nth X i) ^^^ (if j = 0 then 0 else cbF X i (j - 1))) (n + 1) x := rfl
  have hf : ∀ j, (if j = 0 then 0 else cbF X i (j - 1)) < 256 := fun j => by split; decide; exact cbF_lt hX _ _
  rw [e1, ev_xor (f := fun j => Fld.mul (cbF X i j) (nth X i)) (g := fun j => if j = 0 then 0 else cbF X i (j - 1)) _ _ (fun j => Fld.mul_lt _ (cbF_lt hX i j)) hf, ev_scale (n + 1) x (nth X i) (cbF_lt hX i) hx (hX.nth i), ev_shift n x (cbF_lt hX i) hx]
  have e2 : ev (cbF X i) n x = ev (cbF X i) (n + 1) x := (ev_past _ n 1 x hx (fun j hj => cbF_out X hX i j (by omega))).symm
  rw [e2, Fld.mul_xor_right]
theorem cb_root {X : List Nat} (hX : IsB X) (n i j : Nat) (hi : i ≤ n) (hj : j < i) : ev (cbF X i) (n + 1) (nth X j) = 0 := by
  induction i with
  | zero => omega
  | succ i ih =>
    rw [cb_factor hX n i _ (hX.nth j) (by omega)]
    by_cases e : j = i
    · subst e; rw [Nat.xor_self, Fld.mul_zero]
    · rw [ih (by omega) (by omega), Fld.zero_mul (Fld.xor_lt (hX.nth i) (hX.nth j))]
theorem cb_ne {X : List Nat} (hX : IsB X) (n i x : Nat) (hx : x < 256) (hi : i ≤ n) (h : ∀ j, j < i → nth X j ≠ x) : ev (cbF X i) (n + 1) x ≠ 0 := by
  induction i with
  | zero =>
    have e : ev (cbF X 0) (n + 1) x = 1 := by
      unfold ev
      rw [xsum_front]
      rw [show cbF X 0 0 = 1 from rfl, show Fld.pw x 0 = 1 from rfl, xsum_zero n (fun i _ => by
        show Fld.mul (cbF X 0 (i + 1)) (Fld.pw x (i + 1)) = 0
        rw [show cbF X 0 (i + 1) = 0 from rfl, Fld.zero_mul (Fld.pw_lt x _ hx)])]
      decide +kernel
    rw [e]; decide
  | succ i ih =>
    rw [cb_factor hX n i x hx (by omega)]
    intro h0
    rcases Fld.mul_eq_zero (ev_lt _ _ (cbF_lt hX i)) (Fld.xor_lt (hX.nth i) hx) h0 with h1 | h1
    · exact ih (by omega) (fun j hj => h j (by omega)) h1
    · have : (nth X i ^^^ x) ^^^ x = x := by rw [h1, Nat.zero_xor]
      rw [Nat.xor_assoc, Nat.xor_self, Nat.xor_zero] at this
      exact h i (by omega) this
theorem cb_monic (X : List Nat) (hX : IsB X) (i : Nat) : cbF X i i = 1 := by
  induction i with
  | zero => rfl
  | succ i ih =>
    show Fld.mul (cbF X i (i + 1)) (nth X i) ^^^ (if i + 1 = 0 then 0 else cbF X i (i + 1 - 1)) = 1
    rw [cbF_out X hX i (i + 1) (by omega), Fld.zero_mul (hX.nth i), if_neg (by omega), Nat.add_sub_cancel, ih]; rfl
theorem ct_uniq {X Y : List Nat} (hX : IsB X) (hY : IsB Y) (n : Nat) (hd : ∀ i j, j < i → i < n → nth X j ≠ nth X i) (m : Nat) (hm : m ≤ n) :
    ∀ f : Nat → Nat, (∀ j, f j < 256) → (∀ j, m ≤ j → f j = 0) → (∀ i, i < m → ev f (n + 1) (nth X i) = nth Y i) → ∀ j, f j = ctF X Y n m j := by
  induction m with
  | zero => intro f _ h0 _ j; exact h0 j (by omega)
  | succ m ih =>
    intro f hf h0 hv j
    obtain ⟨c, hc⟩ : ∃ c, c = f m := ⟨_, rfl⟩
    have hcl : c < 256 := by rw [hc]; exact hf m
    have hg : ∀ k, f k ^^^ Fld.mul (cbF X m k) c < 256 := fun k => Fld.xor_lt (hf k) (Fld.mul_lt _ (cbF_lt hX m k))
    have hev : ∀ x, x < 256 → ev (fun k => f k ^^^ Fld.mul (cbF X m k) c) (n + 1) x = ev f (n + 1) x ^^^ Fld.mul (ev (cbF X m) (n + 1) x) c := by
      intro x hx
      rw [ev_xor (f := f) (g := fun k => Fld.mul (cbF X m k) c) _ _ hf (fun k => Fld.mul_lt _ (cbF_lt hX m k)), ev_scale (n + 1) x c (cbF_lt hX m) hx hcl]
    have key := ih (by omega) (fun k => f k ^^^ Fld.mul (cbF X m k) c) hg (fun k hk => by
        show f k ^^^ Fld.mul (cbF X m k) c = 0
        by_cases e : k = m
        · subst e; rw [cb_monic X hX k, Fld.one_mul hcl, hc, Nat.xor_self]
        · rw [h0 k (by omega), cbF_out X hX m k (by omega), Fld.zero_mul hcl]; rfl)
      (fun i hi => by rw [hev _ (hX.nth i), cb_root hX n m i (by omega) hi, Fld.zero_mul hcl, Nat.xor_zero]; exact hv i (by omega))
    have hfk : ∀ k, f k = ctF X Y n m k ^^^ Fld.mul (cbF X m k) c := by
      intro k
      have := key k
      have h1 : f k ^^^ Fld.mul (cbF X m k) c = ctF X Y n m k := this
      rw [← h1, Nat.xor_assoc, Nat.xor_self, Nat.xor_zero]
    have hct : ∀ k, ctF X Y n m k < 256 := fun k => ctF_lt hX n m k
    have hy : nth Y m = ev (ctF X Y n m) (n + 1) (nth X m) ^^^ Fld.mul (ev (cbF X m) (n + 1) (nth X m)) c := by
      rw [← hv m (by omega)]
      have e : ev f (n + 1) (nth X m) = ev (fun k => ctF X Y n m k ^^^ Fld.mul (cbF X m k) c) (n + 1) (nth X m) := ev_congr _ _ (fun k _ => hfk k)
      rw [e, ev_xor (f := ctF X Y n m) (g := fun k => Fld.mul (cbF X m k) c) _ _ hct (fun k => Fld.mul_lt _ (cbF_lt hX m k)), ev_scale (n + 1) (nth X m) c (cbF_lt hX m) (hX.nth m) hcl]
    have hb := cb_ne hX n m (nth X m) (hX.nth m) (by omega) (fun i hi => hd m i hi (by omega))
    have hbl : ev (cbF X m) (n + 1) (nth X m) < 256 := ev_lt _ _ (cbF_lt hX m)
    have hk : kOf (nth Y m) (ev (ctF X Y n m) (n + 1) (nth X m)) (ev (cbF X m) (n + 1) (nth X m)) = c := by
      unfold kOf
      rw [hy, Nat.xor_comm, ← Nat.xor_assoc, Nat.xor_self, Nat.zero_xor, mul_right_comm hbl hcl (Fld.inv_lt hbl), Fld.mul_inv hbl hb, Fld.one_mul hcl]
    rw [hfk j]
    show _ = ctF X Y n m j ^^^ Fld.mul (cbF X m j) (kOf (nth Y m) (ev (ctF X Y n m) (n + 1) (nth X m)) (ev (cbF X m) (n + 1) (nth X m)))
    rw [hk]
/-- the one through the points of P is P -/
theorem th_own {X Y P : List Nat} (hX : IsB X) (hY : IsB Y) (hP : IsB P) (hl : P.length = X.length) (hd : ∀ i j, j < i → i < X.length → nth X j ≠ nth X i) (hv : ∀ i, i < X.length → nth Y i = atL P (nth X i)) : thL X Y = trimL P := by
  refine (thL_of hX hY (T := P) ?_).symm
  refine ct_uniq hX hY X.length hd X.length (Nat.le_refl _) (nth P) hP.nth (fun j hj => nth_out P j (by omega)) (fun i hi => ?_)
  rw [hv i hi, atL_ev hP _ (X.length + 1) (hX.nth i) (by omega)]
theorem dup_of {X : List Nat} (n : Nat) (hd : ∀ i j, j < i → i < n → nth X j ≠ nth X i) : dupB X n = false := by
  induction n with
  | zero => rfl
  | succ n ih =>
    have hs : ∀ k, k ≤ n → seenB X k (nth X n) = false := by
      intro k
      induction k with
      | zero => intro _; rfl
      | succ k ih2 =>
        intro hk
        simp only [seenB, ih2 (by omega), Bool.or_false]
        have := hd n k (by omega) (by omega)
        simp [this]
    simp only [dupB, ih (fun i j h1 h2 => hd i j h1 (by omega)), hs n (Nat.le_refl _)]; rfl
/-- points three steps apart -/
theorem step3 (fr i j : Nat) (hf : fr < 256) (h : j < i) (hi : i < 60) : (fr + j * 3) % 256 ≠ (fr + i * 3) % 256 := by omega
end Go.Proofs.YtpenggkefbbopaaDoor
