import Derived.Test.YtdcfgaibppenaaaDoorSd2
namespace Go.Proofs.YtdcfgaibppenaaaDoor
open Go.RowKit
set_option maxRecDepth 100000
set_option linter.unusedVariables false
set_option linter.unusedSimpArgs false

section
/-! sums by xor, and the value of a polynomial as such a sum: no Go in sight -/
def xsum (f : Nat → Nat) : Nat → Nat
  | 0 => 0
  | n + 1 => xsum f n ^^^ f n
theorem xsum_congr {f g : Nat → Nat} (n : Nat) (h : ∀ i, i < n → f i = g i) : xsum f n = xsum g n := by
  induction n with
  | zero => rfl
  | succ n ih => simp only [xsum]; rw [ih (fun i hi => h i (by omega)), h n (by omega)]
theorem xsum_lt {f : Nat → Nat} (n : Nat) (h : ∀ i, i < n → f i < 256) : xsum f n < 256 := by
  induction n with
  | zero => simp [xsum]
  | succ n ih => exact Fld.xor_lt (ih (fun i hi => h i (by omega))) (h n (by omega))
theorem xsum_front (f : Nat → Nat) (n : Nat) : xsum f (n + 1) = f 0 ^^^ xsum (fun i => f (i + 1)) n := by
  induction n with
  | zero => simp [xsum]
  | succ n ih => rw [show xsum f (n + 1 + 1) = xsum f (n + 1) ^^^ f (n + 1) from rfl, ih, Nat.xor_assoc]; rfl
theorem xsum_xor (f g : Nat → Nat) (n : Nat) : xsum (fun i => f i ^^^ g i) n = xsum f n ^^^ xsum g n := by
  induction n with
  | zero => simp [xsum]
  | succ n ih => simp only [xsum]; rw [ih, Fld.xor4]
theorem xsum_mul {f : Nat → Nat} (n x : Nat) (h : ∀ i, i < n → f i < 256) : Fld.mul (xsum f n) x = xsum (fun i => Fld.mul (f i) x) n := by
  induction n with
  | zero => show Fld.mulS 0 x 8 = 0
            have : ∀ k, Fld.dblN k 0 = 0 := by intro k; induction k with | zero => rfl | succ k ih => simp only [Fld.dblN, ih]; rfl
            have h2 : ∀ k, Fld.mulS 0 x k = 0 := by intro k; induction k with | zero => rfl | succ k ih => simp [Fld.mulS, ih, this]
            exact h2 8
  | succ n ih => simp only [xsum]; rw [Fld.mul_xor_left x (xsum_lt n (fun i hi => h i (by omega))) (h n (by omega)), ih (fun i hi => h i (by omega))]
theorem xsum_zero {f : Nat → Nat} (n : Nat) (h : ∀ i, i < n → f i = 0) : xsum f n = 0 := by
  rw [xsum_congr n (g := fun _ => 0) h]
  induction n with
  | zero => rfl
  | succ n ih => simp only [xsum]; rw [ih (fun i hi => h i (by omega))]; rfl
theorem xsum_past (f : Nat → Nat) (n z : Nat) (h : ∀ i, n ≤ i → i < n + z → f i = 0) : xsum f (n + z) = xsum f n := by
  induction z with
  | zero => rfl
  | succ z ih => rw [← Nat.add_assoc]; simp only [xsum]; rw [h _ (by omega) (by omega), ih (fun i h1 h2 => h i h1 (by omega)), Nat.xor_zero]
/-- one term turned -/
theorem xsum_one {f g : Nat → Nat} (n j : Nat) (hj : j < n) (h : ∀ i, i ≠ j → f i = g i) : xsum f n = xsum g n ^^^ (f j ^^^ g j) := by
  induction n with
  | zero => omega
  | succ n ih =>
    simp only [xsum]
    by_cases e : j = n
    · subst e
      rw [xsum_congr j (fun i hi => h i (by omega))]
      rw [Nat.xor_assoc, Nat.xor_comm (f j) (g j), ← Nat.xor_assoc (g j), Nat.xor_self, Nat.zero_xor]
    · rw [ih (by omega), h n (by omega), Nat.xor_assoc, Nat.xor_comm (f j ^^^ g j) (g n), ← Nat.xor_assoc]

/-- the value of the first n coefficients at x -/
def ev (f : Nat → Nat) (n x : Nat) : Nat := xsum (fun i => Fld.mul (f i) (Fld.pw x i)) n
theorem ev_congr {f g : Nat → Nat} (n x : Nat) (h : ∀ i, i < n → f i = g i) : ev f n x = ev g n x := xsum_congr n (fun i hi => by rw [h i hi])
theorem ev_lt {f : Nat → Nat} (n x : Nat) (h : ∀ i, f i < 256) : ev f n x < 256 := xsum_lt n (fun i _ => Fld.mul_lt _ (h i))
theorem ev_past (f : Nat → Nat) (n z x : Nat) (hx : x < 256) (h : ∀ i, n ≤ i → f i = 0) : ev f (n + z) x = ev f n x :=
  xsum_past _ n z (fun i h1 _ => by show Fld.mul (f i) (Fld.pw x i) = 0; rw [h i h1, Fld.zero_mul (Fld.pw_lt x i hx)])
theorem ev_xor {f g : Nat → Nat} (n x : Nat) (hf : ∀ i, f i < 256) (hg : ∀ i, g i < 256) : ev (fun i => f i ^^^ g i) n x = ev f n x ^^^ ev g n x := by
  unfold ev
  rw [← xsum_xor]
  exact xsum_congr n (fun i _ => Fld.mul_xor_left _ (hf i) (hg i))
theorem mul_right_comm {a b c : Nat} (ha : a < 256) (hb : b < 256) (hc : c < 256) : Fld.mul (Fld.mul a b) c = Fld.mul (Fld.mul a c) b := by
  rw [Fld.mul_assoc ha hb hc, Fld.mul_comm hb hc, ← Fld.mul_assoc ha hc hb]
theorem ev_scale {f : Nat → Nat} (n x c : Nat) (hf : ∀ i, f i < 256) (hx : x < 256) (hc : c < 256) : ev (fun i => Fld.mul (f i) c) n x = Fld.mul (ev f n x) c := by
  unfold ev
  rw [xsum_mul n c (fun i _ => Fld.mul_lt _ (hf i))]
  exact xsum_congr n (fun i _ => mul_right_comm (hf i) hc (Fld.pw_lt x i hx))
/-- x times a polynomial -/
theorem ev_shift {f : Nat → Nat} (n x : Nat) (hf : ∀ i, f i < 256) (hx : x < 256) : ev (fun i => if i = 0 then 0 else f (i - 1)) (n + 1) x = Fld.mul (ev f n x) x := by
  unfold ev
  rw [xsum_front, xsum_mul n x (fun i _ => Fld.mul_lt _ (hf i))]
  simp only [if_true, Nat.add_sub_cancel]
  rw [Fld.zero_mul (Fld.pw_lt x 0 hx), Nat.zero_xor]
  refine xsum_congr n (fun i _ => ?_)
  rw [if_neg (by omega)]
  show Fld.mul (f i) (Fld.mul (Fld.pw x i) x) = _
  rw [Fld.mul_assoc (hf i) (Fld.pw_lt x i hx) hx]
theorem horN_eq {P : List Nat} (hP : IsB P) (x : Nat) (hx : x < 256) (k : Nat) (hk : k ≤ P.length) : horN P x k = xsum (fun i => Fld.mul (nth P (P.length - k + i)) (Fld.pw x i)) k := by
  induction k with
  | zero => rfl
  | succ k ih =>
    rw [show horN P x (k + 1) = Fld.mul (horN P x k) x ^^^ nth P (P.length - 1 - k) from rfl, ih (by omega), xsum_mul k x (fun i _ => Fld.mul_lt _ (hP.nth _)), xsum_front]
    rw [show Fld.pw x 0 = 1 from rfl, Fld.mul_one (hP.nth _), Nat.xor_comm, show P.length - (k + 1) + 0 = P.length - 1 - k by omega]
    congr 1
    refine xsum_congr k (fun i hi => ?_)
    show _ = Fld.mul (nth P (P.length - (k + 1) + (i + 1))) (Fld.mul (Fld.pw x i) x)
    rw [show P.length - (k + 1) + (i + 1) = P.length - k + i by omega, Fld.mul_assoc (hP.nth _) (Fld.pw_lt x i hx) hx]
theorem atL_eq {P : List Nat} (hP : IsB P) (x : Nat) (hx : x < 256) : atL P x = ev (nth P) P.length x := by
  unfold atL
  rw [horN_eq hP x hx _ (Nat.le_refl _)]
  exact xsum_congr _ (fun i _ => by rw [Nat.sub_self, Nat.zero_add])
theorem atL_ev {P : List Nat} (hP : IsB P) (x n : Nat) (hx : x < 256) (hn : P.length ≤ n) : atL P x = ev (nth P) n x := by
  rw [atL_eq hP x hx, show n = P.length + (n - P.length) by omega, ev_past _ _ _ _ hx (fun i hi => nth_out P i hi)]
theorem atL_congr {A B : List Nat} (hA : IsB A) (hB : IsB B) (x : Nat) (hx : x < 256) (h : ∀ i, nth A i = nth B i) : atL A x = atL B x := by
  rw [atL_ev hA x (max A.length B.length) hx (by omega), atL_ev hB x (max A.length B.length) hx (by omega)]
  exact ev_congr _ _ (fun i _ => h i)
/-! trimming looks at the numbers alone -/
theorem trimN_lift (A : List Nat) (n : Nat) (h : A.length ≤ n) : trimN A n = trimN A A.length := by
  rw [show n = A.length + (n - A.length) by omega]
  induction (n - A.length) with
  | zero => rfl
  | succ z ih => rw [← Nat.add_assoc, trimN_zero A _ (nth_out A _ (by omega)), ih]
theorem trimN_ext {A B : List Nat} (k : Nat) (h : ∀ i, nth A i = nth B i) : trimN A k = trimN B k := by
  induction k with
  | zero => rfl
  | succ k ih => unfold trimN; rw [h k, ih]
theorem trimL_congr {A B : List Nat} (h : ∀ i, nth A i = nth B i) : trimL A = trimL B := by
  have e : trimN A A.length = trimN B B.length := by
    rw [← trimN_lift A (max A.length B.length) (by omega), ← trimN_lift B (max A.length B.length) (by omega), trimN_ext _ h]
  have h1 := trimN_le A A.length
  have h2 := trimN_le B B.length
  unfold trimL
  refine list_ext (by rw [List.length_take, List.length_take]; omega) fun i hi => ?_
  rw [List.length_take] at hi
  rw [nth_take _ _ _ (by omega), nth_take _ _ _ (by omega), h i]
theorem nth_trimL (A : List Nat) (i : Nat) : nth (trimL A) i = nth A i := by
  unfold trimL
  by_cases h : i < trimN A A.length
  · exact nth_take _ _ _ h
  · rw [nth_out _ _ (by rw [List.length_take]; omega)]
    have : ∀ k, trimN A k ≤ i → i < k → nth A i = 0 := by
      intro k
      induction k with
      | zero => intro _ h; omega
      | succ k ih =>
        intro h1 h2
        by_cases hz : nth A k = 0
        · rw [trimN_zero A k hz] at h1
          by_cases e : i = k
          · subst e; exact hz
          · exact ih h1 (by omega)
        · rw [trimN_nz A k hz] at h1; omega
    by_cases h2 : i < A.length
    · exact (this A.length (by omega) h2).symm
    · exact (nth_out A i (by omega)).symm
theorem isB_trimL {A : List Nat} (h : IsB A) : IsB (trimL A) := isB_take h _

theorem nth_addN (L Q : List Nat) (o c k j : Nat) (h : o + k ≤ L.length) : nth (addN L o Q c k) j = if o ≤ j ∧ j < o + k then nth L j ^^^ Fld.mul (nth Q (j - o)) c else nth L j := by
  induction k with
  | zero => rw [if_neg (by omega)]; rfl
  | succ k ih =>
    simp only [addN]
    rw [nth_set _ _ _ _ (by rw [addN_length]; omega)]
    by_cases e : o + k = j
    · subst e
      rw [if_pos rfl, if_pos (by omega), show o + k - o = k by omega]
      have : nth (addN L o Q c k) (o + k) = nth L (o + k) := by
        have := ih (by omega)
        rw [this, if_neg (by omega)]
      rw [this]
    · rw [if_neg e, ih (by omega)]
      by_cases e2 : o ≤ j ∧ j < o + k
      · rw [if_pos e2, if_pos (by omega)]
      · rw [if_neg e2, if_neg (by omega)]

/-! the polynomial through points, one point more at a time -/
def cbF (X : List Nat) : Nat → Nat → Nat
  | 0, j => if j = 0 then 1 else 0
  | i + 1, j => Fld.mul (cbF X i j) (nth X i) ^^^ (if j = 0 then 0 else cbF X i (j - 1))
def kOf (y t b : Nat) : Nat := Fld.mul (y ^^^ t) (Fld.inv b)
def ctF (X Y : List Nat) (n : Nat) : Nat → Nat → Nat
  | 0, _ => 0
  | i + 1, j => ctF X Y n i j ^^^ Fld.mul (cbF X i j) (kOf (nth Y i) (ev (ctF X Y n i) (n + 1) (nth X i)) (ev (cbF X i) (n + 1) (nth X i)))
theorem cbF_lt {X : List Nat} (hX : IsB X) (i j : Nat) : cbF X i j < 256 := by
  induction i generalizing j with
  | zero => unfold cbF; split <;> decide
  | succ i ih =>
    unfold cbF
    refine Fld.xor_lt (Fld.mul_lt _ (ih j)) ?_
    split
    · decide
    · exact ih _
theorem cbF_out (X : List Nat) (hX : IsB X) (i j : Nat) (h : i < j) : cbF X i j = 0 := by
  induction i generalizing j with
  | zero => unfold cbF; rw [if_neg (by omega)]
  | succ i ih => unfold cbF; rw [ih j (by omega), Fld.zero_mul (hX.nth i), if_neg (by omega), ih (j - 1) (by omega)]; rfl
theorem ctF_lt {X Y : List Nat} (hX : IsB X) (n i j : Nat) : ctF X Y n i j < 256 := by
  induction i with
  | zero => unfold ctF; decide
  | succ i ih => unfold ctF; exact Fld.xor_lt ih (Fld.mul_lt _ (cbF_lt hX i j))
end

section
/-! the value of a product -/
theorem ev_set {L : List Nat} (hL : IsB L) (N x i d : Nat) (hx : x < 256) (hd : d < 256) (hi : i < L.length) (hN : L.length ≤ N) : ev (nth (L.set i (nth L i ^^^ d))) N x = ev (nth L) N x ^^^ Fld.mul d (Fld.pw x i) := by
  unfold ev
  rw [xsum_one (g := fun k => Fld.mul (nth L k) (Fld.pw x k)) N i (by omega) (fun k hk => by
    show Fld.mul (nth (L.set i (nth L i ^^^ d)) k) (Fld.pw x k) = _
    rw [nth_set _ _ _ _ hi, if_neg (fun h => hk h.symm)])]
  congr 1
  show Fld.mul (nth (L.set i (nth L i ^^^ d)) i) (Fld.pw x i) ^^^ Fld.mul (nth L i) (Fld.pw x i) = _
  rw [nth_set _ _ _ _ hi, if_pos rfl, Fld.mul_xor_left _ (hL.nth i) hd, Nat.xor_comm, ← Nat.xor_assoc, Nat.xor_self, Nat.zero_xor]
theorem ev_addN {L Q : List Nat} (hL : IsB L) (hQ : IsB Q) (N x o c m : Nat) (hx : x < 256) (hc : c < 256) (h : o + m ≤ L.length) (hN : L.length ≤ N) :
    ev (nth (addN L o Q c m)) N x = ev (nth L) N x ^^^ Fld.mul (Fld.mul c (Fld.pw x o)) (ev (nth Q) m x) := by
  have hco : Fld.mul c (Fld.pw x o) < 256 := Fld.mul_lt _ hc
  induction m with
  | zero => show _ = ev (nth L) N x ^^^ Fld.mul _ 0; rw [Fld.mul_zero, Nat.xor_zero]; rfl
  | succ m ih =>
    simp only [addN]
    rw [ev_set (addN_isB hL hQ o c m) N x (o + m) _ hx (Fld.mul_lt _ (hQ.nth m)) (by rw [addN_length]; omega) (by rw [addN_length]; exact hN), ih (by omega), Nat.xor_assoc]
    congr 1
    show _ = Fld.mul (Fld.mul c (Fld.pw x o)) (ev (nth Q) m x ^^^ Fld.mul (nth Q m) (Fld.pw x m))
    rw [Fld.mul_xor_right]
    congr 1
    have ho := Fld.pw_lt x o hx
    have hm := Fld.pw_lt x m hx
    have hq := hQ.nth m
    rw [Fld.pw_add x o m hx, Fld.mul_comm hq hc, ← Fld.mul_assoc (Fld.mul_lt _ hc) ho hm, mul_right_comm hc hq ho, Fld.mul_assoc hco hq hm]
theorem ev_timN {P Q : List Nat} (hP : IsB P) (hQ : IsB Q) (N x k : Nat) (hx : x < 256) (hk : k ≤ P.length) (hN : P.length + Q.length ≤ N) : ev (nth (timN P Q k)) N x = Fld.mul (ev (nth P) k x) (ev (nth Q) Q.length x) := by
  induction k with
  | zero =>
    show ev (nth (List.replicate _ 0)) N x = Fld.mul 0 _
    rw [Fld.zero_mul (ev_lt _ _ hQ.nth)]
    unfold ev
    exact xsum_zero N (fun i _ => by show Fld.mul (nth _ i) _ = 0; rw [nth_zeros, Fld.zero_mul (Fld.pw_lt x i hx)])
  | succ k ih =>
    simp only [timN]
    rw [ev_addN (timN_isB hP hQ k) hQ N x k _ _ hx (hP.nth k) (by rw [timN_length]; omega) (by rw [timN_length]; exact hN), ih (by omega)]
    show _ = Fld.mul (ev (nth P) k x ^^^ Fld.mul (nth P k) (Fld.pw x k)) _
    rw [Fld.mul_xor_left _ (ev_lt _ _ hP.nth) (Fld.mul_lt _ (hP.nth k))]
theorem at_times {P Q : List Nat} (hP : IsB P) (hQ : IsB Q) (x : Nat) (hx : x < 256) (h1 : P.length ≤ 512) (h2 : Q.length ≤ 512) : atL (timR P Q) x = Fld.mul (atL P x) (atL Q x) := by
  have hT : IsB (timL P Q) := timN_isB hP hQ _
  unfold timR
  rw [if_pos ⟨h1, h2⟩, atL_congr (isB_trimL hT) hT x hx (nth_trimL _), atL_eq hP x hx, atL_eq hQ x hx, atL_ev hT x (P.length + Q.length) hx (by rw [show (timL P Q).length = P.length + Q.length from timN_length P Q _]; exact Nat.le_refl _)]
  exact ev_timN hP hQ _ x _ hx (Nat.le_refl _) (Nat.le_refl _)
theorem nth_sumL' (P M : List Nat) (j : Nat) : nth (sumL P M) j = nth P j ^^^ nth M j := by
  by_cases h : j < max P.length M.length
  · unfold sumL; rw [nth_map_range _ _ _ h]
  · rw [nth_out P j (by omega), nth_out M j (by omega), nth_out _ _ (by simp [sumL]; omega)]; rfl
theorem isB_sumL {P Q : List Nat} (hP : IsB P) (hQ : IsB Q) : IsB (sumL P Q) := by
  intro y hy
  unfold sumL at hy
  obtain ⟨i, _, rfl⟩ := List.mem_map.1 hy
  exact Fld.xor_lt (hP.nth i) (hQ.nth i)
theorem at_sum {P Q : List Nat} (hP : IsB P) (hQ : IsB Q) (x : Nat) (hx : x < 256) : atL (trimL (sumL P Q)) x = atL P x ^^^ atL Q x := by
  have hS := isB_sumL hP hQ
  rw [atL_congr (isB_trimL hS) hS x hx (nth_trimL _), atL_ev hS x (max P.length Q.length) hx (by simp [sumL]), atL_ev hP x (max P.length Q.length) hx (by omega), atL_ev hQ x (max P.length Q.length) hx (by omega), ← ev_xor _ _ hP.nth hQ.nth]
  exact ev_congr _ _ (fun i _ => nth_sumL' P Q i)

/-! the one through its own points -/
theorem cb_factor {X : List Nat} (hX : IsB X) (n i x : Nat) (hx : x < 256) (hi : i < n) : ev (cbF X (i + 1)) (n + 1) x = Fld.mul (ev (cbF X i) (n + 1) x) (nth X i ^^^ x) := by
  have e1 : ev (cbF X (i + 1)) (n + 1) x = ev (fun j => Fld.mul (cbF X i j) (nth X i) ^^^ (if j = 0 then 0 else cbF X i (j - 1))) (n + 1) x := rfl
  have hf : ∀ j, (if j = 0 then 0 else cbF X i (j - 1)) < 256 := fun j => by split; decide; exact cbF_lt hX _ _
  rw [e1, ev_xor (f := fun j => Fld.mul (cbF X i j) (nth X i)) (g := fun j => if j = 0 then 0 else cbF X i (j - 1)) _ _ (fun j => Fld.mul_lt _ (cbF_lt hX i j)) hf, ev_scale (n + 1) x (nth X i) (cbF_lt hX i) hx (hX.nth i), ev_shift n x (cbF_lt hX i) hx]
  have e2 : ev (cbF X i) n x = ev (cbF X i) (n + 1) x := (ev_past _ n 1 x hx (fun j hj => cbF_out X hX i j (by omega))).symm
  rw [e2, Fld.mul_xor_right]
theorem cb_root {X : List Nat} (hX : IsB X) (n i j : Nat) (hi : i ≤ n) (hj : j < i) : ev (cbF X i) (n + 1) (nth X j) = 0 := by
  induction i with
  | zero => omega
  | succ i ih =>
    rw [cb_factor hX n i _ (hX.nth j) (by omega)]
    by_cases e : j = i
    · subst e; rw [Nat.xor_self, Fld.mul_zero]
    · rw [ih (by omega) (by omega), Fld.zero_mul (Fld.xor_lt (hX.nth i) (hX.nth j))]
theorem cb_ne {X : List Nat} (hX : IsB X) (n i x : Nat) (hx : x < 256) (hi : i ≤ n) (h : ∀ j, j < i → nth X j ≠ x) : ev (cbF X i) (n + 1) x ≠ 0 := by
  induction i with
  | zero =>
    have e : ev (cbF X 0) (n + 1) x = 1 := by
      unfold ev
      rw [xsum_front]
      rw [show cbF X 0 0 = 1 from rfl, show Fld.pw x 0 = 1 from rfl, xsum_zero n (fun i _ => by
        show Fld.mul (cbF X 0 (i + 1)) (Fld.pw x (i + 1)) = 0
        rw [show cbF X 0 (i + 1) = 0 from rfl, Fld.zero_mul (Fld.pw_lt x _ hx)])]
      decide +kernel
    rw [e]; decide
  | succ i ih =>
    rw [cb_factor hX n i x hx (by omega)]
    intro h0
    rcases Fld.mul_eq_zero (ev_lt _ _ (cbF_lt hX i)) (Fld.xor_lt (hX.nth i) hx) h0 with h1 | h1
    · exact ih (by omega) (fun j hj => h j (by omega)) h1
    · have : (nth X i ^^^ x) ^^^ x = x := by rw [h1, Nat.zero_xor]
      rw [Nat.xor_assoc, Nat.xor_self, Nat.xor_zero] at this
      exact h i (by omega) this
theorem cb_monic (X : List Nat) (hX : IsB X) (i : Nat) : cbF X i i = 1 := by
  induction i with
  | zero => rfl
  | succ i ih =>
    show Fld.mul (cbF X i (i + 1)) (nth X i) ^^^ (if i + 1 = 0 then 0 else cbF X i (i + 1 - 1)) = 1
    rw [cbF_out X hX i (i + 1) (by omega), Fld.zero_mul (hX.nth i), if_neg (by omega), Nat.add_sub_cancel, ih]; rfl
theorem ct_uniq {X Y : List Nat} (hX : IsB X) (hY : IsB Y) (n : Nat) (hd : ∀ i j, j < i → i < n → nth X j ≠ nth X i) (m : Nat) (hm : m ≤ n) :
    ∀ f : Nat → Nat, (∀ j, f j < 256) → (∀ j, m ≤ j → f j = 0) → (∀ i, i < m → ev f (n + 1) (nth X i) = nth Y i) → ∀ j, f j = ctF X Y n m j := by
  induction m with
  | zero => intro f _ h0 _ j; exact h0 j (by omega)
  | succ m ih =>
    intro f hf h0 hv j
    obtain ⟨c, hc⟩ : ∃ c, c = f m := ⟨_, rfl⟩
    have hcl : c < 256 := by rw [hc]; exact hf m
    have hg : ∀ k, f k ^^^ Fld.mul (cbF X m k) c < 256 := fun k => Fld.xor_lt (hf k) (Fld.mul_lt _ (cbF_lt hX m k))
    have hev : ∀ x, x < 256 → ev (fun k => f k ^^^ Fld.mul (cbF X m k) c) (n + 1) x = ev f (n + 1) x ^^^ Fld.mul (ev (cbF X m) (n + 1) x) c := by
      intro x hx
      rw [ev_xor (f := f) (g := fun k => Fld.mul (cbF X m k) c) _ _ hf (fun k => Fld.mul_lt _ (cbF_lt hX m k)), ev_scale (n + 1) x c (cbF_lt hX m) hx hcl]
    have key := ih (by omega) (fun k => f k ^^^ Fld.mul (cbF X m k) c) hg (fun k hk => by
        show f k ^^^ Fld.mul (cbF X m k) c = 0
        by_cases e : k = m
        · subst e; rw [cb_monic X hX k, Fld.one_mul hcl, hc, Nat.xor_self]
        · rw [h0 k (by omega), cbF_out X hX m k (by omega), Fld.zero_mul hcl]; rfl)
      (fun i hi => by rw [hev _ (hX.nth i), cb_root hX n m i (by omega) hi, Fld.zero_mul hcl, Nat.xor_zero]; exact hv i (by omega))
    have hfk : ∀ k, f k = ctF X Y n m k ^^^ Fld.mul (cbF X m k) c := by
      intro k
      have := key k
      have h1 : f k ^^^ Fld.mul (cbF X m k) c = ctF X Y n m k := this
      rw [← h1, Nat.xor_assoc, Nat.xor_self, Nat.xor_zero]
    have hct : ∀ k, ctF X Y n m k < 256 := fun k => ctF_lt hX n m k
    have hy : nth Y m = ev (ctF X Y n m) (n + 1) (nth X m) ^^^ Fld.mul (ev (cbF X m) (n + 1) (nth X m)) c := by
      rw [← hv m (by omega)]
      have e : ev f (n + 1) (nth X m) = ev (fun k => ctF X Y n m k ^^^ Fld.mul (cbF X m k) c) (n + 1) (nth X m) := ev_congr _ _ (fun k _ => hfk k)
      rw [e, ev_xor (f := ctF X Y n m) (g := fun k => Fld.mul (cbF X m k) c) _ _ hct (fun k => Fld.mul_lt _ (cbF_lt hX m k)), ev_scale (n + 1) (nth X m) c (cbF_lt hX m) (hX.nth m) hcl]
    have hb := cb_ne hX n m (nth X m) (hX.nth m) (by omega) (fun i hi => hd m i hi (by omega))
    have hbl : ev (cbF X m) (n + 1) (nth X m) < 256 := ev_lt _ _ (cbF_lt hX m)
    have hk : kOf (nth Y m) (ev (ctF X Y n m) (n + 1) (nth X m)) (ev (cbF X m) (n + 1) (nth X m)) = c := by
      unfold kOf
      rw [hy, Nat.xor_comm, ← Nat.xor_assoc, Nat.xor_self, Nat.zero_xor, mul_right_comm hbl hcl (Fld.inv_lt hbl), Fld.mul_inv hbl hb, Fld.one_mul hcl]
    rw [hfk j]
    show _ = ctF X Y n m j ^^^ Fld.mul (cbF X m j) (kOf (nth Y m) (ev (ctF X Y n m) (n + 1) (nth X m)) (ev (cbF X m) (n + 1) (nth X m)))
    rw [hk]
end

section
/-! products, coefficient by coefficient -/
def pc (f g : Nat → Nat) (N j : Nat) : Nat := xsum (fun i => if i ≤ j then Fld.mul (g (j - i)) (f i) else 0) N
theorem pc_past {f g : Nat → Nat} (N z j : Nat) (h : ∀ i, N ≤ i → f i = 0) : pc f g (N + z) j = pc f g N j := by
  unfold pc
  refine xsum_past _ N z (fun i h1 _ => ?_)
  show (if i ≤ j then Fld.mul (g (j - i)) (f i) else 0) = 0
  rw [h i h1, Fld.mul_zero]; split <;> rfl
theorem pc_congr {f f' g g' : Nat → Nat} (N j : Nat) (h : ∀ i, f i = f' i) (k : ∀ i, g i = g' i) : pc f g N j = pc f' g' N j := by
  unfold pc
  exact xsum_congr N (fun i _ => by rw [h i, k (j - i)])
theorem nth_timN {P Q : List Nat} (hP : IsB P) (hQ : IsB Q) (k j : Nat) (hk : k ≤ P.length) : nth (timN P Q k) j = pc (nth P) (nth Q) k j := by
  induction k with
  | zero => show nth (List.replicate _ 0) j = 0; exact nth_zeros _ _
  | succ k ih =>
    simp only [timN]
    rw [nth_addN _ _ _ _ _ _ (by rw [timN_length]; omega), ih (by omega)]
    show _ = pc (nth P) (nth Q) k j ^^^ (if k ≤ j then Fld.mul (nth Q (j - k)) (nth P k) else 0)
    by_cases h : k ≤ j ∧ j < k + Q.length
    · rw [if_pos h, if_pos h.1]
    · rw [if_neg h]
      by_cases h2 : k ≤ j
      · rw [if_pos h2, nth_out Q (j - k) (by omega), Fld.zero_mul (hP.nth k), Nat.xor_zero]
      · rw [if_neg h2, Nat.xor_zero]
theorem nth_timL {P Q : List Nat} (hP : IsB P) (hQ : IsB Q) (j : Nat) : nth (timL P Q) j = pc (nth P) (nth Q) P.length j := nth_timN hP hQ _ j (Nat.le_refl _)

/-! dividing -/
theorem ovS_low (P B : List Nat) (st k i : Nat) (h : i < st - k) : nth (ovS P B st k) i = 0 := by
  induction k with
  | zero => exact nth_zeros _ _
  | succ k ih =>
    simp only [ovS]
    rw [nth_set _ _ _ _ (by rw [ovS_length]; omega), if_neg (by omega)]
    exact ih (by omega)
theorem ov_inv {P B : List Nat} (hP : IsB P) (hB : IsB B) (st k : Nat) (hk : k ≤ st) (hst : st = P.length + 1 - B.length) (hB0 : 0 < B.length) (j : Nat) :
    nth P j = nth (ovR P B st k) j ^^^ pc (nth (ovS P B st k)) (nth B) st j := by
  induction k with
  | zero =>
    have : pc (nth (ovS P B st 0)) (nth B) st j = 0 := by
      unfold pc
      refine xsum_zero st (fun i _ => ?_)
      rw [show nth (ovS P B st 0) i = 0 from nth_zeros _ _, Fld.mul_zero]; split <;> rfl
    rw [this, Nat.xor_zero]; rfl
  | succ k ih =>
    rw [ih (by omega)]
    obtain ⟨t, ht⟩ : ∃ t, t = st - 1 - k := ⟨_, rfl⟩
    obtain ⟨c, hc⟩ : ∃ c, c = ovC (ovR P B st k) B (st - 1 - k) := ⟨_, rfl⟩
    have hcl : c < 256 := by rw [hc]; exact ovC_lt (ovR_isB hP hB st k) _
    have eR : nth (ovR P B st (k + 1)) j = if t ≤ j ∧ j < t + B.length then nth (ovR P B st k) j ^^^ Fld.mul (nth B (j - t)) c else nth (ovR P B st k) j := by
      simp only [ovR]
      rw [nth_addN _ _ _ _ _ _ (by rw [ovR_length]; omega), ← hc, ← ht]
    have eS : ∀ i, nth (ovS P B st (k + 1)) i = if t = i then c else nth (ovS P B st k) i := by
      intro i
      simp only [ovS]
      rw [nth_set _ _ _ _ (by rw [ovS_length]; omega), ← hc, ← ht]
    have eP : pc (nth (ovS P B st (k + 1))) (nth B) st j = pc (nth (ovS P B st k)) (nth B) st j ^^^ (if t ≤ j then Fld.mul (nth B (j - t)) c else 0) := by
      unfold pc
      rw [xsum_one (g := fun i => if i ≤ j then Fld.mul (nth B (j - i)) (nth (ovS P B st k) i) else 0) st t (by omega) (fun i hi => by
        show (if i ≤ j then Fld.mul (nth B (j - i)) (nth (ovS P B st (k + 1)) i) else 0) = _
        rw [eS i, if_neg (show ¬ t = i from fun h => hi h.symm)])]
      congr 1
      show (if t ≤ j then Fld.mul (nth B (j - t)) (nth (ovS P B st (k + 1)) t) else 0) ^^^ (if t ≤ j then Fld.mul (nth B (j - t)) (nth (ovS P B st k) t) else 0) = _
      rw [eS t, if_pos rfl, ovS_low P B st k t (by omega), Fld.mul_zero]
      split <;> simp
    rw [eR, eP]
    by_cases h : t ≤ j ∧ j < t + B.length
    · rw [if_pos h, if_pos h.1, Fld.xor4, Nat.xor_self, Nat.xor_zero]
    · rw [if_neg h]
      by_cases h2 : t ≤ j
      · rw [if_pos h2, nth_out B (j - t) (by omega), Fld.zero_mul hcl, Nat.xor_zero]
      · rw [if_neg h2, Nat.xor_zero]
theorem ov_top {P B : List Nat} (hP : IsB P) (hB : IsB B) (st k : Nat) (hk : k ≤ st) (hst : st = P.length + 1 - B.length) (hB0 : 0 < B.length) (htop : nth B (B.length - 1) ≠ 0) (j : Nat) (hj : st - k + B.length - 1 ≤ j) : nth (ovR P B st k) j = 0 := by
  induction k generalizing j with
  | zero => exact nth_out P j (by omega)
  | succ k ih =>
    simp only [ovR]
    rw [nth_addN _ _ _ _ _ _ (by rw [ovR_length]; omega)]
    by_cases h : st - 1 - k ≤ j ∧ j < st - 1 - k + B.length
    · rw [if_pos h]
      obtain rfl : j = st - 1 - k + B.length - 1 := by omega
      have hr := (ovR_isB hP hB st k).nth (st - 1 - k + B.length - 1)
      have hb := hB.nth (B.length - 1)
      rw [show st - 1 - k + B.length - 1 - (st - 1 - k) = B.length - 1 by omega]
      unfold ovC
      rw [Fld.mul_comm hb (Fld.mul_lt _ hr), Fld.mul_assoc hr (Fld.inv_lt hb) hb, Fld.inv_mul hb htop, Fld.mul_one hr, Nat.xor_self]
    · rw [if_neg h]
      exact ih (by omega) j (by omega)
theorem trimL_short {A : List Nat} (m : Nat) (h : ∀ j, m ≤ j → nth A j = 0) : (trimL A).length ≤ m := by
  rw [show (trimL A).length = trimN A A.length from by unfold trimL; rw [List.length_take]; have := trimN_le A A.length; omega]
  rcases Nat.lt_or_ge m (trimN A A.length) with hlt | hge
  · exfalso
    obtain ⟨j, hj⟩ : ∃ j, trimN A A.length = j + 1 := ⟨trimN A A.length - 1, by omega⟩
    have : ∀ k, trimN A k = j + 1 → nth A j ≠ 0 := by
      intro k
      induction k with
      | zero => intro h; simp [trimN] at h
      | succ k ih =>
        intro hk
        by_cases hz : nth A k = 0
        · rw [trimN_zero A k hz] at hk; exact ih hk
        · rw [trimN_nz A k hz] at hk
          have : k = j := by omega
          subst this; exact hz
    exact this _ hj (h j (by omega))
  · exact hge
end

section
theorem trimN_top (L : List Nat) (k j : Nat) (h : trimN L k = j + 1) : nth L j ≠ 0 := by
  induction k with
  | zero => simp [trimN] at h
  | succ k ih =>
    by_cases hz : nth L k = 0
    · rw [trimN_zero L k hz] at h; exact ih h
    · rw [trimN_nz L k hz] at h
      have : k = j := by omega
      subst this; exact hz
end

section
/-! what Over answers, whatever came in -/
def ovE (P Q : List Nat) : Int := if P.length ≤ 512 ∧ Q.length ≤ 512 then (if trimN Q Q.length = 0 then 3 else 0) else 1
def ovQ (P Q : List Nat) : List Nat := if P.length ≤ 512 ∧ Q.length ≤ 512 ∧ trimN Q Q.length ≠ 0 then trimL (ovS P (trimL Q) (P.length + 1 - trimN Q Q.length) (P.length + 1 - trimN Q Q.length)) else []
def ovT (P Q : List Nat) : List Nat := if P.length ≤ 512 ∧ Q.length ≤ 512 ∧ trimN Q Q.length ≠ 0 then trimL (ovR P (trimL Q) (P.length + 1 - trimN Q Q.length) (P.length + 1 - trimN Q Q.length)) else []
theorem trimL_len (Q : List Nat) : (trimL Q).length = trimN Q Q.length := by
  unfold trimL; rw [List.length_take]; have := trimN_le Q Q.length; omega
theorem over_all (a b : Option Addr) (n m cap cap' : Nat) (P Q : List Nat) (w : World) (hp : Rd w a n cap P) (hq : Rd w b m cap' Q) :
    Calls Tryd.prog 50 #[.slice a n cap, .slice b m cap'] w fun e w' => ∃ a2 n2 c2 a1 n1 c1, e = .returned (.tuple #[.slice a2 n2 c2, .slice a1 n1 c1, .int .i64 (ovE P Q)]) ∧
      Ans w' w.heap.size a2 n2 c2 (ovQ P Q) ∧ Ans w' w.heap.size a1 n1 c1 (ovT P Q) ∧ w.grownBy w' none ∧ ((Value.slice a1 n1 c1).ownBlock = none ∨ (Value.slice a1 n1 c1).ownBlock ≠ (Value.slice a2 n2 c2).ownBlock) := by
  have h1 := hp.le; have h2 := hp.max; have h3 := hq.le; have h4 := hq.max
  unfold maxLen at h2 h4
  unfold ovE ovQ ovT
  rw [hp.len, hq.len]
  by_cases h : n ≤ 512 ∧ m ≤ 512
  · by_cases hz : trimN Q m = 0
    · rw [if_pos h, if_pos hz, if_neg (by simp [hz]), if_neg (by simp [hz])]
      refine (over_zero a b n m cap cap' Q w hq h.1 h.2 hz).mono ?_
      rintro e w' ⟨rfl, rfl⟩
      exact ⟨none, 0, 0, none, 0, 0, rfl, ans_nil _ _, ans_nil _ _, World.grownBy.refl _ _, .inl rfl⟩
    · rw [if_pos h, if_neg hz, if_pos ⟨h.1, h.2, hz⟩, if_pos ⟨h.1, h.2, hz⟩]
      refine (over_ok a b n m cap cap' (trimN Q m) (n + 1 - trimN Q m) P Q (trimL Q) w hp hq h.1 h.2 rfl (by omega) (by unfold trimL; rw [hq.len]) rfl).mono ?_
      rintro e w' ⟨n2, n1, g, rfl, hg, hs, hr, hgr⟩
      exact ⟨_, _, _, _, _, _, rfl, ⟨hs.own, hs.byte, fun g hg => Nat.le_trans (Nat.le_succ _) (hs.new g hg)⟩, hr, hgr, .inr (by simp [Value.ownBlock]; omega)⟩
  · rw [if_neg h, if_neg (by intro h'; exact h ⟨h'.1, h'.2.1⟩), if_neg (by intro h'; exact h ⟨h'.1, h'.2.1⟩)]
    refine (over_big a b n m cap cap' w (by omega) (by omega) (by omega)).mono ?_
    rintro e w' ⟨rfl, rfl⟩
    exact ⟨none, 0, 0, none, 0, 0, rfl, ans_nil _ _, ans_nil _ _, World.grownBy.refl _ _, .inl rfl⟩
end

section
theorem nth_sumL (P M : List Nat) (j : Nat) : nth (sumL P M) j = nth P j ^^^ nth M j := by
  by_cases h : j < max P.length M.length
  · unfold sumL; rw [nth_map_range _ _ _ h]
  · rw [nth_out P j (by omega), nth_out M j (by omega), nth_out _ _ (by simp [sumL]; omega)]; rfl
theorem xor_eq {a b : Nat} (h : a ^^^ b = 0) : a = b := by
  have : (a ^^^ b) ^^^ b = b := by rw [h, Nat.zero_xor]
  rwa [Nat.xor_assoc, Nat.xor_self, Nat.xor_zero] at this
theorem nth_nil (j : Nat) : nth [] j = 0 := nth_out [] j (Nat.zero_le _)
theorem trim_self (P : List Nat) : trimL (sumL P []) = trimL P := trimL_congr (fun j => by rw [nth_sumL, nth_nil, Nat.xor_zero])
theorem top_ne (Q : List Nat) (h : trimN Q Q.length ≠ 0) : nth (trimL Q) ((trimL Q).length - 1) ≠ 0 := by
  rw [trimL_len, nth_trimL]
  exact trimN_top Q Q.length _ (by omega)
theorem trimL_nil {A : List Nat} (h : ∀ j, nth A j = 0) : trimL A = [] := List.eq_nil_of_length_eq_zero (Nat.le_zero.1 (trimL_short 0 (fun j _ => h j)))
theorem nth_timR {P Q : List Nat} (hP : IsB P) (hQ : IsB Q) (h1 : P.length ≤ 512) (h2 : Q.length ≤ 512) (j : Nat) : nth (timR P Q) j = pc (nth P) (nth Q) P.length j := by
  unfold timR; rw [if_pos ⟨h1, h2⟩, nth_trimL, nth_timL hP hQ]
theorem ovQ_eq {P Q : List Nat} (h1 : P.length ≤ 512) (h2 : Q.length ≤ 512) (hz : trimN Q Q.length ≠ 0) : ovQ P Q = trimL (ovS P (trimL Q) (P.length + 1 - (trimL Q).length) (P.length + 1 - (trimL Q).length)) := by
  unfold ovQ; rw [if_pos ⟨h1, h2, hz⟩, trimL_len]
theorem ovT_eq {P Q : List Nat} (h1 : P.length ≤ 512) (h2 : Q.length ≤ 512) (hz : trimN Q Q.length ≠ 0) : ovT P Q = trimL (ovR P (trimL Q) (P.length + 1 - (trimL Q).length) (P.length + 1 - (trimL Q).length)) := by
  unfold ovT; rw [if_pos ⟨h1, h2, hz⟩, trimL_len]
theorem ovQ_small {P Q : List Nat} (hz : trimN Q Q.length ≠ 0) : (ovQ P Q).length ≤ P.length := by
  unfold ovQ; split
  · have h := trimL_le (ovS P (trimL Q) (P.length + 1 - trimN Q Q.length) (P.length + 1 - trimN Q Q.length))
    rw [ovS_length] at h
    omega
  · simp
theorem isB_ovQ {P Q : List Nat} (hP : IsB P) (hQ : IsB Q) : IsB (ovQ P Q) := by
  unfold ovQ; split
  · exact isB_trimL (ovS_isB hP (isB_trimL hQ) _ _)
  · intro x hx; cases hx
theorem div_sum {P Q : List Nat} (hP : IsB P) (hQ : IsB Q) (h1 : P.length ≤ 512) (h2 : Q.length ≤ 512) (hz : trimN Q Q.length ≠ 0) : trimL (sumL (timR (ovQ P Q) Q) (ovT P Q)) = trimL (sumL P []) := by
  refine trimL_congr fun j => ?_
  have hl0 : 0 < (trimL Q).length := by rw [trimL_len]; omega
  rw [nth_sumL, nth_sumL, nth_nil, Nat.xor_zero, nth_timR (isB_ovQ hP hQ) hQ (by have := ovQ_small (P := P) hz; omega) h2]
  rw [ov_inv hP (isB_trimL hQ) _ _ (Nat.le_refl _) rfl hl0 j, Nat.xor_comm]
  congr 1
  · rw [ovT_eq h1 h2 hz, nth_trimL]
  · have hle : (ovQ P Q).length ≤ P.length + 1 - (trimL Q).length := by
      rw [ovQ_eq h1 h2 hz]
      have h := trimL_le (ovS P (trimL Q) (P.length + 1 - (trimL Q).length) (P.length + 1 - (trimL Q).length))
      rw [ovS_length] at h
      exact h
    have e : P.length + 1 - (trimL Q).length = (ovQ P Q).length + (P.length + 1 - (trimL Q).length - (ovQ P Q).length) := by omega
    have hv : ∀ i, nth (ovQ P Q) i = nth (ovS P (trimL Q) (P.length + 1 - (trimL Q).length) (P.length + 1 - (trimL Q).length)) i := by
      intro i; rw [ovQ_eq h1 h2 hz, nth_trimL]
    rw [← pc_past (ovQ P Q).length (P.length + 1 - (trimL Q).length - (ovQ P Q).length) j (fun i hi => nth_out _ i hi), ← e]
    exact pc_congr _ _ hv (fun i => (nth_trimL Q i).symm)
theorem div_rest {P Q : List Nat} (hP : IsB P) (hQ : IsB Q) (h1 : P.length ≤ 512) (h2 : Q.length ≤ 512) (hz : trimN Q Q.length ≠ 0) : (ovT P Q).length < (trimL Q).length := by
  have hl0 : 0 < (trimL Q).length := by rw [trimL_len]; omega
  rw [ovT_eq h1 h2 hz]
  have := trimL_short ((trimL Q).length - 1) (fun j hj => ov_top hP (isB_trimL hQ) _ _ (Nat.le_refl _) rfl hl0 (top_ne Q hz) j (by omega))
  omega
theorem isB_timR {P Q : List Nat} (hP : IsB P) (hQ : IsB Q) : IsB (timR P Q) := by
  unfold timR; split
  · exact isB_trimL (timN_isB hP hQ _)
  · intro x hx; cases hx
end
end Go.Proofs.YtdcfgaibppenaaaDoor
