import Derived.Test.YtpenggkefbbopaaDoorFOver
namespace Go.Proofs.YtpenggkefbbopaaDoor
set_option linter.unusedVariables false

/-! sums by xor, and the value of a polynomial as such a sum: no Go in sight -/
def xsum (f : Nat → Nat) : Nat → Nat
  | 0 => 0
  | n + 1 => xsum f n ^^^ f n
theorem xsum_congr {f g : Nat → Nat} (n : Nat) (h : ∀ i, i < n → f i = g i) : xsum f n = xsum g n := by
  induction n with
  | zero => rfl
  | succ n ih => simp only [xsum]; rw [ih (fun i hi => h i (by omega)), h n (by omega)]
theorem xsum_lt {f : Nat → Nat} (n : Nat) (h : ∀ i, i < n → f i < 256) : xsum f n < 256 := by
  induction n with
  | zero => simp [xsum]
  | succ n ih => exact Fld.xor_lt (ih (fun i hi => h i (by omega))) (h n (by omega))
theorem xsum_front (f : Nat → Nat) (n : Nat) : xsum f (n + 1) = f 0 ^^^ xsum (fun i => f (i + 1)) n := by
  induction n with
  | zero => simp [xsum]
  | succ n ih => rw [show xsum f (n + 1 + 1) = xsum f (n + 1) ^^^ f (n + 1) from rfl, ih, Nat.xor_assoc]; rfl
theorem xsum_xor (f g : Nat → Nat) (n : Nat) : xsum (fun i => f i ^^^ g i) n = xsum f n ^^^ xsum g n := by
  induction n with
  | zero => simp [xsum]
  | succ n ih => simp only [xsum]; rw [ih, Fld.xor4]
theorem xsum_mul {f : Nat → Nat} (n x : Nat) (h : ∀ i, i < n → f i < 256) : Fld.mul (xsum f n) x = xsum (fun i => Fld.mul (f i) x) n := by
  induction n with
  | zero => show Fld.mulS 0 x 8 = 0
            have : ∀ k, Fld.dblN k 0 = 0 := by intro k; induction k with | zero => rfl | succ k ih => simp only [Fld.dblN, ih]; rfl
            have h2 : ∀ k, Fld.mulS 0 x k = 0 := by intro k; induction k with | zero => rfl | succ k ih => simp [Fld.mulS, ih, this]
            exact h2 8
  | succ n ih => simp only [xsum]; rw [Fld.mul_xor_left x (xsum_lt n (fun i hi => h i (by omega))) (h n (by omega)), ih (fun i hi => h i (by omega))]
theorem xsum_zero {f : Nat → Nat} (n : Nat) (h : ∀ i, i < n → f i = 0) : xsum f n = 0 := by
  rw [xsum_congr n (g := fun _ => 0) h]
  induction n with
  | zero => rfl
  | succ n ih => simp only [xsum]; rw [ih (fun i hi => h i (by omega))]; rfl
theorem xsum_past (f : Nat → Nat) (n z : Nat) (h : ∀ i, n ≤ i → i < n + z → f i = 0) : xsum f (n + z) = xsum f n := by
  induction z with
  | zero => rfl
  | succ z ih => rw [← Nat.add_assoc]; simp only [xsum]; rw [h _ (by omega) (by omega), ih (fun i h1 h2 => h i h1 (by omega)), Nat.xor_zero]
/-- one term turned -/
theorem xsum_one {f g : Nat → Nat} (n j : Nat) (hj : j < n) (h : ∀ i, i ≠ j → f i = g i) : xsum f n = xsum g n ^^^ (f j ^^^ g j) := by
  induction n with
  | zero => omega
  | succ n ih =>
    simp only [xsum]
    by_cases e : j = n
    · subst e
      rw [xsum_congr j (fun i hi => h i (by omega))]
      rw [Nat.xor_assoc, Nat.xor_comm (f j) (g j), ← Nat.xor_assoc (g j), Nat.xor_self, Nat.zero_xor]
    · rw [ih (by omega), h n (by omega), Nat.xor_assoc, Nat.xor_comm (f j ^^^ g j) (g n), ← Nat.xor_assoc]

/-- the value of the first n coefficients at x -/
def ev (f : Nat → Nat) (n x : Nat) : Nat := xsum (fun i => Fld.mul (f i) (Fld.pw x i)) n
theorem ev_congr {f g : Nat → Nat} (n x : Nat) (h : ∀ i, i < n → f i = g i) : ev f n x = ev g n x := xsum_congr n (fun i hi => by rw [h i hi])
theorem ev_lt {f : Nat → Nat} (n x : Nat) (h : ∀ i, f i < 256) : ev f n x < 256 := xsum_lt n (fun i _ => Fld.mul_lt _ (h i))
theorem ev_past (f : Nat → Nat) (n z x : Nat) (hx : x < 256) (h : ∀ i, n ≤ i → f i = 0) : ev f (n + z) x = ev f n x :=
  xsum_past _ n z (fun i h1 _ => by show Fld.mul (f i) (Fld.pw x i) = 0; rw [h i h1, Fld.zero_mul (Fld.pw_lt x i hx)])
theorem ev_xor {f g : Nat → Nat} (n x : Nat) (hf : ∀ i, f i < 256) (hg : ∀ i, g i < 256) : ev (fun i => f i ^^^ g i) n x = ev f n x ^^^ ev g n x := by
  unfold ev
  rw [← xsum_xor]
  exact xsum_congr n (fun i _ => Fld.mul_xor_left _ (hf i) (hg i))
theorem mul_right_comm {a b c : Nat} (ha : a < 256) (hb : b < 256) (hc : c < 256) : Fld.mul (Fld.mul a b) c = Fld.mul (Fld.mul a c) b := by
  rw [Fld.mul_assoc ha hb hc, Fld.mul_comm hb hc, ← Fld.mul_assoc ha hc hb]
theorem ev_scale {f : Nat → Nat} (n x c : Nat) (hf : ∀ i, f i < 256) (hx : x < 256) (hc : c < 256) : ev (fun i => Fld.mul (f i) c) n x = Fld.mul (ev f n x) c := by
  unfold ev
  rw [xsum_mul n c (fun i _ => Fld.mul_lt _ (hf i))]
  exact xsum_congr n (fun i _ => mul_right_comm (hf i) hc (Fld.pw_lt x i hx))
/-- x times a polynomial -/
theorem ev_shift {f : Nat → Nat} (n x : Nat) (hf : ∀ i, f i < 256) (hx : x < 256) : ev (fun i => if i = 0 then 0 else f (i - 1)) (n + 1) x = Fld.mul (ev f n x) x := by
  unfold ev
  rw [xsum_front, xsum_mul n x (fun i _ => Fld.mul_lt _ (hf i))]
  simp only [if_true, Nat.add_sub_cancel]
  rw [Fld.zero_mul (Fld.pw_lt x 0 hx), Nat.zero_xor]
  refine xsum_congr n (fun i _ => ?_)
  rw [if_neg (by omega)]
  show Fld.mul (f i) (Fld.mul (Fld.pw x i) x) = _
  rw [Fld.mul_assoc (hf i) (Fld.pw_lt x i hx) hx]
theorem horN_eq {P : List Nat} (hP : IsB P) (x : Nat) (hx : x < 256) (k : Nat) (hk : k ≤ P.length) : horN P x k = xsum (fun i => Fld.mul (nth P (P.length - k + i)) (Fld.pw x i)) k := by
  induction k with
  | zero => rfl
  | succ k ih =>
    rw [show horN P x (k + 1) = Fld.mul (horN P x k) x ^^^ nth P (P.length - 1 - k) from rfl, ih (by omega), xsum_mul k x (fun i _ => Fld.mul_lt _ (hP.nth _)), xsum_front]
    rw [show Fld.pw x 0 = 1 from rfl, Fld.mul_one (hP.nth _), Nat.xor_comm, show P.length - (k + 1) + 0 = P.length - 1 - k by omega]
    congr 1
    refine xsum_congr k (fun i hi => ?_)
    show _ = Fld.mul (nth P (P.length - (k + 1) + (i + 1))) (Fld.mul (Fld.pw x i) x)
    rw [show P.length - (k + 1) + (i + 1) = P.length - k + i by omega, Fld.mul_assoc (hP.nth _) (Fld.pw_lt x i hx) hx]
theorem atL_eq {P : List Nat} (hP : IsB P) (x : Nat) (hx : x < 256) : atL P x = ev (nth P) P.length x := by
  unfold atL
  rw [horN_eq hP x hx _ (Nat.le_refl _)]
  exact xsum_congr _ (fun i _ => by rw [Nat.sub_self, Nat.zero_add])
theorem atL_ev {P : List Nat} (hP : IsB P) (x n : Nat) (hx : x < 256) (hn : P.length ≤ n) : atL P x = ev (nth P) n x := by
  rw [atL_eq hP x hx, show n = P.length + (n - P.length) by omega, ev_past _ _ _ _ hx (fun i hi => nth_out P i hi)]
theorem atL_congr {A B : List Nat} (hA : IsB A) (hB : IsB B) (x : Nat) (hx : x < 256) (h : ∀ i, nth A i = nth B i) : atL A x = atL B x := by
  rw [atL_ev hA x (max A.length B.length) hx (by omega), atL_ev hB x (max A.length B.length) hx (by omega)]
  exact ev_congr _ _ (fun i _ => h i)
theorem atL_lt {P : List Nat} (hP : IsB P) (x : Nat) : atL P x < 256 := horN_lt hP x _

/-! trimming looks at the numbers alone -/
theorem trimN_lift (A : List Nat) (n : Nat) (h : A.length ≤ n) : trimN A n = trimN A A.length := by
  rw [show n = A.length + (n - A.length) by omega]
  induction (n - A.length) with
  | zero => rfl
  | succ z ih => rw [← Nat.add_assoc, trimN_zero A _ (nth_out A _ (by omega)), ih]
theorem trimN_ext {A B : List Nat} (k : Nat) (h : ∀ i, nth A i = nth B i) : trimN A k = trimN B k := by
  induction k with
  | zero => rfl
  | succ k ih => unfold trimN; rw [h k, ih]
theorem trimL_congr {A B : List Nat} (h : ∀ i, nth A i = nth B i) : trimL A = trimL B := by
  have e : trimN A A.length = trimN B B.length := by
    rw [← trimN_lift A (max A.length B.length) (by omega), ← trimN_lift B (max A.length B.length) (by omega), trimN_ext _ h]
  have h1 := trimN_le A A.length
  have h2 := trimN_le B B.length
  unfold trimL
  refine list_ext (by rw [List.length_take, List.length_take]; omega) fun i hi => ?_
  rw [List.length_take] at hi
  rw [nth_take _ _ _ (by omega), nth_take _ _ _ (by omega), h i]
theorem nth_trimL (A : List Nat) (i : Nat) : nth (trimL A) i = nth A i := by
  unfold trimL
  by_cases h : i < trimN A A.length
  · exact nth_take _ _ _ h
  · rw [nth_out _ _ (by rw [List.length_take]; omega)]
    have : ∀ k, trimN A k ≤ i → i < k → nth A i = 0 := by
      intro k
      induction k with
      | zero => intro _ h; omega
      | succ k ih =>
        intro h1 h2
        by_cases hz : nth A k = 0
        · rw [trimN_zero A k hz] at h1
          by_cases e : i = k
          · subst e; exact hz
          · exact ih h1 (by omega)
        · rw [trimN_nz A k hz] at h1; omega
    by_cases h2 : i < A.length
    · exact (this A.length (by omega) h2).symm
    · exact (nth_out A i (by omega)).symm
theorem trimL_trimL (A : List Nat) : trimL (trimL A) = trimL A := trimL_congr (nth_trimL A)
theorem isB_trimL {A : List Nat} (h : IsB A) : IsB (trimL A) := isB_take h _

theorem nth_addN (L Q : List Nat) (o c k j : Nat) (h : o + k ≤ L.length) : nth (addN L o Q c k) j = if o ≤ j ∧ j < o + k then nth L j ^^^ Fld.mul (nth Q (j - o)) c else nth L j := by
  induction k with
  | zero => rw [if_neg (by omega)]; rfl
  | succ k ih =>
    simp only [addN]
    rw [nth_set _ _ _ _ (by rw [addN_length]; omega)]
    by_cases e : o + k = j
    · subst e
      rw [if_pos rfl, if_pos (by omega), show o + k - o = k by omega]
      have : nth (addN L o Q c k) (o + k) = nth L (o + k) := by
        have := ih (by omega)
        rw [this, if_neg (by omega)]
      rw [this]
    · rw [if_neg e, ih (by omega)]
      by_cases e2 : o ≤ j ∧ j < o + k
      · rw [if_pos e2, if_pos (by omega)]
      · rw [if_neg e2, if_neg (by omega)]

/-! the polynomial through points, one point more at a time -/
def cbF (X : List Nat) : Nat → Nat → Nat
  | 0, j => if j = 0 then 1 else 0
  | i + 1, j => Fld.mul (cbF X i j) (nth X i) ^^^ (if j = 0 then 0 else cbF X i (j - 1))
def kOf (y t b : Nat) : Nat := Fld.mul (y ^^^ t) (Fld.inv b)
def ctF (X Y : List Nat) (n : Nat) : Nat → Nat → Nat
  | 0, _ => 0
  | i + 1, j => ctF X Y n i j ^^^ Fld.mul (cbF X i j) (kOf (nth Y i) (ev (ctF X Y n i) (n + 1) (nth X i)) (ev (cbF X i) (n + 1) (nth X i)))
theorem cbF_lt {X : List Nat} (hX : IsB X) (i j : Nat) : cbF X i j < 256 := by
  induction i generalizing j with
  | zero => unfold cbF; split <;> decide
  | succ i ih =>
    unfold cbF
    refine Fld.xor_lt (Fld.mul_lt _ (ih j)) ?_
    split
    · decide
    · exact ih _
theorem cbF_out (X : List Nat) (hX : IsB X) (i j : Nat) (h : i < j) : cbF X i j = 0 := by
  induction i generalizing j with
  | zero => unfold cbF; rw [if_neg (by omega)]
  | succ i ih => unfold cbF; rw [ih j (by omega), Fld.zero_mul (hX.nth i), if_neg (by omega), ih (j - 1) (by omega)]; rfl
theorem ctF_lt {X Y : List Nat} (hX : IsB X) (n i j : Nat) : ctF X Y n i j < 256 := by
  induction i with
  | zero => unfold ctF; decide
  | succ i ih => unfold ctF; exact Fld.xor_lt ih (Fld.mul_lt _ (cbF_lt hX i j))
theorem kOf_lt {y t b : Nat} (hy : y < 256) (ht : t < 256) : kOf y t b < 256 := Fld.mul_lt _ (Fld.xor_lt hy ht)
theorem ctF_out {X Y : List Nat} (hX : IsB X) (hY : IsB Y) (n i j : Nat) (h : i ≤ j) : ctF X Y n i j = 0 := by
  induction i with
  | zero => rfl
  | succ i ih =>
    unfold ctF
    rw [ih (by omega), cbF_out X hX i j (by omega), Fld.zero_mul (kOf_lt (hY.nth i) (ev_lt _ _ (fun k => ctF_lt hX n i k)))]; rfl
theorem inv_zero : Fld.inv 0 = 0 := by decide +kernel
theorem divV_eq (a b : Nat) : divV a b = Fld.mul a (Fld.inv b) := by
  unfold divV; split
  · next h => rw [h, inv_zero, Fld.mul_zero]
  · rfl
/-- what Through answers of n points -/
def thL (X Y : List Nat) : List Nat := trimL ((List.range (X.length + 1)).map (ctF X Y X.length X.length))
theorem thL_of {X Y T : List Nat} (hX : IsB X) (hY : IsB Y) (h : ∀ j, nth T j = ctF X Y X.length X.length j) : trimL T = thL X Y := by
  unfold thL
  refine trimL_congr fun j => ?_
  rw [h j]
  by_cases hj : j < X.length + 1
  · rw [nth_map_range _ _ _ hj]
  · rw [nth_out _ _ (by simp; omega), ctF_out hX hY _ _ _ (by omega)]
end Go.Proofs.YtpenggkefbbopaaDoor
