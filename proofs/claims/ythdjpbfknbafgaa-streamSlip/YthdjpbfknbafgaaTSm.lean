import Derived.Test.YthdjpbfknbafgaaTAl
namespace Go.Proofs.Ythdjpbfknbafgaa
set_option linter.unusedVariables false
set_option linter.unusedSimpArgs false
set_option maxRecDepth 100000

/-- bits with one too many at p, or without the one at p -/
def slB (B : List Nat) (p x : Nat) (mo : Bool) : List Nat := if mo then (B.take p ++ [x]) ++ B.drop p else B.take p ++ B.drop (p + 1)
theorem nth_takeT (B : List Nat) (p i : Nat) (h : i < p) : nth (B.take p) i = nth B i := by
  unfold nth
  rw [List.getD_eq_getElem?_getD, List.getD_eq_getElem?_getD, List.getElem?_take, if_pos h]
theorem nth_dropT (B : List Nat) (p i : Nat) : nth (B.drop p) i = nth B (p + i) := by
  unfold nth
  rw [List.getD_eq_getElem?_getD, List.getD_eq_getElem?_getD, List.getElem?_drop]
theorem nth_appR (A B : List Nat) (i : Nat) : nth (A ++ B) (A.length + i) = nth B i := by
  unfold nth
  rw [List.getD_eq_getElem?_getD, List.getD_eq_getElem?_getD, List.getElem?_append_right (by omega), Nat.add_sub_cancel_left]
theorem slB_low (B : List Nat) (p x : Nat) (mo : Bool) (hp : p < B.length) (i : Nat) (h : i < p) : nth (slB B p x mo) i = nth B i := by
  have hl : (B.take p).length = p := by rw [List.length_take]; omega
  unfold slB
  cases mo with
  | true =>
    show nth ((B.take p ++ [x]) ++ B.drop p) i = _
    rw [List.append_assoc, nth_append_left _ _ _ (by rw [hl]; exact h), nth_takeT _ _ _ h]
  | false =>
    show nth (B.take p ++ B.drop (p + 1)) i = _
    rw [nth_append_left _ _ _ (by rw [hl]; exact h), nth_takeT _ _ _ h]
/-- where a bit of the row lies then -/
def shN (mo : Bool) (i : Nat) : Nat := if mo then i + 1 else i - 1
theorem slB_high (B : List Nat) (p x : Nat) (mo : Bool) (hp : p < B.length) (i : Nat) (h : p + 1 ≤ i) : nth (slB B p x mo) (shN mo i) = nth B i := by
  have hl : (B.take p).length = p := by rw [List.length_take]; omega
  unfold slB shN
  cases mo with
  | true =>
    show nth ((B.take p ++ [x]) ++ B.drop p) (i + 1) = _
    have hl2 : (B.take p ++ [x]).length = p + 1 := by rw [List.length_append, hl]; rfl
    rw [show i + 1 = (B.take p ++ [x]).length + (i - p) from by rw [hl2]; omega, nth_appR, nth_dropT, show p + (i - p) = i from by omega]
  | false =>
    show nth (B.take p ++ B.drop (p + 1)) (i - 1) = _
    rw [show i - 1 = (B.take p).length + (i - 1 - p) from by rw [hl]; omega, nth_appR, nth_dropT, show p + 1 + (i - 1 - p) = i from by omega]
theorem slB_len (B : List Nat) (p x : Nat) (mo : Bool) (hp : p < B.length) : (slB B p x mo).length = shN mo B.length := by
  unfold slB shN
  cases mo with
  | true => show ((B.take p ++ [x]) ++ B.drop p).length = B.length + 1; simp; omega
  | false => show (B.take p ++ B.drop (p + 1)).length = B.length - 1; simp; omega
/-- where frame i lies then, the bit in frame k -/
def posS (S k : Nat) (mo : Bool) (i : Nat) : Nat := if i ≤ k then i * S else shN mo (i * S)
theorem mulS (j S : Nat) : (j + 1) * S = j * S + S := by rw [Nat.add_mul, Nat.one_mul]
theorem slip_run (r : Rx) (mo : Bool) (x k v : Nat) (ds : List (List Nat)) (hL : 1 ≤ r.L) (hF : r.F ≤ 3) (hH : r.H ≤ 7) (hl : ∀ d, d ∈ ds → d.length = r.L ∧ IsB d) (hk : k + 1 < ds.length) (hv : v < 8 * r.L) :
    ∀ n, n + 1 ≤ ds.length → EX r (slB (catF ds) (k * (32 + 8 * r.L) + 32 + v) x mo) false (posS (32 + 8 * r.L) k mo) (fun i => ds.getD i []) k (n + 1) (posS (32 + 8 * r.L) k mo n + 32 + 8 * r.L) := by
  have hl1 : ∀ d, d ∈ ds → d.length = r.L := fun d h => (hl d h).1
  have hlen := catF_len ds hl1
  obtain ⟨S, hS⟩ : ∃ S, S = 32 + 8 * r.L := ⟨_, rfl⟩
  have hmk := fun j hj => mk_at (t := false) ds hl1 j hj
  have hdt := fun j d hd => dt_at (t := false) ds hl1 j d hd
  rw [← hS] at hlen hmk hdt ⊢
  have hcb : catB false ds = catF ds := rfl
  rw [hcb] at hmk hdt
  have hkS : (k + 1 + 1) * S ≤ ds.length * S := Nat.mul_le_mul_right _ (by omega)
  have e1 := mulS k S
  have e2 := mulS (k + 1) S
  have hp : k * S + 32 + v < (catF ds).length := by rw [hlen]; omega
  have lo := slB_low (catF ds) (k * S + 32 + v) x mo hp
  have hi := slB_high (catF ds) (k * S + 32 + v) x mo hp
  generalize slB (catF ds) (k * S + 32 + v) x mo = B at lo hi ⊢
  have mLo : ∀ j, j ≤ k → MkAt B (j * S) false := fun j hj i h32 => by
    have h1 : j * S ≤ k * S := Nat.mul_le_mul_right _ hj
    rw [lo _ (by omega)]
    exact hmk j (by omega) i h32
  have dLo : ∀ j d, j < k → ds[j]? = some d → DtAt B (j * S) false d := fun j d hj hd i h8 => by
    have h1 : (j + 1) * S ≤ k * S := Nat.mul_le_mul_right _ hj
    have h2 := mulS j S
    have hdl := hl1 d (List.mem_of_getElem? hd)
    rw [lo _ (by omega)]
    exact hdt j d hd i h8
  have shA : ∀ a i, 1 ≤ a → shN mo a + i = shN mo (a + i) := fun a i h => by unfold shN; cases mo <;> simp <;> omega
  have mHi : ∀ j, k < j → j < ds.length → MkAt B (shN mo (j * S)) false := fun j hj hn i h32 => by
    have h1 : (k + 1) * S ≤ j * S := Nat.mul_le_mul_right _ hj
    rw [shA _ _ (by omega), hi _ (by omega)]
    exact hmk j hn i h32
  have dHi : ∀ j d, k < j → ds[j]? = some d → DtAt B (shN mo (j * S)) false d := fun j d hj hd i h8 => by
    have h1 : (k + 1) * S ≤ j * S := Nat.mul_le_mul_right _ hj
    rw [shA _ _ (by omega), shA _ _ (by omega), hi _ (by omega)]
    exact hdt j d hd i h8
  have hg : ∀ n, n < ds.length → ∃ d, ds[n]? = some d ∧ ds.getD n [] = d := fun n hn => ⟨ds[n], List.getElem?_eq_getElem hn, by rw [List.getD_eq_getElem?_getD, List.getElem?_eq_getElem hn]; rfl⟩
  have dat : ∀ j, j < ds.length → j ≠ k → (ds.getD j []).length = r.L ∧ IsB (ds.getD j []) ∧ DtAt B (posS S k mo j) false (ds.getD j []) := fun j hj hne => by
    obtain ⟨d, h1, h2⟩ := hg j hj
    rw [h2]
    refine ⟨(hl d (List.mem_of_getElem? h1)).1, (hl d (List.mem_of_getElem? h1)).2, ?_⟩
    unfold posS
    by_cases hjk : j ≤ k
    · rw [if_pos hjk]; exact dLo j d (by omega) h1
    · rw [if_neg hjk]; exact dHi j d (by omega) h1
  intro n
  induction n with
  | zero =>
    intro hn
    have hp0 : posS S k mo 0 = 0 := by unfold posS; rw [if_pos (Nat.zero_le _), Nat.zero_mul]
    have hm := mLo 0 (Nat.zero_le _)
    rw [Nat.zero_mul] at hm
    have hd0 := dat 0 (by omega)
    rw [hp0] at hd0 ⊢
    exact EX.first hL (by omega) hp0 hm (fun h => hd0 h)
  | succ n ih =>
    intro hn
    have hi' := ih (by omega)
    have hdn := dat (n + 1) (by omega)
    by_cases h1 : n + 1 ≤ k
    · have hpn : posS S k mo n = n * S := by unfold posS; rw [if_pos (by omega)]
      have hpn1 : posS S k mo (n + 1) = (n + 1) * S := by unfold posS; rw [if_pos h1]
      rw [hpn, show n * S + 32 + 8 * r.L = (n + 1) * S from by have := mulS n S; omega] at hi'
      rw [hpn1] at hdn ⊢
      exact hi'.here hL hpn1 (mLo (n + 1) h1) (fun h => hdn h)
    · by_cases h2 : n = k
      · subst h2
        have hpn : posS S n mo n = n * S := by unfold posS; rw [if_pos (Nat.le_refl _)]
        have hpn1 : posS S n mo (n + 1) = shN mo ((n + 1) * S) := by unfold posS; rw [if_neg h1]
        rw [hpn, show n * S + 32 + 8 * r.L = (n + 1) * S from by have := mulS n S; omega] at hi'
        rw [hpn1] at hdn ⊢
        have hm := mHi (n + 1) (by omega) (by omega)
        have hq : 1 ≤ (n + 1) * S := by omega
        cases mo with
        | true => exact hi'.many hL hH hF hq hpn1 hm (fun h => hdn h)
        | false => exact hi'.lost hL hH hq hpn1 hm (fun h => hdn h)
      · have hpn : posS S k mo n = shN mo (n * S) := by unfold posS; rw [if_neg (by omega)]
        have hpn1 : posS S k mo (n + 1) = shN mo ((n + 1) * S) := by unfold posS; rw [if_neg h1]
        have hnS : (k + 1) * S ≤ n * S := Nat.mul_le_mul_right _ (by omega)
        rw [hpn, Nat.add_assoc, shA _ _ (by omega), show n * S + (32 + 8 * r.L) = (n + 1) * S from by have := mulS n S; omega] at hi'
        rw [hpn1] at hdn ⊢
        exact hi'.here hL hpn1 (mHi (n + 1) (by omega) (by omega)) (fun h => hdn h)
theorem slip_told (r : Rx) (mo : Bool) (x k v : Nat) (ds : List (List Nat)) (hL : 1 ≤ r.L) (hF : r.F ≤ 3) (hH : r.H ≤ 7) (hl : ∀ d, d ∈ ds → d.length = r.L ∧ IsB d) (hk : k + 1 < ds.length) (hv : v < 8 * r.L) :
    ∃ T b, toX r s0X [slB (catF ds) (k * (32 + 8 * r.L) + 32 + v) x mo] = [T] ∧ loX r s0X [slB (catF ds) (k * (32 + 8 * r.L) + 32 + v) x mo] = [b] ∧ TI T ds.length (posS (32 + 8 * r.L) k mo) false (fun i => ds.getD i []) k := by
  have hl1 : ∀ d, d ∈ ds → d.length = r.L := fun d h => (hl d h).1
  obtain ⟨m, T, h1, h2⟩ := (slip_run r mo x k v ds hL hF hH hl hk hv (ds.length - 1) (by omega)).ex
  have hlen := catF_len ds hl1
  have hkS : (k + 1 + 1) * (32 + 8 * r.L) ≤ ds.length * (32 + 8 * r.L) := Nat.mul_le_mul_right _ (by omega)
  have e1 := mulS k (32 + 8 * r.L)
  have e2 := mulS (k + 1) (32 + 8 * r.L)
  have e3 := mulS (ds.length - 1) (32 + 8 * r.L)
  rw [show ds.length - 1 + 1 = ds.length from by omega] at e3 h2
  have hsl := slB_len (catF ds) (k * (32 + 8 * r.L) + 32 + v) x mo (by rw [hlen]; omega)
  have hq : posS (32 + 8 * r.L) k mo (ds.length - 1) + 32 + 8 * r.L = (slB (catF ds) (k * (32 + 8 * r.L) + 32 + v) x mo).length := by
    rw [hsl, hlen, e3]
    unfold posS
    rw [if_neg (by omega)]
    have : 1 ≤ (ds.length - 1) * (32 + 8 * r.L) := by
      have := Nat.mul_le_mul_right (32 + 8 * r.L) (show 1 ≤ ds.length - 1 by omega)
      omega
    unfold shN
    cases mo <;> simp <;> omega
  rw [hq] at h1
  refine ⟨T, _, ?_, rfl, h2⟩
  show [(tkX r s0X _ (slB _ _ _ _).length).2] = _
  rw [h1]
end Go.Proofs.Ythdjpbfknbafgaa
