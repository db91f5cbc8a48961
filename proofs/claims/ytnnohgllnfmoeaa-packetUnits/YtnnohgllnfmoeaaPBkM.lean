import Derived.Test.YtnnohgllnfmoeaaPDec
namespace Go.Proofs.Ytnnohgllnfmoeaa
set_option linter.unusedVariables false
set_option linter.unusedSimpArgs false

theorem nth_app_left (A B : List Nat) (i : Nat) (h : i < A.length) : nth (A ++ B) i = nth A i := nth_append_left A B i h
theorem nth_hdL (u s ap pt ct n k : Nat) (hk : k < 6) (R : List Nat) : nth (hdL u s ap pt ct n ++ R) k = hdB (hdN u s ap pt ct n) k := by
  rw [nth_app_left _ _ _ (by rw [hdL_len]; exact hk)]
  unfold hdL
  rw [tab_nth _ _ _ hk]
theorem hdN_lt (u s ap pt ct n : Nat) (hu : u < 2) (hs : s < 2) (hap : ap < 2048) (hpt : pt < 4) (hct : ct < 16384) (hn : n ≤ 65536) (h1 : 1 ≤ n) : hdN u s ap pt ct n < 35184372088832 := by
  unfold hdN hd1; omega
theorem hdV_hdL (u s ap pt ct n : Nat) (R : List Nat) (hu : u < 2) (hs : s < 2) (hap : ap < 2048) (hpt : pt < 4) (hct : ct < 16384) (hn : n ≤ 65536) (h1 : 1 ≤ n) : hdV (hdL u s ap pt ct n ++ R) 6 = hdN u s ap pt ct n := by
  have hl := hdN_lt u s ap pt ct n hu hs hap hpt hct hn h1
  have e : ∀ k, k < 6 → nth (hdL u s ap pt ct n ++ R) k = hdB (hdN u s ap pt ct n) k := fun k hk => nth_hdL u s ap pt ct n k hk R
  simp only [hdV]
  rw [e 0 (by decide), e 1 (by decide), e 2 (by decide), e 3 (by decide), e 4 (by decide), e 5 (by decide)]
  generalize hdN u s ap pt ct n = H at hl
  unfold hdB
  simp only [Nat.reduceMul, Nat.reduceSub, Nat.reducePow, Nat.div_one]
  omega
/-- what was encoded is decoded, whatever lies behind it -/
theorem dc_enc (up se : Bool) (ap pt ct : Int) (D R : List Nat) (h : mayE ap pt ct D.length = 0) :
    dcE (encP up se ap pt ct D ++ R) = 0 ∧ dcU (encP up se ap pt ct D ++ R) = up ∧ dcS (encP up se ap pt ct D ++ R) = se ∧ (dcA (encP up se ap pt ct D ++ R) : Int) = ap ∧ (dcP (encP up se ap pt ct D ++ R) : Int) = pt ∧ (dcC (encP up se ap pt ct D ++ R) : Int) = ct ∧
      dcK (encP up se ap pt ct D ++ R) = D.length + 6 ∧ dcD (encP up se ap pt ct D ++ R) = D := by
  obtain ⟨⟨⟨a1, a2⟩, ⟨p1, p2⟩, c1, c2⟩, n1, n2⟩ := mayE_ok h
  obtain ⟨ap', rfl⟩ := Int.eq_ofNat_of_zero_le a1
  obtain ⟨pt', rfl⟩ := Int.eq_ofNat_of_zero_le p1
  obtain ⟨ct', rfl⟩ := Int.eq_ofNat_of_zero_le c1
  have hu := toNat_le up
  have hs := toNat_le se
  have eB : encP up se (ap' : Int) (pt' : Int) (ct' : Int) D ++ R = hdL up.toNat se.toNat ap' pt' ct' D.length ++ (D ++ R) := by
    unfold encP; rw [if_pos h, List.append_assoc]; rfl
  rw [eB]
  have eH := hdV_hdL up.toNat se.toNat ap' pt' ct' D.length (D ++ R) hu hs (by omega) (by omega) (by omega) n2 n1
  have hL : (hdL up.toNat se.toNat ap' pt' ct' D.length ++ (D ++ R)).length = 6 + (D.length + R.length) := by rw [List.length_append, hdL_len, List.length_append]
  have hd : (hdL up.toNat se.toNat ap' pt' ct' D.length ++ (D ++ R)).drop 6 = D ++ R := by
    have := List.drop_left (l₁ := hdL up.toNat se.toNat ap' pt' ct' D.length) (l₂ := D ++ R)
    rw [hdL_len] at this
    exact this
  have eN : hdN up.toNat se.toNat ap' pt' ct' D.length = ((((up.toNat * 2 + se.toNat) * 2048 + ap') * 4 + pt') * 16384 + ct') * 65536 + (D.length - 1) := rfl
  have hE : dcE (hdL up.toNat se.toNat ap' pt' ct' D.length ++ (D ++ R)) = 0 := by
    unfold dcE
    rw [hL, eH, eN, if_neg (by omega), if_neg (by omega), if_neg (by omega)]
  refine ⟨hE, ?_, ?_, ?_, ?_, ?_, ?_, ?_⟩
  · unfold dcU
    rw [if_pos hE, eH, eN]
    have : (((((up.toNat * 2 + se.toNat) * 2048 + ap') * 4 + pt') * 16384 + ct') * 65536 + (D.length - 1)) / 2 ^ 44 % 2 = up.toNat := by omega
    rw [this]
    cases up <;> rfl
  · unfold dcS
    rw [if_pos hE, eH, eN]
    have : (((((up.toNat * 2 + se.toNat) * 2048 + ap') * 4 + pt') * 16384 + ct') * 65536 + (D.length - 1)) / 2 ^ 43 % 2 = se.toNat := by omega
    rw [this]
    cases se <;> rfl
  · unfold dcA
    rw [if_pos hE, eH, eN]
    omega
  · unfold dcP
    rw [if_pos hE, eH, eN]
    omega
  · unfold dcC
    rw [if_pos hE, eH, eN]
    omega
  · unfold dcK
    rw [if_pos hE, eH, eN]
    omega
  · unfold dcD
    rw [if_pos hE, eH, eN, hd]
    have : (((((up.toNat * 2 + se.toNat) * 2048 + ap') * 4 + pt') * 16384 + ct') * 65536 + (D.length - 1)) % 65536 + 1 = D.length := by omega
    rw [this]
    exact List.take_left
end Go.Proofs.Ytnnohgllnfmoeaa
