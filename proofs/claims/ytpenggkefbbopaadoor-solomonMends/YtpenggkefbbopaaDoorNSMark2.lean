import Derived.Test.YtpenggkefbbopaaDoorNSComp
namespace Go.Proofs.YtpenggkefbbopaaDoor
open Go.RowKit
set_option maxRecDepth 100000
set_option linter.unusedVariables false
set_option linter.unusedSimpArgs false

/-- holes marked: the first k of P -/
def mkN (P : List Nat) (n : Nat) : Nat → List Bool
  | 0 => List.replicate n false
  | k + 1 => (mkN P n k).set (nth P k) true
theorem mkN_len (P : List Nat) (n k : Nat) : (mkN P n k).length = n := by
  induction k with
  | zero => simp [mkN]
  | succ k ih => simp only [mkN, List.length_set]; exact ih
theorem bat_set (H : List Bool) (i : Nat) (x : Bool) (p : Nat) (hi : i < H.length) : bat (H.set i x) p = if i = p then x else bat H p := by
  unfold bat
  rw [List.getD_eq_getElem?_getD, List.getD_eq_getElem?_getD, List.getElem?_set]
  by_cases h : i = p
  · subst h; simp [hi]
  · simp [h]
theorem bat_mk [Add GF] [Mul GF] [OfNat GF 0] [OfNat GF 1] [L : Nonempty GL] (P : List Nat) (n : Nat) (hlt : ∀ i, i < P.length → nth P i < n) (k : Nat) (hk : k ≤ P.length) (p : Nat) : bat (mkN P n k) p = true ↔ ∃ i, i < k ∧ nth P i = p := by
  induction k with
  | zero => simp only [mkN, bat_none]; constructor
            · intro h; cases h
            · rintro ⟨i, hi, _⟩; omega
  | succ k ih =>
    simp only [mkN]
    rw [bat_set _ _ _ _ (by rw [mkN_len]; exact hlt k (by omega))]
    by_cases h : nth P k = p
    · rw [if_pos h]; exact ⟨fun _ => ⟨k, by omega, h⟩, fun _ => rfl⟩
    · rw [if_neg h, ih (by omega)]
      constructor
      · rintro ⟨i, hi, e⟩; exact ⟨i, by omega, e⟩
      · rintro ⟨i, hi, e⟩
        have : i ≠ k := fun e2 => h (by rw [← e2]; exact e)
        exact ⟨i, by omega, e⟩
theorem cnt_set [Add GF] [Mul GF] [OfNat GF 0] [OfNat GF 1] [L : Nonempty GL] (H : List Bool) (i n : Nat) (hi : i < n) (hl : i < H.length) (h : bat H i = false) : cntB (H.set i true) n = cntB H n + 1 := by
  induction n with
  | zero => omega
  | succ n ih =>
    unfold cntB
    rw [bat_set _ _ _ _ hl]
    by_cases e : i = n
    · subst e
      rw [if_pos rfl, h]
      have e2 : cntB (H.set i true) i = cntB H i := by
        have : ∀ k, k ≤ i → cntB (H.set i true) k = cntB H k := by
          intro k
          induction k with
          | zero => intro _; rfl
          | succ k ih2 =>
            intro hk
            have e3 : bat (H.set i true) k = bat H k := by rw [bat_set _ _ _ _ hl, if_neg (by omega)]
            unfold cntB; rw [e3, ih2 (by omega)]
        exact this i (Nat.le_refl _)
      simp [e2]
    · rw [if_neg e, ih (by omega)]
      split <;> rfl
def Dist (P : List Nat) : Prop := ∀ i j, j < i → i < P.length → nth P j ≠ nth P i
theorem mk_new [Add GF] [Mul GF] [OfNat GF 0] [OfNat GF 1] [L : Nonempty GL] {P : List Nat} {n : Nat} (hlt : ∀ i, i < P.length → nth P i < n) (hd : Dist P) (k : Nat) (hk : k < P.length) : bat (mkN P n k) (nth P k) = false := by
  have h := bat_mk P n hlt k (by omega) (nth P k)
  by_cases e : bat (mkN P n k) (nth P k) = true
  · obtain ⟨i, hi, e2⟩ := h.1 e
    exact absurd e2 (hd k i hi hk)
  · simpa using e
theorem cnt_mk [Add GF] [Mul GF] [OfNat GF 0] [OfNat GF 1] [L : Nonempty GL] {P : List Nat} {n : Nat} (hlt : ∀ i, i < P.length → nth P i < n) (hd : Dist P) (k : Nat) (hk : k ≤ P.length) : cntB (mkN P n k) n = k := by
  induction k with
  | zero => exact cnt_none n n
  | succ k ih =>
    simp only [mkN]
    rw [cnt_set _ _ _ (hlt k (by omega)) (by rw [mkN_len]; exact hlt k (by omega)) (mk_new hlt hd k (by omega)), ih (by omega)]
theorem mark_ok [Add GF] [Mul GF] [OfNat GF 0] [OfNat GF 1] [L : Nonempty GL] (a : Option Addr) (m cap n lo : Nat) (P : List Nat) (w : World) (hp : AnsI w lo a m cap P) (hlt : ∀ i, i < P.length → nth P i < n) (hd : Dist P) (hn : n ≤ 100000) (hm : m ≤ 100000) :
    Calls Tryd.prog 10 #[.slice a m cap, .int .i64 n] w fun e w' => e = .returned (.tuple #[.slice (some ⟨w.heap.size, 0, none⟩) n n, .int .i64 0]) ∧ RdB w' (some ⟨w.heap.size, 0, none⟩) n n (mkN P n m) ∧ w.grownBy w' none := by
  have HL : Hid (P.length = m) := hp.len
  go_enter Tryd.func10, Tryd.ntmps10
  go_wp2
  go_loop [13] (fun i => ∃ k : Nat, k ≤ m ∧ i = .int .i64 k) (fun i => m - (intOf i).toNat)
  case atStart => exact ⟨0, by omega, rfl⟩
  case round =>
    obtain ⟨k, hk, rfl⟩ := hrel
    by_cases hkm : k < m
    · obtain ⟨g, hg, hc⟩ := hp.at' (by omega)
      subst hg
      have hck := hc k hkm
      have hl := hlt k (by rw [HL.out]; exact hkm)
      clear hc
      go_wp2
      go_round
      case rel => exact ⟨k + 1, by omega, by go_num⟩
      case measure => simp [intOf]; omega
    · obtain rfl : k = m := by omega
      go_wp2_with (at_make; refine wpList_mkBool _ rfl _ _ rfl _ _ n rfl rfl rfl rfl (by omega) ?_; intro w1 hb1 hg1)
      go_loopw [29] (fun i wr => ∃ q : Nat, q ≤ k ∧ i = .int .i64 q ∧ w.grownBy wr none ∧ BlkB wr w.heap.size (mkN P n q)) (fun i _ => k - (intOf i).toNat)
      case atStart => exact ⟨0, by omega, rfl, hg1, hb1⟩
      case round =>
        obtain ⟨q, hq, rfl, hgr, hB⟩ := hrel
        by_cases hqk : q < k
        · obtain ⟨g, hg, hc⟩ := (hp.keep hgr).at' (by omega)
          subst hg
          have hcq := hc q hqk
          have hl := hlt q (by rw [HL.out]; exact hqk)
          have hml := mkN_len P n q
          have hcb := hB.cell (nth P q) (by rw [hml]; exact hl)
          rw [mk_new hlt hd q (by rw [HL.out]; exact hqk)] at hcb
          have hfb := hB.free (nth P q)
          have hS := hB.set (nth P q) true
          clear hc hml
          go_wp2
          go_roundw
          case rel => exact ⟨q + 1, by omega, by go_num, new_then hgr (grown_set _ _ _ _), hS⟩
          case measure => simp [intOf]; omega
        · obtain rfl : q = k := by omega
          have hR := hB.rd (mkN_len P n q) (by unfold maxLen; omega)
          go_wp2
          go_ret2
          exact ⟨rfl, hR, hgr⟩
end Go.Proofs.YtpenggkefbbopaaDoor
