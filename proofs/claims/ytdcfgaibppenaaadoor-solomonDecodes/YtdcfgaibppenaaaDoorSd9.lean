import Derived.Test.YtdcfgaibppenaaaDoorSd8
import Derived.Laws.Rows
import Derived.Laws.Tables
import Derived.Test.YtdcfgaibppenaaaDoorSd2
import Derived.Test.YtdcfgaibppenaaaDoorProg
import Derived.Deep.RegionHeld3
namespace Go.Proofs.YtdcfgaibppenaaaDoor
open Go.RowKit
set_option maxRecDepth 100000
set_option linter.unusedVariables false
set_option linter.unusedSimpArgs false

section
open GF

/-! what is answered is near, whatever the holes -/
theorem cn_filter (B : Nat → Bool) (n : Nat) : cn B n = ((List.range n).filter B).length := by
  induction n with
  | zero => rfl
  | succ n ih =>
    rw [List.range_succ, List.filter_append, List.length_append, ← ih]
    show (if B n then cn B n + 1 else cn B n) = _
    cases e : B n <;> simp [e]
theorem near_ofH [Add GF] [Mul GF] [OfNat GF 0] [OfNat GF 1] [L : Nonempty GL] {W W' P : List Nat} (hW : IsB W) (H : List Bool) (c : Nat) (hc : c ≤ 64) (hn : W.length ≤ 255) (hH : H.length = W.length) (h : decO W c H = some (W', P)) :
    IsB W' ∧ W'.length = W.length ∧ valL W' c = [] ∧ P = difN W W' W.length ∧ 2 * cn (wrU W W' H) W.length + cntB H W.length ≤ c := by
  unfold decO at h
  rw [hH] at h
  by_cases hh : c < cntB H W.length
  · rw [if_pos hh] at h; cases h
  rw [if_neg hh] at h
  by_cases hv : valL W c = []
  · rw [if_pos hv] at h
    cases h
    refine ⟨hW, rfl, hv, ?_, ?_⟩
    · unfold difN
      rw [List.filter_eq_nil_iff.2]
      intro p _; simp
    · have : cn (wrU W W H) W.length = 0 := by
        rw [cn_filter, List.filter_eq_nil_iff.2]
        · rfl
        · intro p _; simp [wrU]
      omega
  · rw [if_neg hv] at h
    obtain ⟨K, hK⟩ : ∃ K, K = valL W c := ⟨_, rfl⟩
    have hKB : IsB K := by rw [hK]; exact isB_valL hW c
    have hKl : K.length ≤ c := by rw [hK]; have := trimL_le (synL W c); rw [synL_len] at this; exact this
    rw [← hK] at h
    obtain ⟨l', b', e1, _⟩ := acc_inv hKB c hc H (by rw [hH]; omega)
    rw [hH] at e1
    obtain ⟨Z, hZ⟩ : ∃ Z, Z = (accS K c H).2 := ⟨_, rfl⟩
    obtain ⟨f, hf⟩ : ∃ f, f = (accS K c H).1 := ⟨_, rfl⟩
    obtain ⟨A, hA⟩ : ∃ A, A = accA K c H := ⟨_, rfl⟩
    have hGB := isB_holN H H.length H.length
    have hGl := holN_len H H.length H.length
    obtain ⟨G, hG⟩ : ∃ G, G = holN H H.length H.length := ⟨_, rfl⟩
    have hA1 : A = timR f G := by rw [hA, hf, hG]; rfl
    rw [← hG] at hGB hGl
    rw [hH] at hGl
    have hGv : ∀ x, gv G x = loc W.length (bat H) x := fun x => by rw [hG, hol_val H H.length H.length (by omega) x, hH]; rfl
    rw [← hA, ← hZ] at h
    rw [← hZ, ← hf] at e1
    have i1 := e1.sum
    have i2 := e1.big
    have f0 := e1.tf.1
    have hZB := e1.br
    have hAB : IsB A := by rw [hA1]; exact isB_timR e1.bf hGB
    by_cases hz : valL (mendL W A Z) c = []
    · rw [if_pos hz] at h
      cases h
      have hnl : ∀ p, p < W.length → nth (mendL W A Z) p = nth W p ^^^ mby A Z W.length p := fun p hp => nth_map_range _ _ _ hp
      have hne : ∀ p, p < W.length → (nth W p ≠ nth (mendL W A Z) p ↔ mby A Z W.length p ≠ 0) := fun p hp => by
        rw [hnl p hp]
        constructor
        · intro h1 h2
          exact h1 (by rw [h2, Nat.xor_zero])
        · intro h1 h2
          apply h1
          have := congrArg (nth W p ^^^ ·) h2
          simp only [Nat.xor_self, ← Nat.xor_assoc, Nat.zero_xor] at this
          exact this.symm
      refine ⟨?_, by simp [mendL], hz, ?_, ?_⟩
      · intro x hx
        simp only [mendL, List.mem_map] at hx
        obtain ⟨p, _, rfl⟩ := hx
        exact Fld.xor_lt (hW.nth p) (mby_lt hZB _ _)
      · unfold mendN difN
        refine List.filter_congr fun p hp => ?_
        have := hne p (List.mem_range.1 hp)
        by_cases e : mby A Z W.length p = 0
        · have e2 : nth W p = nth (mendL W A Z) p := Classical.byContradiction fun h => (this.1 h) e
          rw [e, ← e2]; simp
        · rw [bne_iff_ne.2 e, bne_iff_ne.2 (this.2 e)]
      · have hU : cn (wrU W (mendL W A Z) H) W.length < f.length := by
          rw [cn_filter]
          refine few_roots e1.bf e1.tf W.length hn _ (List.Pairwise.filter _ List.pairwise_lt_range) (fun p hp => List.mem_range.1 (List.mem_filter.1 hp).1) (fun p hp => ?_)
          have hpn := List.mem_range.1 (List.mem_filter.1 hp).1
          have hw := (List.mem_filter.1 hp).2
          unfold wrU at hw
          have hw1 := (Bool.and_eq_true_iff.1 hw)
          have hb : bat H p = false := by simpa using hw1.2
          have hm := (hne p hpn).1 (by simpa using hw1.1)
          have hA0 : atL A (ptX W.length p) = 0 := by
            unfold mby at hm
            by_cases e : atL A (ptX W.length p) = 0
            · exact e
            · rw [if_neg e] at hm; exact absurd rfl hm
          have hpt : ptX W.length p = (xp W.length p).v := rfl
          have hAv : gv A (xp W.length p) = 0 := by
            apply GF.ext
            rw [gv_v hAB]
            exact Eq.trans hA0 zero_v.symm
          rw [hA1, gv_mul e1.bf hGB (by omega) (by omega), hGv] at hAv
          have hf0 := (mul_eq_zero hAv).resolve_right (loc_ne hn (bat H) p hpn hb)
          have := congrArg GF.v hf0
          rw [gv_v e1.bf] at this
          exact Eq.trans this zero_v
        omega
    · rw [if_neg hz] at h; cases h

/-! sums over a list of places -/
theorem sum_out [Add GF] [Mul GF] [OfNat GF 0] [OfNat GF 1] [L : Nonempty GL] {n : Nat} (F : Nat → GF) (k : Nat) (hk : k < n) : sum n F = F k + sum n (fun i => if i = k then 0 else F i) := by
  have e : sum n F = sum n (fun i => (if i = k then F k else 0) + (if i = k then 0 else F i)) := sum_congr fun i _ => by
    by_cases h : i = k
    · rw [if_pos h, if_pos h, h, add_zero]
    · rw [if_neg h, if_neg h, zero_add]
  rw [e, sum_add, sum_one k hk (fun i _ hne => if_neg hne), if_pos rfl]
theorem sum_list [Add GF] [Mul GF] [OfNat GF 0] [OfNat GF 1] [L : Nonempty GL] {n : Nat} : ∀ (A : List Nat), A.Nodup → (∀ p, p ∈ A → p < n) → ∀ X : Nat → GF, (∀ p, p < n → p ∉ A → X p = 0) → sum n X = sum A.length (fun k => X (nth A k)) := by
  intro A
  induction A with
  | nil =>
    intro _ _ X h
    exact sum_zero fun i hi => h i hi (by simp)
  | cons a A ih =>
    intro hd hl X h
    have hd' := List.nodup_cons.1 hd
    rw [sum_out X a (hl a (List.mem_cons_self ..)), ih hd'.2 (fun p hp => hl p (List.mem_cons_of_mem _ hp)) (fun i => if i = a then 0 else X i) (fun p hp hn => by
      by_cases e : p = a
      · show (if p = a then 0 else X p) = 0
        rw [if_pos e]
      · show (if p = a then 0 else X p) = 0
        rw [if_neg e]
        exact h p hp (fun hm => (List.mem_cons.1 hm).elim e hn))]
    rw [List.length_cons, sum_front]
    congr 1
    refine sum_congr fun k hk => ?_
    have hm : nth A k ∈ A := by unfold nth; rw [List.getD_eq_getElem?_getD, List.getElem?_eq_getElem hk]; exact List.getElem_mem hk
    have hne : nth A k ≠ a := fun e => hd'.1 (by rw [← e]; exact hm)
    show (if nth A k = a then 0 else X (nth A k)) = X (nth (a :: A) (k + 1))
    rw [if_neg hne]
    rfl
/-- the product that frees of holes -/
def fac [Add GF] [Mul GF] [OfNat GF 0] [OfNat GF 1] [L : Nonempty GL] (n : Nat) : List Nat → Nat → GF
  | [], _ => 1
  | h :: r, p => (1 + wt n h * xp n p) * fac n r p
theorem fac_hole [Add GF] [Mul GF] [OfNat GF 0] [OfNat GF 1] [L : Nonempty GL] (n : Nat) : ∀ (Hs : List Nat) (p : Nat), p ∈ Hs → fac n Hs p = 0 := by
  intro Hs
  induction Hs with
  | nil => intro p h; cases h
  | cons h r ih =>
    intro p hp
    show (1 + wt n h * xp n p) * fac n r p = 0
    rcases List.mem_cons.1 hp with e | e
    · rw [e, lin_at, zero_mul]
    · rw [ih p e, mul_zero]
theorem fac_ne [Add GF] [Mul GF] [OfNat GF 0] [OfNat GF 1] [L : Nonempty GL] {n : Nat} (hn : n ≤ 255) : ∀ (Hs : List Nat) (p : Nat), p < n → (∀ h, h ∈ Hs → h < n) → p ∉ Hs → fac n Hs p ≠ 0 := by
  intro Hs
  induction Hs with
  | nil => intro p _ _ _; show (1 : GF) ≠ 0; exact one_ne
  | cons h r ih =>
    intro p hp hl hne
    refine mul_ne_zero (lin_ne hn hp (hl h (List.mem_cons_self ..)) (fun e => hne (by rw [e]; exact List.mem_cons_self ..))) (ih p hp (fun q hq => hl q (List.mem_cons_of_mem _ hq)) (fun hm => hne (List.mem_cons_of_mem _ hm)))
/-- the syndromes, freed of one hole -/
def frS (x : Nat) (t : List Nat) : List Nat := (List.range t.length).map fun k => if k = 0 then nth t 0 else nth t k ^^^ Fld.mul x (nth t (k - 1))
def frL (n : Nat) (t : List Nat) (Hs : List Nat) : List Nat := Hs.foldl (fun (t : List Nat) (h : Nat) => frS (pow2 ((n : Int) - 1 - h)) t) t
theorem frS_len (x : Nat) (t : List Nat) : (frS x t).length = t.length := by simp [frS]
theorem nth_frS [Add GF] [Mul GF] [OfNat GF 0] [OfNat GF 1] [L : Nonempty GL] (x : Nat) (t : List Nat) (k : Nat) (hk : k < t.length) : nth (frS x t) k = if k = 0 then nth t 0 else nth t k ^^^ Fld.mul x (nth t (k - 1)) := nth_map_range _ _ _ hk
theorem isB_frS [Add GF] [Mul GF] [OfNat GF 0] [OfNat GF 1] [L : Nonempty GL] {x : Nat} {t : List Nat} (hx : x < 256) (ht : IsB t) : IsB (frS x t) := by
  intro y hy
  simp only [frS, List.mem_map, List.mem_range] at hy
  obtain ⟨k, hk, rfl⟩ := hy
  split
  · exact ht.nth 0
  · exact Fld.xor_lt (ht.nth _) (Fld.mul_lt _ hx)
theorem frL_len (n : Nat) : ∀ (Hs t : List Nat), (frL n t Hs).length = t.length := by
  intro Hs
  induction Hs with
  | nil => intro t; rfl
  | cons h r ih => intro t; show (frL n (frS _ t) r).length = _; rw [ih, frS_len]
theorem isB_frL [Add GF] [Mul GF] [OfNat GF 0] [OfNat GF 1] [L : Nonempty GL] (n : Nat) : ∀ (Hs t : List Nat), IsB t → IsB (frL n t Hs) := by
  intro Hs
  induction Hs with
  | nil => intro t h; exact h
  | cons h r ih => intro t ht; exact ih _ (isB_frS (pow2_lt _) ht)
theorem fr_val [Add GF] [Mul GF] [OfNat GF 0] [OfNat GF 1] [L : Nonempty GL] (n c : Nat) (E : Nat → GF) : ∀ (Hs t : List Nat) (m : Nat) (Fp : Nat → GF), IsB t → t.length = c → (∀ k, m ≤ k → k < c → gn t k = sum n (fun p => E p * Fp p * pw (wt n p) (k + 1))) →
    ∀ k, m + Hs.length ≤ k → k < c → gn (frL n t Hs) k = sum n (fun p => E p * (Fp p * fac n Hs p) * pw (wt n p) (k + 1)) := by
  intro Hs
  induction Hs with
  | nil =>
    intro t m Fp hB hl h k h1 h2
    rw [show frL n t [] = t from rfl, h k h1 h2]
    refine sum_congr fun p _ => ?_
    show _ = E p * (Fp p * 1) * _
    rw [mul_one]
  | cons x r ih =>
    intro t m Fp hB hl h k h1 h2
    rw [List.length_cons] at h1
    have h3 := ih (frS (pow2 ((n : Int) - 1 - x)) t) (m + 1) (fun p => Fp p * (1 + wt n x * xp n p)) (isB_frS (pow2_lt _) hB) (by rw [frS_len]; exact hl) (fun k hk1 hk2 => by
      have e1 : gn (frS (pow2 ((n : Int) - 1 - x)) t) k = gn t k + wt n x * gn t (k - 1) := by
        apply GF.ext
        rw [gn_v (isB_frS (pow2_lt _) hB), nth_frS _ _ _ (by omega), if_neg (by omega), add_v, mul_v, gn_v hB, gn_v hB]
        rfl
      rw [e1, h k (by omega) hk2, h (k - 1) (by omega) (by omega), mul_sum, ← sum_add]
      refine sum_congr fun p _ => ?_
      rw [show k - 1 + 1 = k by omega]
      have e2 : pw (wt n p) k = pw (wt n p) (k + 1) * xp n p := by
        rw [pw_succ, mul_assoc, wt_xp, mul_one]
      rw [e2, mul_add, mul_one, mul_add, add_mul]
      congr 1
      (haveI := aA; haveI := aC; haveI := mA; haveI := mC; ac_rfl)) k (by omega) h2
    show gn (frL n (frS _ t) r) k = _
    rw [h3]
    refine sum_congr fun p _ => ?_
    show _ = E p * (Fp p * ((1 + wt n x * xp n p) * fac n r p)) * _
    rw [mul_assoc (Fp p)]
end

section
open GF

/-- V is a code word near W: what is to be found -/
structure NearD (W V : List Nat) (H : List Bool) (Hs : List Nat) (n c : Nat) : Prop where
  bW : IsB W
  bV : IsB V
  lW : W.length = n
  lV : V.length = n
  n255 : n ≤ 255
  c64 : c ≤ 64
  code : valL V c = []
  hs : ∀ p, p < n → (bat H p = true ↔ p ∈ Hs)
  hl : ∀ h, h ∈ Hs → h < n
  nd : Hs.Nodup
  near : 2 * cn (wrU W V H) n + Hs.length ≤ c
/-- the places that are wrong and no holes -/
def uL (W V : List Nat) (H : List Bool) (n : Nat) : List Nat := (List.range n).filter (wrU W V H)
theorem uL_len (W V : List Nat) (H : List Bool) (n : Nat) : (uL W V H n).length = cn (wrU W V H) n := (cn_filter _ _).symm
theorem uL_mem {W V : List Nat} {H : List Bool} {n p : Nat} : p ∈ uL W V H n ↔ p < n ∧ wrU W V H p = true := by
  unfold uL
  rw [List.mem_filter, List.mem_range]
theorem uL_nd (W V : List Nat) (H : List Bool) (n : Nat) : (uL W V H n).Nodup := List.Pairwise.filter _ List.nodup_range
theorem nth_mem [Add GF] [Mul GF] [OfNat GF 0] [OfNat GF 1] [L : Nonempty GL] {A : List Nat} {k : Nat} (hk : k < A.length) : nth A k ∈ A := by unfold nth; rw [List.getD_eq_getElem?_getD, List.getElem?_eq_getElem hk]; exact List.getElem_mem hk
theorem mem_nth [Add GF] [Mul GF] [OfNat GF 0] [OfNat GF 1] [L : Nonempty GL] {A : List Nat} {p : Nat} (h : p ∈ A) : ∃ k, k < A.length ∧ nth A k = p := by
  obtain ⟨k, hk, e⟩ := List.getElem_of_mem h
  exact ⟨k, hk, by unfold nth; rw [List.getD_eq_getElem?_getD, List.getElem?_eq_getElem hk]; exact e⟩
theorem nth_inj [Add GF] [Mul GF] [OfNat GF 0] [OfNat GF 1] [L : Nonempty GL] {A : List Nat} (hd : A.Nodup) {i k : Nat} (hi : i < A.length) (hk : k < A.length) (e : nth A i = nth A k) : i = k := by
  unfold nth at e
  rw [List.getD_eq_getElem?_getD, List.getD_eq_getElem?_getD, List.getElem?_eq_getElem hi, List.getElem?_eq_getElem hk] at e
  exact (List.getElem_inj (h₀ := hi) (h₁ := hk) hd).1 e
theorem wt_inj [Add GF] [Mul GF] [OfNat GF 0] [OfNat GF 1] [L : Nonempty GL] {n p q : Nat} (hn : n ≤ 255) (hp : p < n) (hq : q < n) (e : wt n p = wt n q) : p = q := by
  unfold wt at e
  have := al_inj e
  omega
theorem xp_inj [Add GF] [Mul GF] [OfNat GF 0] [OfNat GF 1] [L : Nonempty GL] {n p q : Nat} (hn : n ≤ 255) (hp : p < n) (hq : q < n) (e : xp n p = xp n q) : p = q := by
  unfold xp at e
  have := al_inj e
  omega
section
variable {W V : List Nat} {H : List Bool} {Hs : List Nat} {n c : Nat}
theorem NearD.apart [Add GF] [Mul GF] [OfNat GF 0] [OfNat GF 1] [L : Nonempty GL] (N : NearD W V H Hs n c) {A : List Nat} (hd : A.Nodup) (hl : ∀ p, p ∈ A → p < n) : Apart A.length (fun k => wt n (nth A k)) :=
  ⟨fun k _ => wt_ne _ _, fun i k hi hk e => nth_inj hd hi hk (wt_inj N.n255 (hl _ (nth_mem hi)) (hl _ (nth_mem hk)) e)⟩
/-- what the unknown wrong places weigh behind the freeing -/
def gW [Add GF] [Mul GF] [OfNat GF 0] [OfNat GF 1] [L : Nonempty GL] (W V Hs : List Nat) (n : Nat) (A : List Nat) (q : Nat) : GF := wrE W V (nth A q) * fac n Hs (nth A q)
theorem NearD.freed [Add GF] [Mul GF] [OfNat GF 0] [OfNat GF 1] [L : Nonempty GL] (N : NearD W V H Hs n c) (k : Nat) (h1 : Hs.length ≤ k) (h2 : k < c) :
    gn (frL n (synL W c) Hs) k = hk (uL W V H n).length (gW W V Hs n (uL W V H n)) (fun q => wt n (nth (uL W V H n) q)) k := by
  have h3 := fr_val n c (wrE W V) Hs (synL W c) 0 (fun _ => 1) (isB_synL N.bW c) (synL_len W c) (fun k _ hk2 => by
    rw [syn_val N.bW N.bV n c N.lW N.lV N.code k hk2]
    refine sum_congr fun p _ => ?_
    show (gn W p + gn V p) * _ = wrE W V p * 1 * _
    rw [mul_one]; rfl) k (by omega) h2
  rw [h3, sum_list (uL W V H n) (uL_nd ..) (fun p hp => (uL_mem.1 hp).1) _ (fun p hp hn => ?_)]
  · unfold hk gW
    exact sum_congr fun q _ => by rw [one_mul]
  · by_cases hh : p ∈ Hs
    · show wrE W V p * (1 * fac n Hs p) * _ = 0
      rw [fac_hole n Hs p hh, mul_zero, mul_zero, zero_mul]
    · have hb : bat H p = false := by
        cases e : bat H p with
        | false => rfl
        | true => exact absurd ((N.hs p hp).1 e) hh
      have he : nth W p = nth V p := Classical.byContradiction fun e => hn (uL_mem.2 ⟨hp, by unfold wrU; rw [bne_iff_ne.2 e, hb]; rfl⟩)
      show wrE W V p * _ * _ = 0
      rw [(wrE_zero N.bW N.bV p).2 he, zero_mul, zero_mul]
theorem NearD.gne [Add GF] [Mul GF] [OfNat GF 0] [OfNat GF 1] [L : Nonempty GL] (N : NearD W V H Hs n c) : ∀ q, q < (uL W V H n).length → gW W V Hs n (uL W V H n) q ≠ 0 := fun q hq => by
  obtain ⟨h1, h2⟩ := uL_mem.1 (nth_mem hq)
  unfold wrU at h2
  have h3 := Bool.and_eq_true_iff.1 h2
  have hb : bat H (nth (uL W V H n) q) = false := by simpa using h3.2
  refine mul_ne_zero (fun e => ?_) (fac_ne N.n255 Hs _ h1 N.hl (fun hm => ?_))
  · have := (wrE_zero N.bW N.bV _).1 e
    exact (bne_iff_ne.1 h3.1) this
  · rw [(N.hs _ h1).2 hm] at hb; cases hb
/-- the system of the locator has one answer alone -/
theorem NearD.inj [Add GF] [Mul GF] [OfNat GF 0] [OfNat GF 1] [L : Nonempty GL] (N : NearD W V H Hs n c) {e : Nat} (he : e = cn (wrU W V H) n) : InjM e (fun a i => gn (frL n (synL W c) Hs) (Hs.length + e + a - 1 - i)) := by
  have hl := uL_len W V H n
  have hnr := N.near
  rw [he, ← hl] at *
  have h := hank_inj (f := Hs.length) (N.apart (uL_nd W V H n) (fun p hp => (uL_mem.1 hp).1)) (by have := N.c64; omega) N.gne
  intro y hy
  refine h y (fun a ha => ?_)
  have := hy a ha
  rw [← this]
  refine sum_congr fun i hi => ?_
  congr 1
  exact (N.freed _ (by omega) (by omega)).symm
/-- the value of the locator, step by step -/
def rv [Add GF] [Mul GF] [OfNat GF 0] [OfNat GF 1] [L : Nonempty GL] (l : List Nat) (x : Nat) : Nat → Nat
  | 0 => 1
  | i + 1 => rv l x i ^^^ Fld.mul (nth l i) (Fld.pw x (i + 1))
theorem rv_gf [Add GF] [Mul GF] [OfNat GF 0] [OfNat GF 1] [L : Nonempty GL] {l : List Nat} (hl : IsB l) (y : GF) (i : Nat) : (1 + sum i (fun j => gn l j * pw y (j + 1))).v = rv l y.v i := by
  induction i with
  | zero =>
    show ((1 : GF) + 0).v = 1
    rw [add_zero]
    exact one_v
  | succ i ih =>
    show (1 + (sum i (fun j => gn l j * pw y (j + 1)) + gn l i * pw y (i + 1))).v = rv l y.v i ^^^ _
    rw [← add_assoc, add_v, ih, mul_v, gn_v hl]
    rfl
/-- the places that are found -/
def fnd [Add GF] [Mul GF] [OfNat GF 0] [OfNat GF 1] [L : Nonempty GL] (l : List Nat) (e n : Nat) (H : List Bool) : List Nat := (List.range n).filter (fun p => rv l (pow2 ((p : Int) + 1 - n)) e == 0 && !bat H p)
theorem NearD.found [Add GF] [Mul GF] [OfNat GF 0] [OfNat GF 1] [L : Nonempty GL] (N : NearD W V H Hs n c) {e : Nat} (he : e = cn (wrU W V H) n) {l : List Nat} (hl : IsB l) (hs : Sol e (fun a i => gn (frL n (synL W c) Hs) (Hs.length + e + a - 1 - i)) (fun a => gn (frL n (synL W c) Hs) (Hs.length + e + a)) (gn l)) :
    fnd l e n H = uL W V H n := by
  have hul := uL_len W V H n
  have hnr := N.near
  rw [he, ← hul] at hs ⊢
  rw [← hul] at hnr
  have hap := N.apart (uL_nd W V H n) (fun p hp => (uL_mem.1 hp).1)
  have h9 := hank_root (f := Hs.length) (l := gn l) hap (by have := N.c64; omega) N.gne (fun a ha => by
    refine Eq.trans (sum_congr fun i hi => ?_) (Eq.trans (hs a ha) (N.freed _ (by omega) (by omega)))
    show hk _ _ _ _ * gn l i = gn _ _ * gn l i
    congr 1
    exact (N.freed _ (by omega) (by omega)).symm)
  have hroot : ∀ q, q < (uL W V H n).length → 1 + sum (uL W V H n).length (fun i => gn l i * pw (xp n (nth (uL W V H n) q)) (i + 1)) = 0 := fun q hq =>
    inv_root (wt_xp n _) (h9 q hq)
  unfold fnd
  show _ = (List.range n).filter (wrU W V H)
  refine List.filter_congr fun p hp => ?_
  have hpn := List.mem_range.1 hp
  have hx : pow2 ((p : Int) + 1 - n) = (xp n p).v := rfl
  rw [hx]
  cases hw : wrU W V H p with
  | true =>
    obtain ⟨q, hq, e⟩ := mem_nth (uL_mem.2 ⟨hpn, hw⟩)
    have h1 := hroot q hq
    rw [e] at h1
    have h2 := congrArg GF.v h1
    rw [rv_gf hl] at h2
    have hb : bat H p = false := by
      unfold wrU at hw
      simpa using (Bool.and_eq_true_iff.1 hw).2
    rw [h2, hb, zero_v]
    rfl
  | false =>
    cases hb : bat H p with
    | true => rw [Bool.not_true, Bool.and_false]
    | false =>
      rw [Bool.not_false, Bool.and_true]
      refine beq_false_of_ne fun h0 => ?_
      have hpu : p ∉ uL W V H n := fun h => by
        rw [(uL_mem.1 h).2] at hw; cases hw
      have h0' : 1 + sum (uL W V H n).length (fun i => gn l i * pw (xp n p) (i + 1)) = 0 := by
        apply GF.ext
        rw [rv_gf hl]
        exact Eq.trans h0 zero_v.symm
      refine no_more (e := (uL W V H n).length) (l := gn l) (v := fun i => if i < (uL W V H n).length then xp n (nth (uL W V H n) i) else xp n p) (fun i k hi hk e => ?_) (fun q hq => ?_)
      · by_cases h1 : i < (uL W V H n).length
        · by_cases h2 : k < (uL W V H n).length
          · rw [if_pos h1, if_pos h2] at e
            exact nth_inj (uL_nd ..) h1 h2 (xp_inj N.n255 (uL_mem.1 (nth_mem h1)).1 (uL_mem.1 (nth_mem h2)).1 e)
          · rw [if_pos h1, if_neg h2] at e
            have := xp_inj N.n255 (uL_mem.1 (nth_mem h1)).1 hpn e
            exact absurd (by rw [← this]; exact nth_mem h1) hpu
        · by_cases h2 : k < (uL W V H n).length
          · rw [if_neg h1, if_pos h2] at e
            have := xp_inj N.n255 hpn (uL_mem.1 (nth_mem h2)).1 e
            exact absurd (by rw [this]; exact nth_mem h2) hpu
          · omega
      · by_cases h1 : q < (uL W V H n).length
        · rw [if_pos h1]; exact hroot q h1
        · rw [if_neg h1]; exact h0'
/-- a row of places: the system of the sizes -/
theorem NearD.sizes [Add GF] [Mul GF] [OfNat GF 0] [OfNat GF 1] [L : Nonempty GL] (N : NearD W V H Hs n c) {A : List Nat} (hd : A.Nodup) (hA : ∀ p, p ∈ A → p < n) (hlen : A.length ≤ c) (hcov : ∀ p, p < n → nth W p ≠ nth V p → p ∈ A) :
    InjM A.length (fun j k => pw (wt n (nth A k)) (j + 1)) ∧ ∀ x, Sol A.length (fun j k => pw (wt n (nth A k)) (j + 1)) (fun j => gn (synL W c) j) x → ∀ k, k < A.length → x k = wrE W V (nth A k) := by
  have hI : InjM A.length (fun j k => pw (wt n (nth A k)) (j + 1)) := vand_inj (N.apart hd hA) (by have := N.c64; omega) 1
  refine ⟨hI, fun x hx k hk => ?_⟩
  have h1 := hI (fun k => x k + wrE W V (nth A k)) (fun j hj => by
    have h2 := hx j hj
    have h3 : gn (synL W c) j = sum A.length (fun k => pw (wt n (nth A k)) (j + 1) * wrE W V (nth A k)) := by
      rw [syn_val N.bW N.bV n c N.lW N.lV N.code j (by omega), sum_list A hd hA _ (fun p hp hn => by
        have e : nth W p = nth V p := Classical.byContradiction fun h => hn (hcov p hp h)
        show wrE W V p * _ = 0
        rw [(wrE_zero N.bW N.bV p).2 e, zero_mul])]
      exact sum_congr fun k _ => mul_comm _ _
    show sum _ _ = 0
    have h4 : sum A.length (fun k => pw (wt n (nth A k)) (j + 1) * (x k + wrE W V (nth A k))) = sum A.length (fun k => pw (wt n (nth A k)) (j + 1) * x k) + sum A.length (fun k => pw (wt n (nth A k)) (j + 1) * wrE W V (nth A k)) := by
      rw [← sum_add]
      exact sum_congr fun k _ => mul_add _ _ _
    rw [h4, h2, ← h3, add_self]) k hk
  exact add_eq_zero h1
end
/-- a word with sizes added at places -/
def mdL (W A x : List Nat) : Nat → List Nat
  | 0 => W
  | k + 1 => (mdL W A x k).set (nth A k) (nth (mdL W A x k) (nth A k) ^^^ nth x k)
theorem mdL_len (W A x : List Nat) (k : Nat) : (mdL W A x k).length = W.length := by
  induction k with
  | zero => rfl
  | succ k ih => show ((mdL W A x k).set _ _).length = _; rw [List.length_set, ih]
theorem nth_set' (L : List Nat) (i v p : Nat) (hi : i < L.length) : nth (L.set i v) p = if i = p then v else nth L p := by
  unfold nth
  rw [List.getD_eq_getElem?_getD, List.getElem?_set]
  by_cases h : i = p
  · subst h
    rw [if_pos rfl, if_pos rfl, if_pos hi]
    rfl
  · rw [if_neg h, if_neg h, ← List.getD_eq_getElem?_getD]
theorem md_out [Add GF] [Mul GF] [OfNat GF 0] [OfNat GF 1] [L : Nonempty GL] {W A x : List Nat} (hA : ∀ p, p ∈ A → p < W.length) : ∀ k, k ≤ A.length → ∀ p, (∀ i, i < k → nth A i ≠ p) → nth (mdL W A x k) p = nth W p := by
  intro k
  induction k with
  | zero => intro _ p _; rfl
  | succ k ih =>
    intro hk p hp
    show nth ((mdL W A x k).set _ _) p = _
    rw [nth_set' _ _ _ _ (by rw [mdL_len]; exact hA _ (nth_mem (by omega))), if_neg (hp k (by omega))]
    exact ih (by omega) p (fun i hi => hp i (by omega))
theorem md_in [Add GF] [Mul GF] [OfNat GF 0] [OfNat GF 1] [L : Nonempty GL] {W A x : List Nat} (hd : A.Nodup) (hA : ∀ p, p ∈ A → p < W.length) : ∀ k, k ≤ A.length → ∀ i, i < k → nth (mdL W A x k) (nth A i) = nth W (nth A i) ^^^ nth x i := by
  intro k
  induction k with
  | zero => intro _ i hi; omega
  | succ k ih =>
    intro hk i hi
    show nth ((mdL W A x k).set _ _) (nth A i) = _
    rw [nth_set' _ _ _ _ (by rw [mdL_len]; exact hA _ (nth_mem (by omega)))]
    by_cases e : k = i
    · subst e
      rw [if_pos rfl, md_out hA k (by omega) _ (fun j hj e => by have := nth_inj hd (by omega) (by omega) e; omega)]
    · rw [if_neg (fun e2 => e (nth_inj hd (by omega) (by omega) e2))]
      exact ih (by omega) i (by omega)
theorem isB_mdL {W A x : List Nat} (hW : IsB W) (hx : IsB x) (k : Nat) : IsB (mdL W A x k) := by
  induction k with
  | zero => exact hW
  | succ k ih =>
    intro y hy
    rcases List.mem_or_eq_of_mem_set hy with h | h
    · exact ih y h
    · rw [h]; exact Fld.xor_lt (ih.nth _) (hx.nth _)
theorem md_is [Add GF] [Mul GF] [OfNat GF 0] [OfNat GF 1] [L : Nonempty GL] {W V A x : List Nat} (hd : A.Nodup) (hA : ∀ p, p ∈ A → p < W.length) (hl : V.length = W.length) (hx : ∀ k, k < A.length → nth x k = nth W (nth A k) ^^^ nth V (nth A k)) (hcov : ∀ p, p < W.length → nth W p ≠ nth V p → p ∈ A) : mdL W A x A.length = V := by
  refine list_ext (by rw [mdL_len]; exact hl.symm) fun p hp => ?_
  rw [mdL_len] at hp
  by_cases h : p ∈ A
  · obtain ⟨k, hk, e⟩ := mem_nth h
    rw [← e, md_in hd hA _ (Nat.le_refl _) k hk, hx k hk, ← Nat.xor_assoc, Nat.xor_self, Nat.zero_xor]
  · rw [md_out hA _ (Nat.le_refl _) p (fun i hi e => h (by rw [← e]; exact nth_mem hi))]
    exact Classical.byContradiction fun e => h (hcov p hp e)
end

section
/-- a value of several cells in a box -/
def BxS (w : World) (g : Nat) (t : TypeId) (cs : Array Value) : Prop := w.heap[g]? = some (.cells cs t)
theorem BxS.lt {w : World} {g : Nat} {t : TypeId} {cs : Array Value} (h : BxS w g t cs) : g < w.heap.size := (Array.getElem?_eq_some_iff.1 h).1
theorem BxS.free {w : World} {g : Nat} {t : TypeId} {cs : Array Value} (h : BxS w g t cs) (i : Nat) : w.frozen? ⟨g, i, none⟩ = false := frozen_of_row w g i _ _ h
theorem BxS.cell {w : World} {g : Nat} {t : TypeId} {cs : Array Value} (h : BxS w g t cs) (i : Nat) (hi : i < cs.size) : w.cell? ⟨g, i, none⟩ = some cs[i] := by
  rw [cell_of_row w g i cs t (0, 0) h, Array.getElem?_eq_getElem hi]
theorem BxS.keep {w w' : World} {g : Nat} {t : TypeId} {cs : Array Value} {r : Option Nat} (h : BxS w g t cs) (hg : w.grownBy w' r) (hne : some g ≠ r) : BxS w' g t cs := (hg.block g h.lt hne).trans h
theorem BxS.new (w : World) (t : TypeId) (cs : Array Value) : BxS (w.alloc (.cells cs t)) w.heap.size t cs := heap_alloc_new w _
theorem BxS.set {w : World} {g : Nat} {t : TypeId} {cs : Array Value} (h : BxS w g t cs) (i : Nat) (v : Value) : BxS (w.setCell ⟨g, i, none⟩ v) g t (cs.set! i v) := by
  unfold BxS
  rw [setCell_eq_setRow w g i _ _ _ _ h]
  exact setRow_heap w g _ _ _ _ h
theorem BxS.row {w : World} {g : Nat} {t : TypeId} {cs : Array Value} (h : BxS w g t cs) (ds : Array Value) : BxS (w.setRow g ds) g t ds := setRow_heap w g _ _ _ _ h
/-- one cell of a box is written -/
theorem wpList_stC (w : World) {ops : Array Oper} {rest : List Oper} {o : Oper} {a : Act} {Q : Exit → Act → World → Prop} (hg : o.guard = none) (t : TypeId) (p x : Operand) (hop : o.op = Op.store t p x)
    (g i : Nat) (ty : TypeId) (A A' : Array Value) (v : Value) (hp : a.eval p = .pointer (some ⟨g, i, none⟩)) (hx : a.eval x = v) (hB : BxS w g ty A)
    (hst : ∀ w' : World, (∃ u, w'.cell? ⟨g, i, none⟩ = some u) → w'.frozen? ⟨g, i, none⟩ = false → (Instr.storeAt t (.pointer (some ⟨g, i, none⟩)) v).run Tryd.prog w' = .ok () (w'.setCell ⟨g, i, none⟩ v)) (hi : i < A.size) (hA : A.setIfInBounds i v = A')
    (hK : ∀ w', BxS w' g ty A' → w.grownBy w' (some g) → wpList Tryd.prog ops Q rest (a.put o.dst undef) w') :
    wpList Tryd.prog ops Q (o :: rest) a w := by
  refine wpList_plain hg fun K hK' => ?_
  have hc : ∃ u, w.cell? ⟨g, i, none⟩ = some u := ⟨A[i], by rw [cell_of_row w g i _ _ _ hB]; simp [hi]⟩
  have hf := frozen_of_row w g i _ _ hB
  unfold Oper.wp
  simp [execOp, hop, hp, hx, hst w hc hf, Result.andThen]
  exact hK' _ _ (hK _ (by unfold BxS; rw [heap_setCell_same w g i _ _ _ hB, hA]) (grown_set w g i v))
theorem stc_sl (g i : Nat) (p : Option Addr) (l c : Nat) (w : World) (hc : ∃ u, w.cell? ⟨g, i, none⟩ = some u) (hf : w.frozen? ⟨g, i, none⟩ = false) : (Instr.storeAt 22 (.pointer (some ⟨g, i, none⟩)) (.slice p l c)).run Tryd.prog w = .ok () (w.setCell ⟨g, i, none⟩ (.slice p l c)) := by
  obtain ⟨u, hc⟩ := hc
  simp [go_sem, hc, hf]
end

section
section
variable {P : Program} {ops : Array Oper} {Q : Exit → Act → World → Prop} {md : Region.Mode} {S : World → Prop}
/-- those of C have not come up, and none of them can ahead of i -/
def waitZ (md : Region.Mode) (ops : Array Oper) (listed : Array Bool) (i : Nat) (C : List Nat) : Bool :=
  C.all fun c => !(listed.getD c true) && match ops[c]? with | some oc => oc.after.any (fun e => Region.binds md e && (e.on == i || C.contains e.on)) | none => false
theorem waitZ_no {listed : Array Bool} {i : Nat} {C : List Nat} (h : waitZ md ops listed i C = true) (hi : i ∈ Region.ready md ops listed) {j : Nat} (hj : j ∈ Region.ready md ops listed) : j ∉ C := by
  intro hc
  have h1 := List.all_eq_true.1 h j hc
  obtain ⟨hjun, oj, hoj, hall⟩ := mem_ready.1 hj
  simp only [hoj, Bool.and_eq_true, Bool.not_eq_true'] at h1
  obtain ⟨e, he, hb⟩ := Array.any_eq_true'.1 h1.2
  simp only [Bool.and_eq_true, Bool.or_eq_true, beq_iff_eq, List.contains_iff_mem] at hb
  have hd := hall e he hb.1
  have hun : listed.getD e.on true = false := by
    rcases hb.2 with h2 | h2
    · rw [h2]; exact (mem_ready.1 hi).1
    · have := List.all_eq_true.1 h e.on h2
      simp only [Bool.and_eq_true, Bool.not_eq_true'] at this
      exact this.1
  rcases Nat.lt_or_ge e.on listed.size with h' | h'
  · simp [h'] at hun hd; rw [hun] at hd; cases hd
  · simp [Array.getElem?_eq_none h'] at hun
theorem waitZ_step {listed : Array Bool} {i : Nat} {C : List Nat} (h : waitZ md ops listed i C = true) {j : Nat} (hj : j ∉ C) : waitZ md ops (listed.setIfInBounds j true) i C = true := by
  unfold waitZ at *
  rw [List.all_eq_true] at *
  intro c hc
  have h1 := h c hc
  have : j ≠ c := fun e => hj (e ▸ hc)
  rw [getD_set_ne true this]
  exact h1
end

section
variable {P : Program} {ops : Array Oper} {Q : Exit → Act → World → Prop} {md : Region.Mode} {S : World → Prop}
end
end
end Go.Proofs.YtdcfgaibppenaaaDoor
