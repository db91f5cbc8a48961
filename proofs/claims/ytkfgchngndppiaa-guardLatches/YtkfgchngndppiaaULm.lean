import Derived.Test.YtkfgchngndppiaaUSt
namespace Go.Proofs.Ytkfgchngndppiaa
open Go.RowKit
set_option maxRecDepth 100000
set_option linter.unusedVariables false
set_option linter.unusedSimpArgs false

/-- the ages of the trips that count -/
def agL (i wi : Int) (Ts : List Int) : List Int := (Ts.map (fun t => i - t)).filter (fun z => decide (z < wi))
structure TrR (i wi : Int) (tr Ts : List Int) : Prop where
  spl : ∃ P, agL i wi Ts = P ++ tr ∧ (P ≠ [] → tr.length = 100)
  le : tr.length ≤ 100
  srt : Ts.Pairwise (· ≤ ·)
  top : ∀ t, t ∈ Ts → t ≤ i
theorem fkL_filter (p : Int → Bool) (S : List Int) : ∀ k, k ≤ S.length → fkL p S k = (S.take k).filter (fun z => !p z) := by
  intro k
  induction k with
  | zero => intro _; rfl
  | succ k ih =>
    intro hk
    have e : S[k]? = some (nthI S k) := by
      unfold nthI
      rw [List.getD_eq_getElem?_getD, List.getElem?_eq_getElem (by omega)]
      rfl
    rw [List.take_add_one, e]
    simp only [fkL, Option.toList_some, List.filter_append]
    rw [ih (by omega)]
    congr 1
    cases hp : p (nthI S k) <;> simp [hp]
theorem grL_eq (tr : List Int) (wi : Int) : grL tr wi = (tr.map (· + 1)).filter (fun z => !(z == wi)) := by
  unfold grL olL
  rw [fkL_filter _ _ _ (by simp), List.take_of_length_le (by simp)]
theorem agL_grow (i wi : Int) (Ts : List Int) : agL (i + 1) wi Ts = ((agL i wi Ts).map (· + 1)).filter (fun z => !(z == wi)) := by
  unfold agL
  induction Ts with
  | nil => rfl
  | cons t r ih =>
    simp only [List.map_cons]
    by_cases h1 : i - t < wi
    · rw [List.filter_cons_of_pos (p := fun z => decide (z < wi)) (a := i - t) (by simpa using h1)]
      rw [List.map_cons]
      by_cases h2 : i + 1 - t < wi
      · have h3 : i - t + 1 ≠ wi := by omega
        rw [List.filter_cons_of_pos (p := fun z => decide (z < wi)) (a := i + 1 - t) (by simpa using h2), List.filter_cons_of_pos (p := fun z : Int => !(z == wi)) (a := i - t + 1) (by simpa using h3), ih]
        congr 1
        omega
      · have h3 : i - t + 1 = wi := by omega
        rw [List.filter_cons_of_neg (p := fun z => decide (z < wi)) (a := i + 1 - t) (by simpa using h2), List.filter_cons_of_neg (p := fun z : Int => !(z == wi)) (a := i - t + 1) (by simpa using h3), ih]
    · have h3 : ¬ i + 1 - t < wi := by omega
      rw [List.filter_cons_of_neg (p := fun z => decide (z < wi)) (a := i - t) (by simpa using h1), List.filter_cons_of_neg (p := fun z => decide (z < wi)) (a := i + 1 - t) (by simpa using h3), ih]
theorem agL_srt {i wi : Int} {Ts : List Int} (h : Ts.Pairwise (· ≤ ·)) : (agL i wi Ts).Pairwise (fun a b => b ≤ a) := by
  unfold agL
  exact (List.Pairwise.map _ (fun a b hab => by omega) h).filter _
theorem agL_lt {i wi : Int} {Ts : List Int} {z : Int} (h : z ∈ agL i wi Ts) : z < wi := by
  unfold agL at h
  exact of_decide_eq_true (List.mem_filter.1 h).2
theorem agL_pos {i wi : Int} {Ts : List Int} (ht : ∀ t, t ∈ Ts → t ≤ i) {z : Int} (h : z ∈ agL i wi Ts) : 0 ≤ z := by
  unfold agL at h
  obtain ⟨t, hm, rfl⟩ := List.mem_map.1 (List.mem_filter.1 h).1
  have := ht t hm
  omega
theorem TrR.grow {i wi : Int} {tr Ts : List Int} (h : TrR i wi tr Ts) : TrR (i + 1) wi (grL tr wi) Ts := by
  obtain ⟨P, hP, hl⟩ := h.spl
  rw [grL_eq]
  refine ⟨⟨(P.map (· + 1)).filter (fun z => !(z == wi)), ?_, ?_⟩, ?_, h.srt, fun t ht => by have := h.top t ht; omega⟩
  · rw [agL_grow, hP, List.map_append, List.filter_append]
  · intro hne
    obtain ⟨q, hq⟩ := List.exists_mem_of_ne_nil _ hne
    obtain ⟨hq1, hq2⟩ := List.mem_filter.1 hq
    obtain ⟨p, hp, rfl⟩ := List.mem_map.1 hq1
    have hs := agL_srt (i := i) (wi := wi) h.srt
    rw [hP] at hs
    have hpd := (List.pairwise_append.1 hs).2.2 p hp
    have hpw : p < wi := agL_lt (i := i) (Ts := Ts) (by rw [hP]; exact List.mem_append_left _ hp)
    have hpn : p + 1 ≠ wi := by simpa using hq2
    have e : (tr.map (· + 1)).filter (fun z => !(z == wi)) = tr.map (· + 1) := by
      rw [List.filter_eq_self]
      intro z hz
      obtain ⟨d, hd, rfl⟩ := List.mem_map.1 hz
      have := hpd d hd
      have : d + 1 ≠ wi := by omega
      simpa using this
    rw [e, List.length_map]
    exact hl (by intro e0; rw [e0] at hp; cases hp)
  · exact Nat.le_trans (List.length_filter_le _ _) (by rw [List.length_map]; exact h.le)
theorem TrR.trip {i wi : Int} {tr Ts : List Int} (h : TrR i wi tr Ts) (hw : 1 ≤ wi) : TrR i wi (tpF tr) (Ts ++ [i]) := by
  obtain ⟨P, hP, hl⟩ := h.spl
  have hA : agL i wi (Ts ++ [i]) = P ++ (tr ++ [0]) := by
    unfold agL at *
    rw [List.map_append, List.filter_append, hP, List.append_assoc]
    congr 2
    have h3 : (0 : Int) < wi := by omega
    rw [List.map_cons, List.map_nil, Int.sub_self, List.filter_cons_of_pos (by simpa using h3)]
    rfl
  have hsr : (Ts ++ [i]).Pairwise (· ≤ ·) := List.pairwise_append.2 ⟨h.srt, List.pairwise_singleton _ _, fun a ha b hb => by rw [List.mem_singleton.1 hb]; exact h.top a ha⟩
  have htp : ∀ t, t ∈ Ts ++ [i] → t ≤ i := fun t ht => by
    rcases List.mem_append.1 ht with h1 | h1
    · exact h.top t h1
    · rw [List.mem_singleton.1 h1]; exact Int.le_refl _
  have hle := h.le
  unfold tpF
  by_cases h1 : 100 < tr.length + 1
  · rw [if_pos h1]
    have h100 : tr.length = 100 := by omega
    clear hle h1 hl
    match tr, h100 with
    | d :: r, h100 =>
      have h99 : r.length = 99 := by simpa using h100
      refine ⟨⟨P ++ [d], ?_, fun _ => ?_⟩, ?_, hsr, htp⟩
      · rw [hA]; simp
      · simp [h99]
      · simp [h99]
  · rw [if_neg h1]
    refine ⟨⟨P, hA, fun hne => ?_⟩, ?_, hsr, htp⟩
    · have := hl hne; omega
    · simp; omega
theorem TrR.leave (i wi : Int) : TrR i wi [] [] := ⟨⟨[], rfl, fun h => absurd rfl h⟩, by simp, .nil, fun t h => by cases h⟩
theorem TrR.count {i wi : Int} {tr Ts : List Int} (h : TrR i wi tr Ts) (mo : Int) (hm : mo ≤ 100) : (mo ≤ (tr.length : Int)) ↔ (mo ≤ ((agL i wi Ts).length : Int)) := by
  obtain ⟨P, hP, hl⟩ := h.spl
  rw [hP, List.length_append]
  by_cases e : P = []
  · subst e; simp
  · have := hl e
    omega
theorem nthI_get (S : List Int) (k : Nat) (h : k < S.length) : nthI S k = S[k] := by
  unfold nthI
  rw [List.getD_eq_getElem?_getD, List.getElem?_eq_getElem h]
  rfl
theorem TrR.may {i wi : Int} {tr Ts : List Int} (h : TrR i wi tr Ts) : tmB tr wi = true := by
  obtain ⟨P, hP, _⟩ := h.spl
  have hs := agL_srt (i := i) (wi := wi) h.srt
  rw [hP] at hs
  have hs2 := (List.pairwise_append.1 hs).2.1
  rw [List.pairwise_iff_getElem] at hs2
  have hin : ∀ k (hk : k < tr.length), 0 ≤ tr[k] ∧ tr[k] < wi := fun k hk => by
    have hm : tr[k] ∈ agL i wi Ts := by rw [hP]; exact List.mem_append_right _ (List.getElem_mem hk)
    exact ⟨agL_pos h.top hm, agL_lt hm⟩
  have hT : ∀ k, k ≤ tr.length → trN tr wi k = true := by
    intro k
    induction k with
    | zero => intro _; rfl
    | succ k ih =>
      intro hk
      simp only [trN]
      rw [ih (by omega), Bool.true_and]
      have h1 := hin k (by omega)
      refine kwB_t ⟨by rw [nthI_get _ _ (by omega)]; exact h1.1, ?_⟩
      rw [nthI_get _ _ (by omega)]
      cases k with
      | zero => show tr[0] ≤ wi - 1; omega
      | succ k =>
        show tr[k + 1] ≤ nthI tr k
        rw [nthI_get _ _ (by omega)]
        exact hs2 k (k + 1) (by omega) (by omega) (by omega)
  unfold tmB
  rw [decide_eq_true h.le, hT _ (Nat.le_refl _)]
  rfl

/-- a monitor of the law's guard -/
structure MoR (m : Mo) : Prop where
  ok : moE m = 0
  lo : m.lo = 0
  hi : m.hi = 9
  of0 : 0 ≤ m.of'
  of3 : m.of' < 3
  fr : 1 ≤ m.fr
  th : m.th.size ≠ 4
/-- for how many ticks a monitor was outside -/
def lnK (F : Nat → Mo) (Vs L : List Int) (k : Nat) : Int := if kwB (nthI Vs (F k).of'.toNat) 0 9 = true then 0 else nthI L k + 1
def lgS (F : Nat → Mo) (Vs L : List Int) : Nat → List Int
  | 0 => L
  | k + 1 => (lgS F Vs L k).set k (lnK F Vs L k)
def tsS (i : Int) (F : Nat → Mo) (Vs L Ts : List Int) : Nat → List Int
  | 0 => Ts
  | k + 1 => if lnK F Vs L k = (F k).fr then tsS i F Vs L Ts k ++ [i] else tsS i F Vs L Ts k
def whS (F : Nat → Mo) (Vs L : List Int) : Nat → Int
  | 0 => -1
  | k + 1 => if lnK F Vs L k = (F k).fr ∧ (F k).ti = 3 ∧ whS F Vs L k = -1 then (k : Int) else whS F Vs L k
def wrS (F : Nat → Mo) (Vs L : List Int) : Nat → Bool
  | 0 => false
  | k + 1 => wrS F Vs L k || decide ((F k).fr ≤ lnK F Vs L k)
theorem lgS_len (F : Nat → Mo) (Vs L : List Int) (k : Nat) : (lgS F Vs L k).length = L.length := by
  induction k with
  | zero => rfl
  | succ k ih => simp only [lgS, List.length_set]; exact ih
theorem lgS_at (F : Nat → Mo) (Vs L : List Int) (k j : Nat) (hj : j < L.length) : nthI (lgS F Vs L k) j = if j < k then lnK F Vs L j else nthI L j := by
  induction k with
  | zero => rfl
  | succ k ih =>
    simp only [lgS]
    by_cases e : k = j
    · subst e
      rw [set_at _ _ _ (by rw [lgS_len]; exact hj), if_pos (by omega)]
    · rw [nthI_set_ne _ _ _ _ e, ih]
      by_cases h : j < k
      · rw [if_pos h, if_pos (by omega)]
      · rw [if_neg h, if_neg (by omega)]
theorem hat_set_eq (H : List Bool) (i : Nat) (b : Bool) (h : i < H.length) : hat (H.set i b) i = b := by
  unfold hat
  rw [List.getD_eq_getElem?_getD]
  simp [h]
theorem hat_set_ne' (H : List Bool) (i j : Nat) (b : Bool) (h : i ≠ j) : hat (H.set i b) j = hat H j := by
  unfold hat
  rw [List.getD_eq_getElem?_getD, List.getD_eq_getElem?_getD, List.getElem?_set_ne h]
structure TkR (F : Nat → Mo) (n : Nat) (Vs L Ts : List Int) (D : Vi) (i wi : Int) (k : Nat) : Prop where
  sf : (tkP F Vs D k).1.sf = D.sf
  wy : (tkP F Vs D k).1.wy = D.wy
  qu : (tkP F Vs D k).1.qu = D.qu
  lb : (tkP F Vs D k).1.bd.length = n
  lp : (tkP F Vs D k).1.tp.length = n
  b : ∀ j, j < n → nthI (tkP F Vs D k).1.bd j = if j < k then mnI (lnK F Vs L j) (F j).fr else nthI D.bd j
  p : ∀ j, j < n → hat (tkP F Vs D k).1.tp j = if j < k then decide ((F j).fr ≤ lnK F Vs L j) else hat D.tp j
  t : TrR i wi (tkP F Vs D k).1.tr (tsS i F Vs L Ts k)
  y : whS F Vs L k = ((tkP F Vs D k).2.find? (fun z => (F z.toNat).ti == 3)).getD (-1)
  z : ∀ z, z ∈ (tkP F Vs D k).2 → ∃ j : Nat, j < k ∧ z = (j : Int)
theorem TkR.of {F : Nat → Mo} {n : Nat} {Vs L Ts : List Int} {D : Vi} {i wi : Int} (hF : ∀ j, j < n → MoR (F j)) (lb : D.bd.length = n) (lp : D.tp.length = n)
    (hb : ∀ j, j < n → 0 ≤ nthI L j ∧ nthI D.bd j = mnI (nthI L j) (F j).fr) (hp : ∀ j, j < n → hat D.tp j = decide ((F j).fr ≤ nthI L j)) (ht : TrR i wi D.tr Ts) (hw : 1 ≤ wi) :
    ∀ k, k ≤ n → TkR F n Vs L Ts D i wi k := by
  intro k
  induction k with
  | zero =>
    intro _
    exact ⟨rfl, rfl, rfl, lb, lp, fun j _ => rfl, fun j _ => rfl, ht, rfl, fun z h => by cases h⟩
  | succ k ih =>
    intro hk
    obtain ⟨s1, s2, s3, s4, s5, s6, s7, s8, s9, s10⟩ := ih (by omega)
    have m := hF k (by omega)
    have mf := m.fr
    have b0 := hb k (by omega)
    have p0 := hp k (by omega)
    have sb := s6 k (by omega)
    have sp := s7 k (by omega)
    rw [if_neg (Nat.lt_irrefl _)] at sb sp
    rw [b0.2] at sb
    rw [p0] at sp
    have e1 : (tkP F Vs D (k + 1)).1 = wtV (F k) (nthI Vs (F k).of'.toNat) k (tkP F Vs D k).1 := rfl
    have e2 : (tkP F Vs D (k + 1)).2 = wtF (F k) (nthI Vs (F k).of'.toNat) k (tkP F Vs D k).1 (tkP F Vs D k).2 := rfl
    have hwh : whS F Vs L (k + 1) = if lnK F Vs L k = (F k).fr ∧ (F k).ti = 3 ∧ whS F Vs L k = -1 then (k : Int) else whS F Vs L k := rfl
    have hts : tsS i F Vs L Ts (k + 1) = if lnK F Vs L k = (F k).fr then tsS i F Vs L Ts k ++ [i] else tsS i F Vs L Ts k := rfl
    have other : ∀ j, j ≠ k → (j < k + 1 ↔ j < k) := fun j h => by omega
    cases hx : kwB (nthI Vs (F k).of'.toNat) 0 9
    · have hx' : kwB (nthI Vs (F k).of'.toNat) (F k).lo (F k).hi = false := by rw [m.lo, m.hi]; exact hx
      have hln : lnK F Vs L k = nthI L k + 1 := by unfold lnK; rw [hx]; rfl
      have hmn : mnI (mnI (nthI L k) (F k).fr + 1) (F k).fr = mnI (nthI L k + 1) (F k).fr := by
        unfold mnI
        split <;> split <;> (try split) <;> omega
      have hb' : ∀ j, j < n → nthI ((tkP F Vs D k).1.bd.set k (mnI (nthI L k + 1) (F k).fr)) j = if j < k + 1 then mnI (lnK F Vs L j) (F j).fr else nthI D.bd j := by
        intro j hj
        by_cases e : j = k
        · subst e
          rw [set_at _ _ _ (by omega), if_pos (by omega), hln]
        · rw [nthI_set_ne _ _ _ _ (Ne.symm e), s6 j hj]
          simp only [other j e]
      by_cases hq : lnK F Vs L k = (F k).fr
      · have hc : (mnI (nthI (tkP F Vs D k).1.bd k + 1) (F k).fr == (F k).fr && !hat (tkP F Vs D k).1.tp k) = true := by
          rw [sb, hmn, sp, ← hln, hq]
          have h1 : mnI (F k).fr (F k).fr = (F k).fr := by unfold mnI; split <;> rfl
          have h2 : decide ((F k).fr ≤ nthI L k) = false := decide_eq_false (by omega)
          rw [h1, h2]
          simp
        have e3 : (tkP F Vs D (k + 1)).1 = vfT ((tkP F Vs D k).1.b ((tkP F Vs D k).1.bd.set k (mnI (nthI L k + 1) (F k).fr))) k := by
          rw [e1]; unfold wtV; rw [hx', if_neg (by simp), if_pos hc, sb, hmn]
        have e4 : (tkP F Vs D (k + 1)).2 = (tkP F Vs D k).2 ++ [(k : Int)] := by
          rw [e2]; unfold wtF; rw [hx', if_neg (by simp), if_pos hc]
        refine ⟨?_, ?_, ?_, ?_, ?_, ?_, ?_, ?_, ?_, ?_⟩
        · rw [e3]; exact s1
        · rw [e3]; exact s2
        · rw [e3]; exact s3
        · rw [e3]; show ((tkP F Vs D k).1.bd.set k _).length = n; rw [List.length_set]; exact s4
        · rw [e3]; show ((tkP F Vs D k).1.tp.set k true).length = n; rw [List.length_set]; exact s5
        · rw [e3]; exact hb'
        · rw [e3]
          intro j hj
          show hat ((tkP F Vs D k).1.tp.set k true) j = _
          by_cases e : j = k
          · subst e
            rw [hat_set_eq _ _ _ (by omega), if_pos (by omega), hq]
            simp
          · rw [hat_set_ne' _ _ _ _ (Ne.symm e), s7 j hj]
            simp only [other j e]
        · rw [e3, hts, if_pos hq]
          exact s8.trip hw
        · rw [e4, List.find?_append, hwh]
          have hz : ∀ z, List.find? (fun z => (F z.toNat).ti == 3) (tkP F Vs D k).2 = some z → 0 ≤ z := fun z h => by
            obtain ⟨j, _, rfl⟩ := s10 z (List.mem_of_find?_eq_some h)
            omega
          cases hfi : List.find? (fun z => (F z.toNat).ti == 3) (tkP F Vs D k).2 with
          | none =>
            rw [hfi] at s9
            have s9 : whS F Vs L k = -1 := s9
            rw [s9]
            by_cases h3 : (F k).ti = 3
            · rw [if_pos ⟨hq, h3, rfl⟩]
              have : ((F (k : Int).toNat).ti == 3) = true := by simpa using h3
              simp [List.find?_cons, h3]
            · rw [if_neg (fun h => h3 h.2.1)]
              simp [List.find?_cons, h3]
          | some z =>
            rw [hfi] at s9
            have s9 : whS F Vs L k = z := s9
            rw [s9, if_neg (fun h => by have := hz z hfi; omega)]
            rfl
        · rw [e4]
          intro z hz
          rcases List.mem_append.1 hz with h | h
          · obtain ⟨j, hj, e⟩ := s10 z h
            exact ⟨j, by omega, e⟩
          · exact ⟨k, by omega, List.mem_singleton.1 h⟩
      · have hc : (mnI (nthI (tkP F Vs D k).1.bd k + 1) (F k).fr == (F k).fr && !hat (tkP F Vs D k).1.tp k) = false := by
          rw [sb, hmn, sp]
          by_cases h2 : (F k).fr ≤ nthI L k
          · rw [decide_eq_true h2]; simp
          · have h3 : mnI (nthI L k + 1) (F k).fr ≠ (F k).fr := by unfold mnI; split <;> omega
            have : (mnI (nthI L k + 1) (F k).fr == (F k).fr) = false := by simpa using h3
            rw [this]; rfl
        have e3 : (tkP F Vs D (k + 1)).1 = (tkP F Vs D k).1.b ((tkP F Vs D k).1.bd.set k (mnI (nthI L k + 1) (F k).fr)) := by
          rw [e1]; unfold wtV; rw [hx', if_neg (by simp), if_neg (by rw [hc]; simp), sb, hmn]
        have e4 : (tkP F Vs D (k + 1)).2 = (tkP F Vs D k).2 := by
          rw [e2]; unfold wtF; rw [hx', if_neg (by simp), if_neg (by rw [hc]; simp)]
        refine ⟨?_, ?_, ?_, ?_, ?_, ?_, ?_, ?_, ?_, ?_⟩
        · rw [e3]; exact s1
        · rw [e3]; exact s2
        · rw [e3]; exact s3
        · rw [e3]; show ((tkP F Vs D k).1.bd.set k _).length = n; rw [List.length_set]; exact s4
        · rw [e3]; exact s5
        · rw [e3]; exact hb'
        · rw [e3]
          intro j hj
          show hat (tkP F Vs D k).1.tp j = _
          by_cases e : j = k
          · subst e
            rw [sp, if_pos (by omega), hln]
            by_cases h2 : (F j).fr ≤ nthI L j
            · rw [decide_eq_true h2, decide_eq_true (by omega)]
            · rw [decide_eq_false h2, decide_eq_false (by omega)]
          · rw [s7 j hj]
            simp only [other j e]
        · rw [e3, hts, if_neg hq]
          exact s8
        · rw [e4, hwh, if_neg (fun h => hq h.1)]
          exact s9
        · rw [e4]
          intro z hz
          obtain ⟨j, hj, e⟩ := s10 z hz
          exact ⟨j, by omega, e⟩
    · have hx' : kwB (nthI Vs (F k).of'.toNat) (F k).lo (F k).hi = true := by rw [m.lo, m.hi]; exact hx
      have hln : lnK F Vs L k = 0 := by unfold lnK; rw [hx]; rfl
      have hq : ¬ lnK F Vs L k = (F k).fr := by omega
      have e3 : (tkP F Vs D (k + 1)).1 = ((tkP F Vs D k).1.b ((tkP F Vs D k).1.bd.set k 0)).p ((tkP F Vs D k).1.tp.set k false) := by
        rw [e1]; unfold wtV; rw [hx', if_pos rfl]
      have e4 : (tkP F Vs D (k + 1)).2 = (tkP F Vs D k).2 := by
        rw [e2]; unfold wtF; rw [hx', if_pos rfl]
      refine ⟨?_, ?_, ?_, ?_, ?_, ?_, ?_, ?_, ?_, ?_⟩
      · rw [e3]; exact s1
      · rw [e3]; exact s2
      · rw [e3]; exact s3
      · rw [e3]; show ((tkP F Vs D k).1.bd.set k _).length = n; rw [List.length_set]; exact s4
      · rw [e3]; show ((tkP F Vs D k).1.tp.set k false).length = n; rw [List.length_set]; exact s5
      · rw [e3]
        intro j hj
        show nthI ((tkP F Vs D k).1.bd.set k 0) j = _
        by_cases e : j = k
        · subst e
          rw [set_at _ _ _ (by omega), if_pos (by omega), hln]
          unfold mnI
          rw [if_neg (by omega)]
        · rw [nthI_set_ne _ _ _ _ (Ne.symm e), s6 j hj]
          simp only [other j e]
      · rw [e3]
        intro j hj
        show hat ((tkP F Vs D k).1.tp.set k false) j = _
        by_cases e : j = k
        · subst e
          rw [hat_set_eq _ _ _ (by omega), if_pos (by omega), hln, decide_eq_false (by omega)]
        · rw [hat_set_ne' _ _ _ _ (Ne.symm e), s7 j hj]
          simp only [other j e]
      · rw [e3, hts, if_neg hq]
        exact s8
      · rw [e4, hwh, if_neg (fun h => hq h.1)]
        exact s9
      · rw [e4]
        intro z hz
        obtain ⟨j, hj, e⟩ := s10 z hz
        exact ⟨j, by omega, e⟩
end Go.Proofs.Ytkfgchngndppiaa
