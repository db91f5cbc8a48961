import Derived.Test.YtkfgchngndppiaaULm
namespace Go.Proofs.Ytkfgchngndppiaa
open Go.RowKit
set_option maxRecDepth 100000
set_option linter.unusedVariables false
set_option linter.unusedSimpArgs false

/-- between two ticks: the vigil, and what the law counts by itself -/
structure LI (F : Nat → Mo) (n : Nat) (si wi : Int) (D : Vi) (L Ts : List Int) (q i : Int) : Prop where
  lb : D.bd.length = n
  lp : D.tp.length = n
  ll : L.length = n
  b : ∀ j, j < n → 0 ≤ nthI L j ∧ nthI D.bd j = mnI (nthI L j) (F j).fr
  p : ∀ j, j < n → hat D.tp j = decide ((F j).fr ≤ nthI L j)
  q0 : 0 ≤ q
  qu : D.qu = mnI q si
  t : TrR i wi D.tr Ts
  y : wyB D n = true
theorem LI.may {F : Nat → Mo} {n : Nat} {si wi : Int} {D : Vi} {L Ts : List Int} {q i : Int} (h : LI F n si wi D L Ts q i) (hF : ∀ j, j < n → MoR (F j)) (hsi : 0 ≤ si) : vmB F n D si wi = true := by
  have hm : ∀ k, k ≤ n → msN F D.bd D.tp k = true := by
    intro k
    induction k with
    | zero => intro _; rfl
    | succ k ih =>
      intro hk
      simp only [msN]
      rw [ih (by omega), Bool.true_and]
      obtain ⟨b0, b1⟩ := h.b k (by omega)
      have p0 := h.p k (by omega)
      have mf := (hF k (by omega)).fr
      unfold moS
      rw [b1, p0]
      have h1 : kwB (mnI (nthI L k) (F k).fr) 0 (F k).fr = true := kwB_t (by unfold mnI; split <;> omega)
      rw [h1]
      by_cases h2 : (F k).fr ≤ nthI L k
      · have h3 : mnI (nthI L k) (F k).fr = (F k).fr := by unfold mnI; split <;> omega
        rw [h3, decide_eq_true h2]
        simp
      · rw [decide_eq_false h2]
        simp
  have hq : kwB D.qu 0 si = true := kwB_t (by
    have := h.q0
    rw [h.qu]
    unfold mnI
    split <;> omega)
  unfold vmB mmB
  rw [decide_eq_true h.lb, decide_eq_true h.lp, hm n (Nat.le_refl _), hq, h.t.may, h.y]
  rfl
theorem amN_ok {F : Nat → Mo} {n : Nat} (hF : ∀ j, j < n → MoR (F j)) : ∀ k, k ≤ n → amN F 3 k = true := by
  intro k
  induction k with
  | zero => intro _; rfl
  | succ k ih =>
    intro hk
    simp only [amN]
    rw [ih (by omega), decide_eq_true (by have := (hF k (by omega)).of3; exact this)]
    rfl
theorem fbM_zero {F : Nat → Mo} {r : Nat × Nat} : ∀ (f i : Nat), (∀ j, i ≤ j → j < i + f → moE (F j) = 0) → fbM F r f i = r := by
  intro f
  induction f with
  | zero => intro i _; rfl
  | succ f ih =>
    intro i h
    simp only [fbM]
    rw [if_pos (h i (Nat.le_refl _) (by omega))]
    exact ih (i + 1) (fun j h1 h2 => h j (by omega) (by omega))
theorem gfP_zero {F : Nat → Mo} {n : Nat} {si mo wi : Int} {sa : ByteArray} (hn : n ≤ 32) (hF : ∀ j, j < n → MoR (F j)) (hg : grE si mo wi sa = 0) : (gfP F n si mo wi sa).1 = 0 := by
  unfold gfP
  rw [if_neg (by omega), fbM_zero n 0 (fun j _ h => (hF j (by omega)).ok)]
  exact hg
/-- why the craft is made safe, as the law reckons it -/
def wh2 (y : Int) (c : Nat) (mo : Int) : Int := if y = -1 ∧ mo ≤ (c : Int) then -3 else y
def wh3 (y : Int) (si q : Int) : Int := if y = -1 ∧ 0 < si ∧ si ≤ q then -2 else y
def qnx (q : Int) (he : Bool) : Int := if he = true then 0 else q + 1
def lvB (F : Nat → Mo) (Vs L : List Int) (n : Nat) (sf he le : Bool) : Bool := sf && le && he && !wrS F Vs L n
def whY (F : Nat → Mo) (Vs L Ts : List Int) (n : Nat) (i wi mo si q : Int) : Int := wh3 (wh2 (whS F Vs L n) (agL i wi (tsS i F Vs L Ts n)).length mo) si q
theorem anN_eq (F : Nat → Mo) (Vs L : List Int) (H : List Bool) : ∀ k, (∀ j, j < k → hat H j = decide ((F j).fr ≤ lnK F Vs L j)) → anN H k = wrS F Vs L k := by
  intro k
  induction k with
  | zero => intro _; rfl
  | succ k ih =>
    intro h
    simp only [anN, wrS]
    rw [ih (fun j hj => h j (by omega)), h k (by omega)]
structure LS (F : Nat → Mo) (G : Gd) (Vs L Ts : List Int) (D : Vi) (q i : Int) (he le : Bool) : Prop where
  nx : LI F G.n G.si G.wi (tiV F G Vs D he le) (lgS F Vs L G.n) (if lvB F Vs L G.n D.sf he le = true then [] else tsS (i + 1) F Vs L Ts G.n) (qnx q he) (i + 1)
  st : D.sf = true → lvB F Vs L G.n D.sf he le = false → (tiV F G Vs D he le).sf = true ∧ (tiV F G Vs D he le).wy = D.wy
  lv : lvB F Vs L G.n D.sf he le = true → (tiV F G Vs D he le).sf = false
  ma : D.sf = false → (tiV F G Vs D he le).wy = whY F Vs L Ts G.n (i + 1) G.wi G.mo G.si (qnx q he) ∧ (tiV F G Vs D he le).sf = (whY F Vs L Ts G.n (i + 1) G.wi G.mo G.si (qnx q he) != -1)
  na : ∀ z, z ∈ (tiP F G Vs D he).2 → ∃ j : Nat, j < G.n ∧ z = (j : Int)
theorem LI.step {F : Nat → Mo} {G : Gd} {D : Vi} {L Ts : List Int} {q i : Int} (h : LI F G.n G.si G.wi D L Ts q i) (hF : ∀ j, j < G.n → MoR (F j)) (hsi : 0 ≤ G.si) (hwi : 1 ≤ G.wi) (hmo : G.mo ≤ 100) (Vs : List Int) (he le : Bool) :
    LS F G Vs L Ts D q i he le := by
  have hT : TrR (i + 1) G.wi (grV D G he).tr Ts := h.t.grow
  have K := TkR.of (Vs := Vs) (D := grV D G he) hF h.lb h.lp h.b h.p hT hwi G.n (Nat.le_refl _)
  have hq0 := h.q0
  have hqn : 0 ≤ qnx q he := by unfold qnx; split <;> omega
  have hqu : (grV D G he).qu = mnI (qnx q he) G.si := by
    show quF D.qu G.si he = _
    unfold quF qnx
    rw [h.qu]
    cases he
    · simp only [Bool.false_eq_true, if_false]
      unfold mnI
      split <;> split <;> (try split) <;> omega
    · simp only [if_true]
      unfold mnI
      rw [if_neg (by omega)]
  have eP : tiP F G Vs D he = tkP F Vs (grV D G he) G.n := rfl
  have eV : tiV F G Vs D he le = fiV F G (tkP F Vs (grV D G he) G.n).1 (tkP F Vs (grV D G he) G.n).2 he le := rfl
  have han : anN (tkP F Vs (grV D G he) G.n).1.tp (tkP F Vs (grV D G he) G.n).1.tp.length = wrS F Vs L G.n := by
    rw [K.lp]
    exact anN_eq F Vs L _ _ (fun j hj => by rw [K.p j hj, if_pos hj])
  have hb : ∀ j, j < G.n → 0 ≤ nthI (lgS F Vs L G.n) j ∧ nthI (tkP F Vs (grV D G he) G.n).1.bd j = mnI (nthI (lgS F Vs L G.n) j) (F j).fr := fun j hj => by
    rw [lgS_at _ _ _ _ _ (by rw [h.ll]; exact hj), if_pos hj, K.b j hj, if_pos hj]
    refine ⟨?_, rfl⟩
    unfold lnK
    have := (h.b j hj).1
    split <;> omega
  have hp : ∀ j, j < G.n → hat (tkP F Vs (grV D G he) G.n).1.tp j = decide ((F j).fr ≤ nthI (lgS F Vs L G.n) j) := fun j hj => by
    rw [lgS_at _ _ _ _ _ (by rw [h.ll]; exact hj), if_pos hj, K.p j hj, if_pos hj]
  have hll : (lgS F Vs L G.n).length = G.n := by rw [lgS_len]; exact h.ll
  have hQ : (tkP F Vs (grV D G he) G.n).1.qu = mnI (qnx q he) G.si := K.qu.trans hqu
  have hS : (tkP F Vs (grV D G he) G.n).1.sf = D.sf := K.sf
  have hW : (tkP F Vs (grV D G he) G.n).1.wy = D.wy := K.wy
  have hL : lvB F Vs L G.n D.sf he le = (D.sf && (le && he && !anN (tkP F Vs (grV D G he) G.n).1.tp (tkP F Vs (grV D G he) G.n).1.tp.length)) := by
    rw [han]; unfold lvB; simp [Bool.and_assoc]
  have hwy := h.y
  have Kz := K.z
  have Kt := K.t
  have Ky := K.y
  have Klb := K.lb
  have Klp := K.lp
  clear K
  generalize tkP F Vs (grV D G he) G.n = P at *
  cases hsf : D.sf
  · rw [hsf] at hL hS
    have hL : lvB F Vs L G.n false he le = false := hL
    have hR : rsI F P.2 P.1.tr.length G P.1.qu = whY F Vs L Ts G.n (i + 1) G.wi G.mo G.si (qnx q he) := by
      unfold rsI whY
      rw [Ky]
      cases hfi : P.2.find? (fun z => (F z.toNat).ti == 3) with
      | some z =>
        obtain ⟨j, _, ej⟩ := Kz z (List.mem_of_find?_eq_some hfi)
        have hz : ¬ z = -1 := by omega
        dsimp only [Option.getD_some]
        have e2 : ∀ c, wh2 z c G.mo = z := fun c => if_neg (fun h => hz h.1)
        rw [e2]
        exact (if_neg (fun h => hz h.1)).symm
      | none =>
        have hc := Kt.count G.mo hmo
        have hs : P.1.qu = G.si ↔ G.si ≤ qnx q he := by
          rw [hQ]; unfold mnI; split <;> omega
        dsimp only [Option.getD_none]
        by_cases h1 : G.mo ≤ (P.1.tr.length : Int)
        · have e2 : wh2 (-1) (agL (i + 1) G.wi (tsS (i + 1) F Vs L Ts G.n)).length G.mo = -3 := if_pos ⟨rfl, hc.1 h1⟩
          rw [if_pos h1, e2]
          exact (if_neg (fun h => absurd h.1 (by decide))).symm
        · have e2 : wh2 (-1) (agL (i + 1) G.wi (tsS (i + 1) F Vs L Ts G.n)).length G.mo = -1 := if_neg (fun h => h1 (hc.2 h.2))
          rw [if_neg h1, e2]
          by_cases h2 : 0 < G.si ∧ P.1.qu = G.si
          · rw [if_pos h2]
            exact (if_pos ⟨rfl, h2.1, hs.1 h2.2⟩).symm
          · rw [if_neg h2]
            exact (if_neg (fun h => h2 ⟨h.2.1, hs.2 h.2.2⟩)).symm
    have eF : tiV F G Vs D he le = ⟨rsI F P.2 P.1.tr.length G P.1.qu != -1, rsI F P.2 P.1.tr.length G P.1.qu, P.1.bd, P.1.tp, P.1.qu, P.1.tr⟩ := by
      rw [eV]; unfold fiV; rw [hS, if_neg (by simp)]
    have hr : rsI F P.2 P.1.tr.length G P.1.qu = -1 ∨ (rsI F P.2 P.1.tr.length G P.1.qu ≠ -1 ∧ -3 ≤ rsI F P.2 P.1.tr.length G P.1.qu ∧ rsI F P.2 P.1.tr.length G P.1.qu ≤ (G.n : Int) - 1) ∨ (rsI F P.2 P.1.tr.length G P.1.qu ≠ -1 ∧ -3 ≤ rsI F P.2 P.1.tr.length G P.1.qu ∧ rsI F P.2 P.1.tr.length G P.1.qu ≤ -2) := by
      unfold rsI
      cases hfi : P.2.find? (fun z => (F z.toNat).ti == 3) with
      | some z =>
        obtain ⟨j, hj, ej⟩ := Kz z (List.mem_of_find?_eq_some hfi)
        dsimp only
        right; left
        omega
      | none =>
        dsimp only
        split
        · right; right; omega
        · split
          · right; right; omega
          · left; rfl
    refine ⟨?_, ?_, ?_, ?_, (by rw [eP]; exact Kz)⟩
    · rw [eF, hsf, hL]
      refine ⟨Klb, Klp, hll, hb, hp, hqn, hQ, Kt, ?_⟩
      unfold wyB
      dsimp only
      rcases hr with h1 | ⟨h1, h2, h3⟩ | ⟨h1, h2, h3⟩
      · rw [h1]; rfl
      · have e : (rsI F P.2 P.1.tr.length G P.1.qu != -1) = true := by simpa using h1
        rw [e, if_pos rfl, kwB_t ⟨h2, h3⟩]; rfl
      · have e : (rsI F P.2 P.1.tr.length G P.1.qu != -1) = true := by simpa using h1
        rw [e, if_pos rfl, kwB_t ⟨h2, by omega⟩]; rfl
    · intro h1; rw [hsf] at h1; cases h1
    · intro h1; rw [hsf, hL] at h1; cases h1
    · intro _
      rw [eF]
      dsimp only
      rw [hR]
      exact ⟨rfl, rfl⟩
  · rw [hsf, Bool.true_and] at hL
    rw [hsf] at hS
    cases hlv : (le && he && !anN P.1.tp P.1.tp.length)
    · rw [hlv] at hL
      have eF : tiV F G Vs D he le = P.1 := by
        rw [eV]; unfold fiV; rw [hS, if_pos rfl, if_neg (by rw [hlv]; simp)]
      refine ⟨?_, ?_, ?_, ?_, (by rw [eP]; exact Kz)⟩
      · rw [eF, hsf, hL]
        refine ⟨Klb, Klp, hll, hb, hp, hqn, hQ, Kt, ?_⟩
        unfold wyB at hwy ⊢
        rw [hS, hW]
        rw [hsf] at hwy
        exact hwy
      · intro _ _
        rw [eF]
        exact ⟨hS, hW⟩
      · intro h1; rw [hsf, hL] at h1; cases h1
      · intro h1; rw [hsf] at h1; cases h1
    · rw [hlv] at hL
      have eF : tiV F G Vs D he le = ⟨false, -1, P.1.bd, P.1.tp, P.1.qu, []⟩ := by
        rw [eV]; unfold fiV; rw [hS, if_pos rfl, if_pos hlv]
      refine ⟨?_, ?_, ?_, ?_, (by rw [eP]; exact Kz)⟩
      · rw [eF, hsf, hL]
        exact ⟨Klb, Klp, hll, hb, hp, hqn, hQ, TrR.leave _ _, rfl⟩
      · intro _ h1; rw [hsf, hL] at h1; cases h1
      · intro _; rw [eF]
      · intro h1; rw [hsf] at h1; cases h1
theorem LI.start (F : Nat → Mo) (n : Nat) (si wi i : Int) (hsi : 0 ≤ si) (hF : ∀ j, j < n → MoR (F j)) : LI F n si wi (bgD 0 n) (List.replicate n 0) [] 0 i := by
  have hz : ∀ j, nthI (List.replicate n 0) j = 0 := fun j => by
    unfold nthI
    rw [List.getD_eq_getElem?_getD, List.getElem?_replicate]
    split <;> rfl
  have hh : ∀ j, hat (List.replicate n false) j = false := fun j => by
    unfold hat
    rw [List.getD_eq_getElem?_getD, List.getElem?_replicate]
    split <;> rfl
  refine ⟨by simp [bgD], by simp [bgD], by simp, fun j hj => ?_, fun j hj => ?_, Int.le_refl _, ?_, TrR.leave _ _, rfl⟩
  · have := (hF j hj).fr
    show 0 ≤ _ ∧ nthI (List.replicate n 0) j = _
    rw [hz]
    refine ⟨Int.le_refl _, ?_⟩
    unfold mnI
    rw [if_neg (by omega)]
  · have := (hF j hj).fr
    show hat (List.replicate n false) j = _
    rw [hh, hz, decide_eq_false (by omega)]
  · show (0 : Int) = mnI 0 si
    unfold mnI
    rw [if_neg (by omega)]
def safB : ByteArray := ByteArray.mk #[115, 97, 102, 101]
theorem naN_mem (F : Nat → Mo) (sf : Bool) (Fr : List Int) (s : ByteArray) : ∀ k, k ≤ Fr.length → s ∈ naN F sf Fr k → ∃ z, z ∈ Fr ∧ s = (F z.toNat).th := by
  intro k
  induction k with
  | zero => intro _ h; cases h
  | succ k ih =>
    intro hk h
    simp only [naN] at h
    rcases List.mem_append.1 h with h1 | h1
    · exact ih (by omega) h1
    · split at h1
      · unfold tlL at h1
        split at h1
        · cases h1
        · refine ⟨nthI Fr k, ?_, List.mem_singleton.1 h1⟩
          rw [nthI_get _ _ (by omega)]
          exact List.getElem_mem _
      · cases h1
/-- the first name is the safe one's just when the craft was made safe -/
theorem names_first {F : Nat → Mo} {n : Nat} (hF : ∀ j, j < n → MoR (F j)) (sf fr : Bool) (Fr : List Int) (hz : ∀ z, z ∈ Fr → ∃ j : Nat, j < n ∧ z = (j : Int)) :
    (naL F safB sf Fr fr = [] ∧ (sf && fr) = false) ∨ ∃ s r, naL F safB sf Fr fr = s :: r ∧ ((s = safB ∧ (sf && fr) = true) ∨ (s ≠ safB ∧ (sf && fr) = false)) := by
  unfold naL
  by_cases h : (fr && sf) = true
  · right
    rw [if_pos h]
    refine ⟨safB, _, rfl, .inl ⟨rfl, by rw [Bool.and_comm]; exact h⟩⟩
  · have h2 : (sf && fr) = false := by rw [Bool.and_comm]; simpa using h
    rw [if_neg h, List.nil_append]
    cases hl : naN F sf Fr Fr.length with
    | nil => exact .inl ⟨rfl, h2⟩
    | cons s r =>
      refine .inr ⟨s, r, rfl, .inr ⟨?_, h2⟩⟩
      intro e
      obtain ⟨z, hm, e2⟩ := naN_mem F sf Fr s Fr.length (Nat.le_refl _) (by rw [hl]; exact List.mem_cons_self)
      obtain ⟨j, hj, rfl⟩ := hz z hm
      have := (hF j hj).th
      rw [e] at e2
      apply this
      rw [show ((j : Int).toNat) = j by omega] at e2
      rw [← e2]
      rfl
end Go.Proofs.Ytkfgchngndppiaa
