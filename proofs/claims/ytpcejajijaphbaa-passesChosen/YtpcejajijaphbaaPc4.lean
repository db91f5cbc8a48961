import Derived.Test.YtpcejajijaphbaaPc3
namespace Go.Proofs.Ytpcejajijaphbaa
open Go.RowKit
set_option maxRecDepth 100000
set_option linter.unusedVariables false
set_option linter.unusedSimpArgs false

section
/-- one more may be the best -/
theorem Ky.add {T q : Rv} {S : Rv → Prop} (h : Ky T S) (hq : T.1.length ≠ q.1.length ∨ hdP T ≠ hdP q) : Ky (if btB q T = true then q else T) (fun r => S r ∨ r = q) := by
  by_cases c : btB q T = true
  · rw [if_pos c]
    refine ⟨.inr rfl, fun r hr => ?_⟩
    rcases hr with hr | hr
    · rcases h.2 r hr with e | e
      · exact .inr (by rw [e]; exact c)
      · exact .inr (bt_trans c e)
    · exact .inl hr
  · rw [if_neg c]
    refine ⟨.inl h.1, fun r hr => ?_⟩
    rcases hr with hr | hr
    · exact h.2 r hr
    · rw [hr]
      exact .inr (bt_total (by rcases hq with e | e; exact .inl (fun e2 => e e2.symm); exact .inr (fun e2 => e e2.symm)) c)
/-- the best of none, and of those below m that sel takes -/
def KyM (R : Nat → Rv) (sel : Nat → Bool) (m : Nat) (T : Rv) : Prop := Ky T (fun r => r = ([], 0) ∨ ∃ j, j < m ∧ sel j = true ∧ r = R j)
theorem KyM.first (R : Nat → Rv) (sel : Nat → Bool) : KyM R sel 0 ([], 0) := ⟨.inl rfl, fun r h => by
  rcases h with h | ⟨j, h, _⟩
  · exact .inl h
  · omega⟩
theorem KyM.unlike {R : Nat → Rv} {sel : Nat → Bool} {m : Nat} {T : Rv} (hR : ∀ j, sel j = true → hdP (R j) = j ∧ (R j).1 ≠ []) (h : KyM R sel m T) {q : Rv} (h1 : q.1 ≠ []) (h2 : ∀ j, j < m → sel j = true → hdP q ≠ j) : T.1.length ≠ q.1.length ∨ hdP T ≠ hdP q := by
  rcases h.1 with e | ⟨j, hj, hs, e⟩
  · left
    rw [e]
    intro e2
    exact h1 (List.length_eq_zero_iff.1 e2.symm)
  · right
    rw [e, (hR j hs).1]
    exact fun e2 => h2 j hj hs e2.symm
theorem KyM.step {R : Nat → Rv} {sel : Nat → Bool} {m : Nat} {T : Rv} (hR : ∀ j, sel j = true → hdP (R j) = j ∧ (R j).1 ≠ []) (h : KyM R sel m T) : KyM R sel (m + 1) (if (sel m && btB (R m) T) = true then R m else T) := by
  cases hs : sel m with
  | false =>
    rw [Bool.false_and, if_neg (by decide)]
    refine h.congr (fun r => ?_)
    constructor
    · rintro (e | ⟨j, hj, h1, e⟩)
      · exact .inl e
      · exact .inr ⟨j, by omega, h1, e⟩
    · rintro (e | ⟨j, hj, h1, e⟩)
      · exact .inl e
      · refine .inr ⟨j, ?_, h1, e⟩
        have : j ≠ m := fun e2 => by rw [e2, hs] at h1; cases h1
        omega
  | true =>
    rw [Bool.true_and]
    have hu := h.unlike hR (hR m hs).2 (fun j hj _ => by rw [(hR m hs).1]; omega)
    refine (Ky.add h hu).congr (fun r => ?_)
    constructor
    · rintro ((e | ⟨j, hj, h1, e⟩) | e)
      · exact .inl e
      · exact .inr ⟨j, by omega, h1, e⟩
      · exact .inr ⟨m, by omega, hs, e⟩
    · rintro (e | ⟨j, hj, h1, e⟩)
      · exact .inl (.inl e)
      · by_cases e2 : j = m
        · rw [e2] at e
          exact .inr e
        · exact .inl (.inr ⟨j, by omega, h1, e⟩)
def setB (D : Nat → Bool) (k : Nat) : Nat → Bool := fun j => if j = k then true else D j
def setR (R : Nat → Rv) (k : Nat) (r : Rv) : Nat → Rv := fun j => if j = k then r else R j
section
variable (F : Nat → Pa) (g : Int)
/-- the document's table: D tells which places are reckoned, R their rows, W the best of all -/
structure DI (n q : Nat) (D : Nat → Bool) (R : Nat → Rv) (W : Rv) : Prop where
  ord : ∀ u d, u < n → d < n → D u = false → D d = true → (F u).fr ≤ (F d).fr
  rows : ∀ i, i < n → D i = true → ∃ T : Rv, Ky T (fun r => r = ([], 0) ∨ ∃ j, j < n ∧ mf (F i) (F j) g = true ∧ r = R j) ∧ R i = (i :: T.1, (F i).wo + T.2)
  len : ∀ i, i < n → D i = true → (R i).1.length ≤ q ∧ 0 ≤ (R i).2 ∧ (R i).2 ≤ 1000000 * ((R i).1.length : Int)
  cnt : (List.range n).countP D = q
  top : KyM R D n W
/-- those that may follow k -/
def selK (D : Nat → Bool) (k : Nat) : Nat → Bool := fun j => (D j && decide (j ≠ k)) && mf (F k) (F j) g
theorem DI.first (n : Nat) (R : Nat → Rv) : DI F g n 0 (fun _ => false) R ([], 0) :=
  ⟨(fun u d _ _ _ h => by cases h), (fun i _ h => by cases h), (fun i _ h => by cases h), (by rw [List.countP_eq_zero]; intro a _ h; cases h), ⟨.inl rfl, fun r h => by
    rcases h with h | ⟨j, _, h, _⟩
    · exact .inl h
    · cases h⟩⟩
variable {F g}
theorem DI.hd {n q : Nat} {D : Nat → Bool} {R : Nat → Rv} {W : Rv} (h : DI F g n q D R W) {i : Nat} (hi : i < n) (hd : D i = true) : hdP (R i) = i ∧ (R i).1 ≠ [] := by
  obtain ⟨T, _, e⟩ := h.rows i hi hd
  rw [e]
  exact ⟨rfl, by simp⟩
theorem countP_set (D : Nat → Bool) (k : Nat) (hk : D k = false) : ∀ n, (List.range n).countP (setB D k) = (List.range n).countP D + if k < n then 1 else 0 := by
  intro n
  induction n with
  | zero => rfl
  | succ n ih =>
    rw [List.range_succ, List.countP_append, List.countP_append, ih, List.countP_singleton, List.countP_singleton]
    by_cases e : n = k
    · subst e
      have e1 : setB D n n = true := if_pos rfl
      rw [e1, hk]
      simp
    · have e1 : setB D k n = D n := if_neg e
      rw [e1]
      have e2 : (k < n + 1) = (k < n) := propext ⟨fun h => by omega, fun h => by omega⟩
      simp only [e2]
      omega
/-- not all are reckoned: one is not -/
theorem DI.more {n q : Nat} {D : Nat → Bool} {R : Nat → Rv} {W : Rv} (h : DI F g n q D R W) (hq : q < n) : ∃ k, k < n ∧ D k = false := by
  refine Classical.byContradiction fun hn => ?_
  have : (List.range n).countP D = (List.range n).length := by
    rw [List.countP_eq_length]
    intro a ha
    cases e : D a with
    | true => rfl
    | false => exact absurd ⟨a, List.mem_range.1 ha, e⟩ hn
  rw [h.cnt, List.length_range] at this
  omega
theorem DI.all {n : Nat} {D : Nat → Bool} {R : Nat → Rv} {W : Rv} (h : DI F g n n D R W) : ∀ i, i < n → D i = true := by
  have : (List.range n).countP D = (List.range n).length := by rw [h.cnt, List.length_range]
  rw [List.countP_eq_length] at this
  exact fun i hi => this i (List.mem_range.2 hi)
theorem DI.step {n q : Nat} (hF : ∀ i, (F i).fr < (F i).to') (hw : ∀ i, i < n → 0 ≤ (F i).wo ∧ (F i).wo ≤ 1000000) (hg : 0 ≤ g) {D : Nat → Bool} {R : Nat → Rv} {W : Rv} (h : DI F g n q D R W) {k : Nat} (hk : k < n) (hDk : D k = false) (hmax : ∀ u, u < n → D u = false → (F u).fr ≤ (F k).fr) {T : Rv} (hT : KyM R (selK F g D k) n T) :
    DI F g n (q + 1) (setB D k) (setR R k (k :: T.1, (F k).wo + T.2)) (if btB (k :: T.1, (F k).wo + T.2) W = true then (k :: T.1, (F k).wo + T.2) else W) := by
  have sB : ∀ j, j ≠ k → setB D k j = D j := fun j e => if_neg e
  have sR : ∀ (r : Rv) (j : Nat), j ≠ k → setR R k r j = R j := fun r j e => if_neg e
  have sRk : ∀ r : Rv, setR R k r k = r := fun r => if_pos rfl
  have sBk : setB D k k = true := if_pos rfl
  have later : ∀ i j, j < n → (D i = true ∧ i < n) → mf (F i) (F j) g = true → j ≠ k := fun i j hj hi hm e => by
    have h1 := mf_fr g (hF i) hg hm
    have h2 := h.ord k i hk hi.2 hDk hi.1
    rw [e] at h1
    omega
  have hT2 : T.1.length ≤ q ∧ 0 ≤ T.2 ∧ T.2 ≤ 1000000 * (T.1.length : Int) := by
    rcases hT.1 with e | ⟨j, hj, hs, e⟩
    · rw [e]; exact ⟨Nat.zero_le _, Int.le_refl _, by show (0 : Int) ≤ 1000000 * 0; decide⟩
    · have hd : D j = true := (Bool.and_eq_true_iff.1 (Bool.and_eq_true_iff.1 hs).1).1
      rw [e]; exact h.len j hj hd
  refine ⟨?_, ?_, ?_, ?_, ?_⟩
  · intro u d hu hd h1 h2
    have eu : u ≠ k := fun e => by rw [e, sBk] at h1; cases h1
    rw [sB u eu] at h1
    by_cases ed : d = k
    · rw [ed]; exact hmax u hu h1
    · rw [sB d ed] at h2
      exact h.ord u d hu hd h1 h2
  · intro i hi h1
    by_cases ei : i = k
    · subst ei
      refine ⟨T, hT.congr (fun r => ?_), sRk _⟩
      constructor
      · rintro (e | ⟨j, hj, hs, e⟩)
        · exact .inl e
        · have h2 := Bool.and_eq_true_iff.1 hs
          have ej : j ≠ i := of_decide_eq_true (Bool.and_eq_true_iff.1 h2.1).2
          exact .inr ⟨j, hj, h2.2, by rw [sR _ j ej]; exact e⟩
      · rintro (e | ⟨j, hj, hm, e⟩)
        · exact .inl e
        · have h3 := mf_fr g (hF i) hg hm
          have ej : j ≠ i := fun e2 => by rw [e2] at h3; omega
          have hd : D j = true := by
            cases e2 : D j with
            | true => rfl
            | false => have := hmax j hj e2; omega
          refine .inr ⟨j, hj, ?_, by rw [sR _ j ej] at e; exact e⟩
          show ((D j && decide (j ≠ i)) && mf (F i) (F j) g) = true
          rw [hd, hm, decide_eq_true ej]
          rfl
    · rw [sB i ei] at h1
      obtain ⟨T', k1, k2⟩ := h.rows i hi h1
      refine ⟨T', k1.congr (fun r => ?_), by rw [sR _ i ei]; exact k2⟩
      constructor
      · rintro (e | ⟨j, hj, hm, e⟩)
        · exact .inl e
        · exact .inr ⟨j, hj, hm, by rw [sR _ j (later i j hj ⟨h1, hi⟩ hm)]; exact e⟩
      · rintro (e | ⟨j, hj, hm, e⟩)
        · exact .inl e
        · exact .inr ⟨j, hj, hm, by rw [sR _ j (later i j hj ⟨h1, hi⟩ hm)] at e; exact e⟩
  · intro i hi h1
    by_cases ei : i = k
    · subst ei
      rw [sRk]
      have := hw i hi
      have l1 : ((i :: T.1, (F i).wo + T.2) : Rv).1.length = T.1.length + 1 := rfl
      have l2 : ((i :: T.1, (F i).wo + T.2) : Rv).2 = (F i).wo + T.2 := rfl
      rw [l1, l2]
      refine ⟨by omega, by omega, by omega⟩
    · rw [sB i ei] at h1
      rw [sR _ i ei]
      have := h.len i hi h1
      exact ⟨by omega, this.2⟩
  · rw [countP_set D k hDk, if_pos hk, h.cnt]
  · have hu : W.1.length ≠ ((k :: T.1, (F k).wo + T.2) : Rv).1.length ∨ hdP W ≠ hdP ((k :: T.1, (F k).wo + T.2) : Rv) := by
      rcases h.top.1 with e | ⟨j, hj, hs, e⟩
      · left
        rw [e]
        exact fun e2 => by cases e2
      · right
        rw [e, (h.hd hj hs).1]
        intro e2
        have e2 : j = k := e2
        rw [e2, hDk] at hs
        cases hs
    refine (Ky.add h.top hu).congr (fun r => ?_)
    constructor
    · rintro ((e | ⟨j, hj, h1, e⟩) | e)
      · exact .inl e
      · have ej : j ≠ k := fun e2 => by rw [e2, hDk] at h1; cases h1
        exact .inr ⟨j, hj, by rw [sB j ej]; exact h1, by rw [sR _ j ej]; exact e⟩
      · exact .inr ⟨k, hk, sBk, by rw [sRk]; exact e⟩
    · rintro (e | ⟨j, hj, h1, e⟩)
      · exact .inl (.inl e)
      · by_cases ej : j = k
        · rw [ej, sRk] at e
          exact .inr e
        · rw [sB j ej] at h1
          rw [sR _ j ej] at e
          exact .inl (.inr ⟨j, hj, h1, e⟩)
/-- THE DOCUMENT'S BEST IS CHOOSE'S -/
theorem DI.best {n : Nat} (hF : ∀ i, (F i).fr < (F i).to') (hg : 0 ≤ g) {D : Nat → Bool} {R : Nat → Rv} {W : Rv} (h : DI F g n n D R W) {O : List Nat} (hn : O.Nodup) (hm : ∀ p, p ∈ O ↔ p < n) (hp : O.Pairwise (fun a b => (F b).fr ≤ (F a).fr)) (hb : ∃ M : Int, ∀ i, i < n → (F i).fr ≤ M) : W = bestV F g O := by
  have h1 : RowsOf F g n R := fun i hi => h.rows i hi (h.all i hi)
  have h2 := rows_one F g hF hg h1 (rows_are F g hF hg hn hm hp) hb
  refine Ky.one (h.top.congr (fun r => ?_)) (best_is F g hn hm)
  constructor
  · rintro (e | ⟨j, hj, _, e⟩)
    · exact .inl e
    · exact .inr ⟨j, hj, by rw [← h2 j hj]; exact e⟩
  · rintro (e | ⟨j, hj, e⟩)
    · exact .inl e
    · exact .inr ⟨j, hj, h.all j hj, by rw [h2 j hj]; exact e⟩
end
end

section
/-- the latest of those below m that are not reckoned: -1 where there is none -/
def Lt (F : Nat → Pa) (D : Nat → Bool) (m : Nat) (z : Int) : Prop := (z = -1 ∧ ∀ u, u < m → D u = true) ∨ ∃ k : Nat, z = (k : Int) ∧ k < m ∧ D k = false ∧ ∀ u, u < m → D u = false → (F u).fr ≤ (F k).fr
theorem Lt.first (F : Nat → Pa) (D : Nat → Bool) : Lt F D 0 (-1) := .inl ⟨rfl, fun u h => absurd h (by omega)⟩
theorem Lt.done {F : Nat → Pa} {D : Nat → Bool} {m : Nat} {z : Int} (h : Lt F D m z) (hd : D m = true) : Lt F D (m + 1) z := by
  rcases h with ⟨h1, h2⟩ | ⟨k, h1, h2, h3, h4⟩
  · refine .inl ⟨h1, fun u hu => ?_⟩
    by_cases e : u = m
    · rw [e]; exact hd
    · exact h2 u (by omega)
  · refine .inr ⟨k, h1, by omega, h3, fun u hu hf => ?_⟩
    by_cases e : u = m
    · rw [e, hd] at hf; cases hf
    · exact h4 u (by omega) hf
theorem Lt.none {F : Nat → Pa} {D : Nat → Bool} {m : Nat} (h : Lt F D m (-1)) (hd : D m = false) : Lt F D (m + 1) (m : Int) := by
  rcases h with ⟨_, h2⟩ | ⟨k, h1, _⟩
  · refine .inr ⟨m, rfl, by omega, hd, fun u hu hf => ?_⟩
    by_cases e : u = m
    · rw [e]; exact Int.le_refl _
    · rw [h2 u (by omega)] at hf; cases hf
  · omega
theorem Lt.later {F : Nat → Pa} {D : Nat → Bool} {m k : Nat} (h : Lt F D m (k : Int)) (hd : D m = false) (hl : (F k).fr < (F m).fr) : Lt F D (m + 1) (m : Int) := by
  rcases h with ⟨h1, _⟩ | ⟨j, h1, h2, h3, h4⟩
  · omega
  · have e : k = j := by omega
    subst e
    refine .inr ⟨m, rfl, by omega, hd, fun u hu hf => ?_⟩
    by_cases e : u = m
    · rw [e]; exact Int.le_refl _
    · have := h4 u (by omega) hf
      omega
theorem Lt.stay {F : Nat → Pa} {D : Nat → Bool} {m k : Nat} (h : Lt F D m (k : Int)) (hl : ¬ (F k).fr < (F m).fr) : Lt F D (m + 1) (k : Int) := by
  rcases h with ⟨h1, _⟩ | ⟨j, h1, h2, h3, h4⟩
  · omega
  · have e : k = j := by omega
    subst e
    refine .inr ⟨k, rfl, by omega, h3, fun u hu hf => ?_⟩
    by_cases e : u = m
    · rw [e]; omega
    · exact h4 u (by omega) hf
/-- z is -1, or a place below m -/
theorem Lt.cases {F : Nat → Pa} {D : Nat → Bool} {m : Nat} {z : Int} (h : Lt F D m z) : z = -1 ∨ ∃ k : Nat, z = (k : Int) ∧ k < m ∧ D k = false := by
  rcases h with ⟨h1, _⟩ | ⟨k, h1, h2, h3, _⟩
  · exact .inl h1
  · exact .inr ⟨k, h1, h2, h3⟩
/-- where not all are reckoned there is one -/
theorem Lt.last {F : Nat → Pa} {g : Int} {n q : Nat} {D : Nat → Bool} {R : Nat → Rv} {W : Rv} {z : Int} (hD : DI F g n q D R W) (hq : q < n) (h : Lt F D n z) : ∃ k : Nat, z = (k : Int) ∧ k < n ∧ D k = false ∧ ∀ u, u < n → D u = false → (F u).fr ≤ (F k).fr := by
  rcases h with ⟨_, h2⟩ | h
  · obtain ⟨k, hk, hf⟩ := hD.more hq
    rw [h2 k hk] at hf
    cases hf
  · exact h
end

section
/-- a row's chain of nodes -/
def Nd (w : World) (lo : Nat) : List Nat → Int → Nat → Prop
  | [], wo, g => lo ≤ g ∧ wo = 0 ∧ BxS w g 49 #[.int .i64 0, .pointer none, .int .i64 0, .int .i64 0]
  | i :: L, wo, g => lo ≤ g ∧ ∃ g' wo', BxS w g 49 #[.int .i64 (i : Int), .pointer (some ⟨g', 0, none⟩), .int .i64 wo, .int .i64 ((L.length + 1 : Nat) : Int)] ∧ Nd w lo L wo' g'
theorem Nd.lo {w : World} {lo : Nat} {L : List Nat} {wo : Int} {g : Nat} (h : Nd w lo L wo g) : lo ≤ g := by
  cases L with
  | nil => exact h.1
  | cons i L => exact h.1
theorem Nd.box {w : World} {lo : Nat} {r : Rv} {g : Nat} (h : Nd w lo r.1 r.2 g) : ∃ p, p.oneCell' = true ∧ BxS w g 49 #[.int .i64 (hdP r : Int), p, .int .i64 r.2, .int .i64 (r.1.length : Int)] := by
  obtain ⟨L, wo⟩ := r
  cases L with
  | nil =>
    obtain ⟨_, e, b⟩ := h
    have e : wo = 0 := e
    subst e
    exact ⟨.pointer none, rfl, b⟩
  | cons i L =>
    obtain ⟨_, g', wo', b, _⟩ := h
    exact ⟨_, rfl, b⟩
theorem Nd.kR {w w' : World} {lo : Nat} {r : Option Nat} (hg : w.grownBy w' r) (hr : ∀ z, r = some z → ∃ t cs, BxS w z t cs ∧ 49 ≠ t) : ∀ (L : List Nat) (wo : Int) (g : Nat), Nd w lo L wo g → Nd w' lo L wo g := by
  have kb : ∀ {g : Nat} {A : Array Value}, BxS w g 49 A → BxS w' g 49 A := fun b => b.keep hg (fun e => by
    obtain ⟨t, cs, b2, ht⟩ := hr _ e.symm
    exact BxS.apart b b2 ht rfl)
  intro L
  induction L with
  | nil => intro wo g h; exact ⟨h.1, h.2.1, kb h.2.2⟩
  | cons i L ih =>
    intro wo g h
    obtain ⟨h1, g', wo', b, h2⟩ := h
    exact ⟨h1, g', wo', kb b, ih wo' g' h2⟩
theorem Nd.keep {w w' : World} {lo : Nat} {L : List Nat} {wo : Int} {g : Nat} (h : Nd w lo L wo g) (hg : w.grownBy w' none) : Nd w' lo L wo g := Nd.kR hg (fun z e => by cases e) L wo g h
/-- rows in memory: a slice of pointers -/
structure RsM (w : World) (lo : Nat) (a : Option Addr) (n c : Nat) (gs : List Nat) (Rs : List Rv) : Prop where
  o : AnsX 45 w lo a n c (gs.map fun g => Value.pointer (some ⟨g, 0, none⟩))
  len : Rs.length = gs.length
  nd : ∀ (k g : Nat) (r : Rv), gs[k]? = some g → Rs[k]? = some r → Nd w lo r.1 r.2 g
theorem RsM.keep {w w' : World} {lo : Nat} {a : Option Addr} {n c : Nat} {gs : List Nat} {Rs : List Rv} (h : RsM w lo a n c gs Rs) (hg : w.grownBy w' none) : RsM w' lo a n c gs Rs := ⟨h.o.keep hg, h.len, fun k g r h1 h2 => (h.nd k g r h1 h2).keep hg⟩
theorem RsM.nl {w : World} {lo : Nat} {a : Option Addr} {n c : Nat} {gs : List Nat} {Rs : List Rv} (h : RsM w lo a n c gs Rs) : Rs.length = n := by
  have := h.o.len
  rw [List.length_map] at this
  rw [h.len, this]
set_option maxHeartbeats 16000000 in
theorem better_any (a b : Rv) (g1 g2 : Nat) (p1 p2 : Value) (w : World) (b1 : BxS w g1 49 #[.int .i64 (hdP a : Int), p1, .int .i64 a.2, .int .i64 (a.1.length : Int)]) (b2 : BxS w g2 49 #[.int .i64 (hdP b : Int), p2, .int .i64 b.2, .int .i64 (b.1.length : Int)]) :
    Calls Try.prog 20 #[.pointer (some ⟨g1, 0, none⟩), .pointer (some ⟨g2, 0, none⟩)] w fun e w' => e = .returned (.bool (btB a b)) ∧ w.grownBy w' none := by
  go_enter Try.func20, Try.ntmps20
  refine wp_seq_k fun K0 hK0 => ?_
  have HK0 : Hid _ := hK0
  clear hK0
  go_wp2
  refine HK0.out _ _ ?_
  clear HK0
  refine wp_seq_k fun K1 hK1 => ?_
  have HK1 : Hid _ := hK1
  clear hK1
  have Gd := grown_drew w none
  have SS : BxS w.drew g1 49 #[.int .i64 (hdP a : Int), p1, .int .i64 a.2, .int .i64 (a.1.length : Int)] ∧ BxS w.drew g2 49 #[.int .i64 (hdP b : Int), p2, .int .i64 b.2, .int .i64 (b.1.length : Int)] := ⟨b1.keep Gd (by simp), b2.keep Gd (by simp)⟩
  refine wp_regionM (fun wz => BxS wz g1 49 #[.int .i64 (hdP a : Int), p1, .int .i64 a.2, .int .i64 (a.1.length : Int)] ∧ BxS wz g2 49 #[.int .i64 (hdP b : Int), p2, .int .i64 b.2, .int .i64 (b.1.length : Int)]) [] #[false, false, false, false, false, false, false, false, false, false, false, false, false, false, false, false, false, false, false, false, false, false, false, false, false, false, false, false, false, false, false] rfl (by kernel_rfl) ?_
  generalize w.drew = wd at *
  refine wpAnyY_take [] 0 (.pointer (some ⟨g2, 0, none⟩)) rfl (by kernel_rfl) (fun _ _ _ h => h) SS rfl (by rintro wz ⟨z1, z2⟩; go_simp) ?_
  try simp only [List.getElem_toArray, List.getElem_cons_succ, List.getElem_cons_zero, Act.put, List.setIfInBounds_toArray, List.set_cons_zero, List.set_cons_succ]
  refine wpAnyY_take [] 1 (.pointer (some ⟨g2, 0, none⟩)) rfl (by kernel_rfl) (fun _ _ _ h => h) SS rfl (by rintro wz ⟨z1, z2⟩; go_simp) ?_
  try simp only [List.getElem_toArray, List.getElem_cons_succ, List.getElem_cons_zero, Act.put, List.setIfInBounds_toArray, List.set_cons_zero, List.set_cons_succ]
  refine wpAnyY_take [] 2 (.pointer (some ⟨g2, 2, none⟩)) rfl (by kernel_rfl) (fun _ _ _ h => h) SS rfl (by rintro wz ⟨z1, z2⟩; go_simp) ?_
  try simp only [List.getElem_toArray, List.getElem_cons_succ, List.getElem_cons_zero, Act.put, List.setIfInBounds_toArray, List.set_cons_zero, List.set_cons_succ]
  refine wpAnyY_take [] 3 (.int .i64 b.2) rfl (by kernel_rfl) (fun _ _ _ h => h) SS rfl (by rintro wz ⟨z1, z2⟩; have z : wz.cell? ⟨g2, 2, none⟩ = some (.int .i64 b.2) := z2.cell 2 (by show 2 < 4; decide); go_simp) ?_
  try simp only [List.getElem_toArray, List.getElem_cons_succ, List.getElem_cons_zero, Act.put, List.setIfInBounds_toArray, List.set_cons_zero, List.set_cons_succ]
  refine wpAnyY_take [] 4 (.pointer (some ⟨g1, 0, none⟩)) rfl (by kernel_rfl) (fun _ _ _ h => h) SS rfl (by rintro wz ⟨z1, z2⟩; go_simp) ?_
  try simp only [List.getElem_toArray, List.getElem_cons_succ, List.getElem_cons_zero, Act.put, List.setIfInBounds_toArray, List.set_cons_zero, List.set_cons_succ]
  refine wpAnyY_take [] 5 (.pointer (some ⟨g1, 0, none⟩)) rfl (by kernel_rfl) (fun _ _ _ h => h) SS rfl (by rintro wz ⟨z1, z2⟩; go_simp) ?_
  try simp only [List.getElem_toArray, List.getElem_cons_succ, List.getElem_cons_zero, Act.put, List.setIfInBounds_toArray, List.set_cons_zero, List.set_cons_succ]
  refine wpAnyY_take [] 6 (.pointer (some ⟨g1, 2, none⟩)) rfl (by kernel_rfl) (fun _ _ _ h => h) SS rfl (by rintro wz ⟨z1, z2⟩; go_simp) ?_
  try simp only [List.getElem_toArray, List.getElem_cons_succ, List.getElem_cons_zero, Act.put, List.setIfInBounds_toArray, List.set_cons_zero, List.set_cons_succ]
  refine wpAnyY_take [] 7 (.int .i64 a.2) rfl (by kernel_rfl) (fun _ _ _ h => h) SS rfl (by rintro wz ⟨z1, z2⟩; have z : wz.cell? ⟨g1, 2, none⟩ = some (.int .i64 a.2) := z1.cell 2 (by show 2 < 4; decide); go_simp) ?_
  try simp only [List.getElem_toArray, List.getElem_cons_succ, List.getElem_cons_zero, Act.put, List.setIfInBounds_toArray, List.set_cons_zero, List.set_cons_succ]
  refine wpAnyY_take [] 9 (.pointer (some ⟨g1, 0, none⟩)) rfl (by kernel_rfl) (fun _ _ _ h => h) SS rfl (by rintro wz ⟨z1, z2⟩; go_simp) ?_
  try simp only [List.getElem_toArray, List.getElem_cons_succ, List.getElem_cons_zero, Act.put, List.setIfInBounds_toArray, List.set_cons_zero, List.set_cons_succ]
  refine wpAnyY_take [] 10 (.pointer (some ⟨g1, 0, none⟩)) rfl (by kernel_rfl) (fun _ _ _ h => h) SS rfl (by rintro wz ⟨z1, z2⟩; go_simp) ?_
  try simp only [List.getElem_toArray, List.getElem_cons_succ, List.getElem_cons_zero, Act.put, List.setIfInBounds_toArray, List.set_cons_zero, List.set_cons_succ]
  refine wpAnyY_take [] 11 (.pointer (some ⟨g1, 3, none⟩)) rfl (by kernel_rfl) (fun _ _ _ h => h) SS rfl (by rintro wz ⟨z1, z2⟩; go_simp) ?_
  try simp only [List.getElem_toArray, List.getElem_cons_succ, List.getElem_cons_zero, Act.put, List.setIfInBounds_toArray, List.set_cons_zero, List.set_cons_succ]
  refine wpAnyY_take [] 12 (.int .i64 (a.1.length : Int)) rfl (by kernel_rfl) (fun _ _ _ h => h) SS rfl (by rintro wz ⟨z1, z2⟩; have z : wz.cell? ⟨g1, 3, none⟩ = some (.int .i64 (a.1.length : Int)) := z1.cell 3 (by show 3 < 4; decide); go_simp) ?_
  try simp only [List.getElem_toArray, List.getElem_cons_succ, List.getElem_cons_zero, Act.put, List.setIfInBounds_toArray, List.set_cons_zero, List.set_cons_succ]
  refine wpAnyY_take [] 13 (.pointer (some ⟨g2, 0, none⟩)) rfl (by kernel_rfl) (fun _ _ _ h => h) SS rfl (by rintro wz ⟨z1, z2⟩; go_simp) ?_
  try simp only [List.getElem_toArray, List.getElem_cons_succ, List.getElem_cons_zero, Act.put, List.setIfInBounds_toArray, List.set_cons_zero, List.set_cons_succ]
  refine wpAnyY_take [] 14 (.pointer (some ⟨g2, 0, none⟩)) rfl (by kernel_rfl) (fun _ _ _ h => h) SS rfl (by rintro wz ⟨z1, z2⟩; go_simp) ?_
  try simp only [List.getElem_toArray, List.getElem_cons_succ, List.getElem_cons_zero, Act.put, List.setIfInBounds_toArray, List.set_cons_zero, List.set_cons_succ]
  refine wpAnyY_take [] 15 (.pointer (some ⟨g2, 3, none⟩)) rfl (by kernel_rfl) (fun _ _ _ h => h) SS rfl (by rintro wz ⟨z1, z2⟩; go_simp) ?_
  try simp only [List.getElem_toArray, List.getElem_cons_succ, List.getElem_cons_zero, Act.put, List.setIfInBounds_toArray, List.set_cons_zero, List.set_cons_succ]
  refine wpAnyY_take [] 16 (.int .i64 (b.1.length : Int)) rfl (by kernel_rfl) (fun _ _ _ h => h) SS rfl (by rintro wz ⟨z1, z2⟩; have z : wz.cell? ⟨g2, 3, none⟩ = some (.int .i64 (b.1.length : Int)) := z2.cell 3 (by show 3 < 4; decide); go_simp) ?_
  try simp only [List.getElem_toArray, List.getElem_cons_succ, List.getElem_cons_zero, Act.put, List.setIfInBounds_toArray, List.set_cons_zero, List.set_cons_succ]
  refine wpAnyY_take [] 18 (.pointer (some ⟨g1, 0, none⟩)) rfl (by kernel_rfl) (fun _ _ _ h => h) SS rfl (by rintro wz ⟨z1, z2⟩; go_simp) ?_
  try simp only [List.getElem_toArray, List.getElem_cons_succ, List.getElem_cons_zero, Act.put, List.setIfInBounds_toArray, List.set_cons_zero, List.set_cons_succ]
  refine wpAnyY_take [] 19 (.pointer (some ⟨g1, 0, none⟩)) rfl (by kernel_rfl) (fun _ _ _ h => h) SS rfl (by rintro wz ⟨z1, z2⟩; go_simp) ?_
  try simp only [List.getElem_toArray, List.getElem_cons_succ, List.getElem_cons_zero, Act.put, List.setIfInBounds_toArray, List.set_cons_zero, List.set_cons_succ]
  refine wpAnyY_take [] 20 (.pointer (some ⟨g1, 0, none⟩)) rfl (by kernel_rfl) (fun _ _ _ h => h) SS rfl (by rintro wz ⟨z1, z2⟩; go_simp) ?_
  try simp only [List.getElem_toArray, List.getElem_cons_succ, List.getElem_cons_zero, Act.put, List.setIfInBounds_toArray, List.set_cons_zero, List.set_cons_succ]
  refine wpAnyY_take [] 21 (.int .i64 (hdP a : Int)) rfl (by kernel_rfl) (fun _ _ _ h => h) SS rfl (by rintro wz ⟨z1, z2⟩; have z : wz.cell? ⟨g1, 0, none⟩ = some (.int .i64 (hdP a : Int)) := z1.cell 0 (by show 0 < 4; decide); go_simp) ?_
  try simp only [List.getElem_toArray, List.getElem_cons_succ, List.getElem_cons_zero, Act.put, List.setIfInBounds_toArray, List.set_cons_zero, List.set_cons_succ]
  refine wpAnyY_take [] 22 (.pointer (some ⟨g2, 0, none⟩)) rfl (by kernel_rfl) (fun _ _ _ h => h) SS rfl (by rintro wz ⟨z1, z2⟩; go_simp) ?_
  try simp only [List.getElem_toArray, List.getElem_cons_succ, List.getElem_cons_zero, Act.put, List.setIfInBounds_toArray, List.set_cons_zero, List.set_cons_succ]
  refine wpAnyY_take [] 23 (.pointer (some ⟨g2, 0, none⟩)) rfl (by kernel_rfl) (fun _ _ _ h => h) SS rfl (by rintro wz ⟨z1, z2⟩; go_simp) ?_
  try simp only [List.getElem_toArray, List.getElem_cons_succ, List.getElem_cons_zero, Act.put, List.setIfInBounds_toArray, List.set_cons_zero, List.set_cons_succ]
  refine wpAnyY_take [] 24 (.pointer (some ⟨g2, 0, none⟩)) rfl (by kernel_rfl) (fun _ _ _ h => h) SS rfl (by rintro wz ⟨z1, z2⟩; go_simp) ?_
  try simp only [List.getElem_toArray, List.getElem_cons_succ, List.getElem_cons_zero, Act.put, List.setIfInBounds_toArray, List.set_cons_zero, List.set_cons_succ]
  refine wpAnyY_take [] 25 (.int .i64 (hdP b : Int)) rfl (by kernel_rfl) (fun _ _ _ h => h) SS rfl (by rintro wz ⟨z1, z2⟩; have z : wz.cell? ⟨g2, 0, none⟩ = some (.int .i64 (hdP b : Int)) := z2.cell 0 (by show 0 < 4; decide); go_simp) ?_
  try simp only [List.getElem_toArray, List.getElem_cons_succ, List.getElem_cons_zero, Act.put, List.setIfInBounds_toArray, List.set_cons_zero, List.set_cons_succ]
  refine wpAnyY_oneB 8 rfl (by kernel_rfl) (fun KK hKK => ?_)
  go_simp
  go_at_call 27
  refine (compare_any _ _ _).mono ?_
  rintro e wx ⟨rfl, hwx⟩
  dsimp only
  rw [hwx]
  clear hwx
  refine hKK _ _ (fun h _ => h) ?_
  try simp only [List.getElem_toArray, List.getElem_cons_succ, List.getElem_cons_zero, Act.put, List.setIfInBounds_toArray, List.set_cons_zero, List.set_cons_succ]
  refine wpAnyY_oneB 17 rfl (by kernel_rfl) (fun KK hKK => ?_)
  go_simp
  go_at_call 27
  refine (compare_any _ _ _).mono ?_
  rintro e wx ⟨rfl, hwx⟩
  dsimp only
  rw [hwx]
  clear hwx
  refine hKK _ _ (fun h _ => h) ?_
  try simp only [List.getElem_toArray, List.getElem_cons_succ, List.getElem_cons_zero, Act.put, List.setIfInBounds_toArray, List.set_cons_zero, List.set_cons_succ]
  refine wpAnyY_oneB 26 rfl (by kernel_rfl) (fun KK hKK => ?_)
  go_simp
  go_at_call 27
  refine (compare_any _ _ _).mono ?_
  rintro e wx ⟨rfl, hwx⟩
  dsimp only
  rw [hwx]
  clear hwx
  refine hKK _ _ (fun h _ => h) ?_
  try simp only [List.getElem_toArray, List.getElem_cons_succ, List.getElem_cons_zero, Act.put, List.setIfInBounds_toArray, List.set_cons_zero, List.set_cons_succ]
  refine wpAnyY_oneB 27 rfl (by kernel_rfl) (fun KK hKK => ?_)
  go_simp
  have Ge := World.grownBy_alloc wd (.cells #[.int .i64 (cN b.2 a.2), .int .i64 (cN (a.1.length : Int) (b.1.length : Int)), .int .i64 (cN (hdP a : Int) (hdP b : Int))] 3) none
  have be := BxS.new wd 3 #[.int .i64 (btX a b 0), .int .i64 (btX a b 1), .int .i64 (btX a b 2)]
  have hce : ∀ j, j < 3 → (wd.alloc (.cells #[.int .i64 (cN b.2 a.2), .int .i64 (cN (a.1.length : Int) (b.1.length : Int)), .int .i64 (cN (hdP a : Int) (hdP b : Int))] 3)).cell? ⟨wd.heap.size, j, none⟩ = some (.int .i64 (btX a b j)) := fun j hj => by
    have : j = 0 ∨ j = 1 ∨ j = 2 := by omega
    rcases this with rfl | rfl | rfl
    · exact be.cell 0 (by show 0 < 3; decide)
    · exact be.cell 1 (by show 1 < 3; decide)
    · exact be.cell 2 (by show 2 < 3; decide)
  generalize wd.alloc (.cells #[.int .i64 (cN b.2 a.2), .int .i64 (cN (a.1.length : Int) (b.1.length : Int)), .int .i64 (cN (hdP a : Int) (hdP b : Int))] 3) = we at *
  refine hKK _ _ (fun h _ => ⟨h.1.keep Ge (by simp), h.2.keep Ge (by simp)⟩) ?_
  try simp only [List.getElem_toArray, List.getElem_cons_succ, List.getElem_cons_zero, Act.put, List.setIfInBounds_toArray, List.set_cons_zero, List.set_cons_succ]
  refine wpAnyY_oneB 28 rfl (by kernel_rfl) (fun KK hKK => ?_)
  go_simp
  go_at_call 26
  refine (or_any _ (btX a b) _ hce).mono ?_
  rintro e wx ⟨rfl, hwx⟩
  dsimp only
  rw [hwx]
  clear hwx
  refine hKK _ _ (fun h _ => h) ?_
  try simp only [List.getElem_toArray, List.getElem_cons_succ, List.getElem_cons_zero, Act.put, List.setIfInBounds_toArray, List.set_cons_zero, List.set_cons_succ]
  refine wpAnyY_takeF 29 (.bool (decide (orN (btX a b) < 0))) rfl (by kernel_rfl) (fun _ _ _ h => h) rfl (by intro wz; go_simp; try rfl) ?_
  try simp only [List.getElem_toArray, List.getElem_cons_succ, List.getElem_cons_zero, Act.put, List.setIfInBounds_toArray, List.set_cons_zero, List.set_cons_succ]
  refine wpAnyY_oneB 30 rfl (by kernel_rfl) (fun KK hKK => ?_)
  go_simp
  refine hKK _ _ (fun h _ => h) ?_
  try simp only [List.getElem_toArray, List.getElem_cons_succ, List.getElem_cons_zero, Act.put, List.setIfInBounds_toArray, List.set_cons_zero, List.set_cons_succ]
  refine wpAnyY_doneB (by kernel_rfl) ?_ _
  refine HK1.out _ _ ?_
  clear HK1
  go_wp2
  first | go_ret | skip
  exact ⟨rfl, grown_trans Gd Ge⟩
set_option maxHeartbeats 16000000 in
theorem may_any (w : World) (g2 g8 g3 : Nat) (la : Option Addr) (ln lc i : Nat) (F : Nat → Pa) (g : Int) (p : Pa) (b2 : BxS w g2 22 #[.slice la ln lc]) (hP : RdPa w la ln lc F) (b8 : BxS w g8 3 #[.int .i64 (i : Int)]) (b3 : BxS w g3 3 #[.int .i64 g]) (hi : i < ln) (hok : (F i).ok) (hg : 0 ≤ g ∧ g ≤ 1000) :
    Calls Try.prog 22 #[.agg p.arr, .pointer (some ⟨g2, 0, none⟩), .pointer (some ⟨g8, 0, none⟩), .pointer (some ⟨g3, 0, none⟩)] w fun e w' => e = .returned (.bool (mf (F i) p g)) ∧ w.grownBy w' none := by
  obtain ⟨lb, lf, rfl, hlb, hlr⟩ := hP.at' (by omega)
  have hri := hlr i hi
  have hil : (i : Int) < (ln : Int) := by omega
  have hmx := hP.max
  have hle := hP.le
  unfold maxLen at hmx
  clear hlr hP
  have b4 := BxS.new w 29 p.arr
  have G4 := World.grownBy_alloc w (.cells p.arr 29) none
  have hr4 := range_keep hri hlb G4
  have b24 := b2.keep G4 (by simp)
  have b84 := b8.keep G4 (by simp)
  have b34 := b3.keep G4 (by simp)
  go_enter Try.func22, Try.ntmps22
  refine wp_seq_k fun K0 hK0 => ?_
  have HK0 : Hid _ := hK0
  clear hK0
  go_wp2
  refine HK0.out _ _ ?_
  clear HK0
  generalize w.alloc (.cells p.arr 29) = w1 at *
  obtain ⟨g4, hg4⟩ : ∃ g, w.heap.size = g := ⟨_, rfl⟩
  rw [hg4] at b4 ⊢
  clear hg4
  have hlb1 := Nat.lt_of_lt_of_le hlb G4.size
  refine wp_seq_k fun K1 hK1 => ?_
  have HK1 : Hid _ := hK1
  clear hK1
  have Gd := grown_drew w1 none
  have SS : BxS w1.drew g2 22 #[.slice (some ⟨lb, lf, none⟩) ln lc] ∧ BxS w1.drew g8 3 #[.int .i64 (i : Int)] ∧ BxS w1.drew g3 3 #[.int .i64 g] ∧ BxS w1.drew g4 29 p.arr ∧ w1.drew.rangeAt lb (lf + i * 4) (F i).cells := ⟨b24.keep Gd (by simp), b84.keep Gd (by simp), b34.keep Gd (by simp), b4.keep Gd (by simp), range_keep hr4 hlb1 Gd⟩
  refine wp_regionM (fun wz => BxS wz g2 22 #[.slice (some ⟨lb, lf, none⟩) ln lc] ∧ BxS wz g8 3 #[.int .i64 (i : Int)] ∧ BxS wz g3 3 #[.int .i64 g] ∧ BxS wz g4 29 p.arr ∧ wz.rangeAt lb (lf + i * 4) (F i).cells) [] #[false, false, false, false, false, false, false, false] rfl (by kernel_rfl) ?_
  generalize w1.drew = wd at *
  refine wpAnyY_take [] 0 (.slice (some ⟨lb, lf, none⟩) ln lc) rfl (by kernel_rfl) (fun _ _ _ h => h) SS rfl (by rintro wz ⟨z1, z2, z3, z4, z5⟩; have z := z1.cell1; go_simp) ?_
  try simp only [List.getElem_toArray, List.getElem_cons_succ, List.getElem_cons_zero, Act.put, List.setIfInBounds_toArray, List.set_cons_zero, List.set_cons_succ]
  refine wpAnyY_take [] 1 (.int .i64 (i : Int)) rfl (by kernel_rfl) (fun _ _ _ h => h) SS rfl (by rintro wz ⟨z1, z2, z3, z4, z5⟩; have z := z2.cell1; go_simp) ?_
  try simp only [List.getElem_toArray, List.getElem_cons_succ, List.getElem_cons_zero, Act.put, List.setIfInBounds_toArray, List.set_cons_zero, List.set_cons_succ]
  refine wpAnyY_take [] 2 (.pointer (some ⟨lb, lf + i * 4, none⟩)) rfl (by kernel_rfl) (fun _ _ _ h => h) SS rfl (by rintro wz ⟨z1, z2, z3, z4, z5⟩; go_simp) ?_
  try simp only [List.getElem_toArray, List.getElem_cons_succ, List.getElem_cons_zero, Act.put, List.setIfInBounds_toArray, List.set_cons_zero, List.set_cons_succ]
  refine wpAnyY_take [] 3 (.agg #[.int .i64 (F i).st, .int .i64 (F i).fr, .int .i64 (F i).to', .int .i64 (F i).wo]) rfl (by kernel_rfl) (fun _ _ _ h => h) SS rfl (by rintro wz ⟨z1, z2, z3, z4, z5⟩; exact ldMR rfl rfl z5 Try.underlying29 rfl Try.info_pa) ?_
  try simp only [List.getElem_toArray, List.getElem_cons_succ, List.getElem_cons_zero, Act.put, List.setIfInBounds_toArray, List.set_cons_zero, List.set_cons_succ]
  refine wpAnyY_take [] 4 (.agg #[.int .i64 p.st, .int .i64 p.fr, .int .i64 p.to', .int .i64 p.wo]) rfl (by kernel_rfl) (fun _ _ _ h => h) SS rfl (by rintro wz ⟨z1, z2, z3, z4, z5⟩; exact ldMR rfl rfl (z4.rangeR 0 p.cells rfl) Try.underlying29 rfl Try.info_pa) ?_
  try simp only [List.getElem_toArray, List.getElem_cons_succ, List.getElem_cons_zero, Act.put, List.setIfInBounds_toArray, List.set_cons_zero, List.set_cons_succ]
  refine wpAnyY_take [] 5 (.int .i64 g) rfl (by kernel_rfl) (fun _ _ _ h => h) SS rfl (by rintro wz ⟨z1, z2, z3, z4, z5⟩; have z := z3.cell1; go_simp) ?_
  try simp only [List.getElem_toArray, List.getElem_cons_succ, List.getElem_cons_zero, Act.put, List.setIfInBounds_toArray, List.set_cons_zero, List.set_cons_succ]
  refine wpAnyY_oneB 6 rfl (by kernel_rfl) (fun KK hKK => ?_)
  go_simp
  go_at_call 23
  refine (mayFollow_any (F i) p g wd ⟨hok.to'.2, by have h1 := hok.to'.1; have h2 := hok.fr.1; omega⟩ hg).mono ?_
  rintro e w6 ⟨rfl, y6⟩
  dsimp only
  refine hKK _ _ (fun h _ => ⟨h.1.keep y6 (by simp), h.2.1.keep y6 (by simp), h.2.2.1.keep y6 (by simp), h.2.2.2.1.keep y6 (by simp), range_keep h.2.2.2.2 (Nat.lt_of_lt_of_le hlb1 Gd.size) y6⟩) ?_
  try simp only [List.getElem_toArray, List.getElem_cons_succ, List.getElem_cons_zero, Act.put, List.setIfInBounds_toArray, List.set_cons_zero, List.set_cons_succ]
  refine wpAnyY_oneB 7 rfl (by kernel_rfl) (fun KK hKK => ?_)
  go_simp
  refine hKK _ _ (fun h _ => h) ?_
  try simp only [List.getElem_toArray, List.getElem_cons_succ, List.getElem_cons_zero, Act.put, List.setIfInBounds_toArray, List.set_cons_zero, List.set_cons_succ]
  refine wpAnyY_doneB (by kernel_rfl) ?_ _
  refine HK1.out _ _ ?_
  clear HK1
  go_wp2
  first | go_ret | skip
  exact ⟨rfl, grown_trans G4 (grown_trans Gd y6)⟩
theorem mayT_any (w : World) (p : Pa) : Calls Try.prog 24 #[.agg p.arr] w fun e w' => e = .returned (.bool true) ∧ w.grownBy w' none := by
  have G4 := World.grownBy_alloc w (.cells p.arr 29) none
  go_enter Try.func24, Try.ntmps24
  go_wp2
  first | go_ret | skip
  exact ⟨rfl, G4⟩
end
end Go.Proofs.Ytpcejajijaphbaa
