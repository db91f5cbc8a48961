import Derived.Test.YtnimehkfnpepfaaWh41
import Derived.Test.YtnimehkfnpepfaaWh43
namespace Go.Proofs.Ytnimehkfnpepfaa
open Go.RowKit
set_option maxRecDepth 100000
set_option linter.unusedVariables false
set_option linter.unusedSimpArgs false

section
/-- a note comes to a taker -/
def taN (t : Tv) (n : Nt) : Tv × List Nt := heV t n.kd n.o n.nm n.si n.su n.at'.toNat n.da
theorem cvL_lt {G : List (Int × Int)} {n : Nat} (h : ∀ j, j < G.length → (giF G j).2 ≤ (n : Int)) {i : Nat} (hi : cvL G i = true) : i < n := by
  obtain ⟨a, ha, _, h2⟩ := cvL_yes hi
  obtain ⟨j, hj, e⟩ := List.getElem_of_mem ha
  have := h j hj
  rw [giF_at hj, e] at this
  omega
theorem kP_len {K : Kc} {x e : Nat} (h1 : x < e) (h2 : e ≤ K.X.length) : ((K.X.drop x).take (e - x)).length = e - x := by
  rw [List.length_take, List.length_drop]; omega
theorem nth_pie {X : List Nat} {x e i : Nat} (h1 : x ≤ i) (h2 : i < e) : nth ((X.drop x).take (e - x)) (i - x) = nth X i := by
  unfold nth
  rw [List.getD_eq_getElem?_getD, List.getElem?_take, if_pos (by omega), List.getElem?_drop, show x + (i - x) = i from by omega, ← List.getD_eq_getElem?_getD]
/-- A PIECE IS LAID -/
theorem ts_lay {K : Kc} {t : Tv} (hK : K.ok) (h : TS K t) (h0 : t.st = 0) {x e : Nat} (h1 : x < e) (h2 : e ≤ K.X.length) : TS K (heK t 2 ⟨#[]⟩ 0 0 x ((K.X.drop x).take (e - x))) ∧ ∀ i : Nat, cvL (heK t 2 ⟨#[]⟩ 0 0 x ((K.X.drop x).take (e - x))).G i = (cvL t.G i || decide (x ≤ i ∧ i < e)) := by
  have hl := kP_len h1 h2
  have hn9 := hK.n
  have hq := heK_q h.q (kd := 2) (si2 := 0) (su2 := 0) (at2 := (x : Int)) (o := 0) (x := x) (D := (K.X.drop x).take (e - x)) ⟨.inr (.inl rfl), fun k => by omega, rfl, fun _ => by rw [hl]; omega, fun _ => rfl⟩ ⟨#[]⟩
  have hD : ∀ i, x ≤ i → i < e → nth ((K.X.drop x).take (e - x)) (i - x) = nth K.X i := fun i a b => nth_pie a b
  generalize (K.X.drop x).take (e - x) = D at hl hq hD
  have hxe : x + D.length = e := by omega
  have hw := wi_rows (F := giF t.G) (x := (x : Int)) (y := ((x + D.length : Nat) : Int)) (m := t.G.length) h.q.ri (by omega) (by omega) (max t.L.length (x + D.length)) (fun k hk => by have := h.q.ge k hk; omega) (by omega)
  obtain ⟨_, w2, _, w4, w5⟩ := hw
  have hL := laL_len t.L D (giF t.G) t.G.length x
  have hcv : ∀ i : Nat, cvL (wiL (giF t.G) (x : Int) ((x + D.length : Nat) : Int) t.G.length) i = (cvL t.G i || decide (x ≤ i ∧ i < e)) := fun i => by
    rw [w5 i, cvB_list]
    congr 1
    rw [hxe]
    rw [decide_eq_decide]
    omega
  have hat : ∀ i, i < max t.L.length (x + D.length) → nth (laL t.L D (giF t.G) t.G.length x) i = if (cvL t.G i = false ∧ x ≤ i ∧ i < e) then nth K.X i else nth t.L i := fun i hi => by
    unfold laL
    rw [nth_map_range _ _ _ hi, cvB_list, hxe]
    by_cases c : cvL t.G i = false ∧ x ≤ i ∧ i < e
    · rw [if_pos c, if_pos c, hD i c.2.1 c.2.2]
    · rw [if_neg c, if_neg c]
  have hge := h.q.ge
  have hle := h.le
  unfold heK at hq ⊢
  rw [if_neg (by omega), if_pos rfl] at hq ⊢
  refine ⟨⟨h.id, h.pa, h.li, hq, ?_, h.kn, h.kf, h.en, h.ef, ?_, ?_, ?_, h.ti, h.tr, h.st, fun k => by have k : t.st = 3 := k; omega⟩, hcv⟩
  · show ((laL t.L D (giF t.G) t.G.length x).length : Int) = rcN (giF (wiL (giF t.G) (x : Int) ((x + D.length : Nat) : Int) t.G.length)) (wiL (giF t.G) (x : Int) ((x + D.length : Nat) : Int) t.G.length).length
    rw [hL]
    have hr := rise_rc w2.rise
    have hup : rcN (giF (wiL (giF t.G) (x : Int) ((x + D.length : Nat) : Int) t.G.length)) (wiL (giF t.G) (x : Int) ((x + D.length : Nat) : Int) t.G.length).length ≤ ((max t.L.length (x + D.length) : Nat) : Int) := by
      unfold rcN
      split
      · omega
      · rw [giF_at (by omega)]; exact w4 _ (List.getElem_mem _)
    have hz : cvL (wiL (giF t.G) (x : Int) ((x + D.length : Nat) : Int) t.G.length) (max t.L.length (x + D.length) - 1) = true := by
      rw [hcv]
      by_cases c : t.L.length ≤ e
      · rw [show max t.L.length (x + D.length) - 1 = e - 1 from by omega, decide_eq_true (by omega), Bool.or_true]
      · have hc : cvL t.G (t.L.length - 1) = true := by
          have hrc := h.rc
          unfold rcN at hrc
          split at hrc
          · omega
          · rename_i hne
            rw [giF_at (by omega)] at hrc
            have hri := h.q.ri (t.G.length - 1) (by omega)
            rw [giF_at (by omega)] at hri
            unfold cvL
            rw [List.any_eq_true]
            exact ⟨_, List.getElem_mem (show t.G.length - 1 < t.G.length by omega), decide_eq_true (by omega)⟩
        rw [show max t.L.length (x + D.length) - 1 = t.L.length - 1 from by omega, hc, Bool.true_or]
    have hlt : ((max t.L.length (x + D.length) - 1 : Nat) : Int) < rcN (giF (wiL (giF t.G) (x : Int) ((x + D.length : Nat) : Int) t.G.length)) (wiL (giF t.G) (x : Int) ((x + D.length : Nat) : Int) t.G.length).length := by
      obtain ⟨a, ha, _, hb⟩ := cvL_yes hz
      obtain ⟨j, hj, ej⟩ := List.getElem_of_mem ha
      have := hr.2 j hj
      rw [giF_at hj, ej] at this
      omega
    omega
  · show ∀ i : Nat, i < (laL t.L D (giF t.G) t.G.length x).length → cvL (wiL (giF t.G) (x : Int) ((x + D.length : Nat) : Int) t.G.length) i = true → nth (laL t.L D (giF t.G) t.G.length x) i = nth K.X i
    rw [hL]
    intro i hi hc
    rw [hat i hi]
    rw [hcv] at hc
    by_cases c : cvL t.G i = true
    · rw [if_neg (fun k => by rw [c] at k; cases k.1)]
      exact h.bt i (cvL_lt hge c) c
    · have c0 : cvL t.G i = false := by cases hh : cvL t.G i with
        | true => exact absurd hh c
        | false => rfl
      rw [c0, Bool.false_or, decide_eq_true_eq] at hc
      rw [if_pos ⟨c0, hc⟩]
  · show ∀ i : Nat, i < (laL t.L D (giF t.G) t.G.length x).length → cvL (wiL (giF t.G) (x : Int) ((x + D.length : Nat) : Int) t.G.length) i = false → nth (laL t.L D (giF t.G) t.G.length x) i = 0
    rw [hL]
    intro i hi hc
    rw [hat i hi]
    rw [hcv, Bool.or_eq_false_iff, decide_eq_false_iff_not] at hc
    rw [if_neg (fun k => hc.2 k.2)]
    by_cases c : i < t.L.length
    · exact h.ze i c hc.1
    · exact nth_out _ _ (by omega)
  · show (laL t.L D (giF t.G) t.G.length x).length ≤ K.X.length
    rw [hL]; omega
theorem TS.rst {K : Kc} {t : Tv} (h : TS K t) : TS K { t with ti := 0, tr := 0 } := by
  have := h.ti
  exact ⟨h.id, h.pa, h.li, ⟨h.q.ri, h.q.gl, h.q.ge, h.q.n9, h.q.si, h.q.la⟩, h.rc, h.kn, h.kf, h.en, h.ef, h.bt, h.ze, h.le, ⟨by show (0 : Int) ≤ 0; omega, by show (0 : Int) < t.pa; omega⟩, ⟨by show (0 : Int) ≤ 0; omega, by show (0 : Int) ≤ 100; omega⟩, h.st, h.ov⟩
theorem ts_hj {K : Kc} {t : Tv} (h : TS K t) (h0 : t.st = 0) (kd : Int) : TS K (juV t).1 ∧ OutT K (juV t).1 (seT 7 kd ++ (juV t).2 ++ gpT (juV t).1 kd) ∧ (seT 7 kd ++ (juV t).2 ++ gpT (juV t).1 kd).length ≤ 2 ∧
    (kd = 3 → (juV t).1.st = 0 → seT 7 kd ++ (juV t).2 ++ gpT (juV t).1 kd = [ntSeen 7] ++ sgL 7 (misL t.kn t.la t.G)) ∧ ((juV t).1.st = 3 → ntDone 7 0 ∈ seT 7 kd ++ (juV t).2 ++ gpT (juV t).1 kd) ∧ ((juV t).1.st = 0 → ¬ (t.kn = true ∧ t.en = true ∧ haB (giF t.G) t.si t.G.length = true)) := by
  obtain ⟨j1, j2, j3, j4, j5⟩ := ts_ju h h0
  obtain ⟨m1, m2⟩ := ts_mis h
  rw [h.id] at m1 m2
  have hs : OutT K (juV t).1 (seT 7 kd) ∧ (seT 7 kd).length ≤ 1 := by
    unfold seT
    by_cases e : kd = 3
    · rw [if_pos e]; exact ⟨OutT.one (.inl rfl) (fun k => by have : (6 : Int) = 5 := k; omega), Nat.le_refl _⟩
    · rw [if_neg e]; exact ⟨OutT.nil, Nat.zero_le _⟩
  rcases j1.st with e | e
  · obtain ⟨k1, k2⟩ := j4 e
    have hg : gpT (juV t).1 kd = if kd = 3 then sgL 7 (misL t.kn t.la t.G) else [] := by
      rw [k1]
      unfold gpT
      by_cases f : kd = 3
      · rw [if_pos ⟨h0, f⟩, if_pos f, h.id]
      · rw [if_neg (fun k => f k.2), if_neg f]
    have hj : (juV t).2 = [] := by rw [k1]
    have hgo : OutT K (juV t).1 (gpT (juV t).1 kd) ∧ (gpT (juV t).1 kd).length ≤ 1 := by
      rw [hg]
      by_cases f : kd = 3
      · rw [if_pos f]; exact ⟨fun n hn => ⟨(m2 n hn).1, fun k => absurd k (m2 n hn).2⟩, m1⟩
      · rw [if_neg f]; exact ⟨OutT.nil, Nat.zero_le _⟩
    refine ⟨j1, (hs.1.app j2).app hgo.1, ?_, ?_, fun k => by omega, fun _ => k2⟩
    · rw [hj, List.append_nil, List.length_append]; omega
    · intro f _
      rw [hj, List.append_nil, hg, if_pos f]
      unfold seT
      rw [if_pos f]
  · have hg : gpT (juV t).1 kd = [] := by
      unfold gpT
      exact if_neg (fun k => by omega)
    refine ⟨j1, (hs.1.app j2).app (by rw [hg]; exact OutT.nil), ?_, fun _ k => by omega, fun _ => ?_, fun k => by omega⟩
    · rw [hg, List.append_nil, List.length_append]; omega
    · rw [hg, List.append_nil, j5 e]
      exact List.mem_append_right _ (List.mem_singleton.2 rfl)
/-- which bytes a note brings -/
def brg (n : Nt) (i : Nat) : Bool := decide (n.kd = 2 ∧ n.at'.toNat ≤ i ∧ i < n.at'.toNat + n.da.length)
/-- what a note does to a taker -/
structure TA (K : Kc) (t : Tv) (n : Nt) (t' : Tv) (T : List Nt) : Prop where
  ts : TS K t'
  out : OutT K t' T
  len : T.length ≤ 2
  ov : t.st = 3 → t'.st = 3
  en : t'.en = (t.en || decide (n.kd = 3))
  kn : t'.kn = (t.kn || decide (n.kd = 1))
  cv : ∀ i, i < K.X.length → cvL t'.G i = (cvL t.G i || brg n i)
  z : t'.st = 0 → t'.ti = 0 ∧ t'.tr = 0
  e3 : n.kd = 3 → t'.st = 0 → T = [ntSeen 7] ++ sgL 7 (misL t'.kn t'.la t'.G)
  e4 : n.kd = 3 → t'.st = 3 → ntDone 7 0 ∈ T
  dn : t.st = 0 → t'.st = 3 → ntDone 7 0 ∈ T
  nj : t'.st = 0 → ¬ (t'.kn = true ∧ t'.en = true ∧ haB (giF t'.G) t'.si t'.G.length = true)
  sn : n.kd = 6 → t.st = 3 → T = []
  no : t'.en = false → T = []
  gp : ∀ m, m ∈ T → m.ga = [] ∨ m.ga = misL t'.kn t'.la t'.G
  q3 : t.st = 3 → n.kd ≠ 3 → T = []
theorem ta_of {K : Kc} {t t2 : Tv} {n : Nt} (h0 : t.st = 0) (h : TS K t2) (h2 : t2.st = 0) (hen : t2.en = (t.en || decide (n.kd = 3))) (hkn : t2.kn = (t.kn || decide (n.kd = 1))) (hcv : ∀ i, i < K.X.length → cvL t2.G i = (cvL t.G i || brg n i)) (hz : t2.ti = 0 ∧ t2.tr = 0) : TA K t n (juV t2).1 (seT 7 n.kd ++ (juV t2).2 ++ gpT (juV t2).1 n.kd) := by
  obtain ⟨a1, a2, a3, a4, a5, a6⟩ := ts_hj h h2 n.kd
  obtain ⟨s1, s2, s3, s4, s5, s6, s7, s8⟩ := ju_same t2
  have sen : (juV t2).1.en = t2.en ∧ (juV t2).1.si = t2.si := by
    unfold juV
    split
    · split
      · exact ⟨rfl, rfl⟩
      · exact ⟨rfl, rfl⟩
    · exact ⟨rfl, rfl⟩
  refine ⟨a1, a2, a3, fun k => by omega, by rw [sen.1]; exact hen, by rw [s2]; exact hkn, fun i hi => by rw [s4]; exact hcv i hi, fun _ => by rw [s7, s8]; exact hz, fun e k => ?_, fun _ k => a5 k, fun _ k => a5 k, fun k => ?_, fun _ k => by omega, fun k => ?_, fun m hm => ?_, fun k => by omega⟩
  · rw [s2, s3, s4]; exact a4 e k
  · rw [s2, s4, sen.1, sen.2]; exact a6 k
  · rw [sen.1] at k
    have k3 : n.kd ≠ 3 := fun e => by rw [hen, decide_eq_true e, Bool.or_true] at k; cases k
    have hju : (juV t2).2 = [] := by
      unfold juV
      rw [if_neg (fun q => by rw [k] at q; cases q.2.1)]
    have hse : seT 7 n.kd = [] := if_neg k3
    have hgp : gpT (juV t2).1 n.kd = [] := if_neg (fun q => k3 q.2)
    rw [hju, hse, hgp]
    rfl
  · rcases List.mem_append.1 hm with hm | hm
    · left
      rcases List.mem_append.1 hm with hm | hm
      · unfold seT at hm
        split at hm
        · rw [List.mem_singleton.1 hm]; rfl
        · cases hm
      · unfold juV at hm
        split at hm
        · split at hm
          · rw [List.mem_singleton.1 hm]; rfl
          · rw [List.mem_singleton.1 hm]; rfl
        · cases hm
    · right
      unfold gpT at hm
      split at hm
      · unfold sgL at hm
        split at hm
        · cases hm
        · rw [List.mem_singleton.1 hm]; rfl
      · cases hm
/-- A NOTE COMES TO A TAKER -/
theorem ts_ta {K : Kc} {t : Tv} (hK : K.ok) (h : TS K t) {n : Nt} (hn : DnK K n) : TA K t n (taN t n).1 (taN t n).2 := by
  have hb : ∀ i, n.kd ≠ 2 → brg n i = false := fun i k => decide_eq_false (fun q => k q.1)
  unfold taN heV
  rw [if_neg (by have := h.st; omega)]
  by_cases h3 : t.st = 3
  · rw [if_pos h3]
    obtain ⟨o1, o2, o3⟩ := h.ov h3
    have hc : ∀ i, i < K.X.length → cvL t.G i = true := fun i hi => (ha_cov h).1 o3 i (by rw [(h.kn o1).2]; omega)
    have hen : t.en = (t.en || decide (n.kd = 3)) := by rw [o2, Bool.true_or]
    have hkn : t.kn = (t.kn || decide (n.kd = 1)) := by rw [o1, Bool.true_or]
    have hcv : ∀ i, i < K.X.length → cvL t.G i = (cvL t.G i || brg n i) := fun i hi => by rw [hc i hi, Bool.true_or]
    by_cases e3 : n.kd = 3
    · rw [if_pos e3]
      refine ⟨h, ?_, Nat.le_refl _, id, hen, hkn, hcv, fun k => by have k : t.st = 0 := k; omega, fun _ k => by have k : t.st = 0 := k; omega, fun _ _ => by rw [h.id]; exact List.mem_cons_of_mem _ (List.mem_singleton.2 rfl), fun k => by omega, fun k => by have k : t.st = 0 := k; omega, fun k => by omega, (fun k => by have k : t.en = false := k; rw [o2] at k; cases k), fun m hm => .inl (by rcases List.mem_cons.1 hm with hm | hm; rw [hm]; rfl; rw [List.mem_singleton.1 hm]; rfl), fun _ k => absurd e3 k⟩
      show OutT K t ([ntSeen t.id] ++ [ntDone t.id 0])
      rw [h.id]
      exact (OutT.one (.inl rfl) (fun k => by have : (6 : Int) = 5 := k; omega)).app (OutT.one (.inr (.inl rfl)) (fun _ => h3))
    · rw [if_neg e3]
      by_cases e5 : n.o = 5
      · rw [if_pos e5]
        have hti := h.ti
        refine ⟨⟨h.id, h.pa, h.li, ⟨h.q.ri, h.q.gl, h.q.ge, h.q.n9, h.q.si, h.q.la⟩, h.rc, h.kn, h.kf, h.en, h.ef, h.bt, h.ze, h.le, ⟨by show (0 : Int) ≤ 0; omega, by show (0 : Int) < t.pa; omega⟩, ⟨by show (0 : Int) ≤ t.li; rw [h.li]; omega, by show t.li ≤ 100; rw [h.li]; omega⟩, h.st, h.ov⟩, OutT.nil, Nat.zero_le _, id, hen, hkn, hcv, fun k => by have k : t.st = 0 := k; omega, fun k => absurd k e3, fun k => absurd k e3, fun k => by omega, fun k => by have k : t.st = 0 := k; omega, fun _ _ => rfl, fun _ => rfl, (fun m hm => by cases hm), fun _ _ => rfl⟩
      · rw [if_neg e5]
        exact ⟨h, OutT.nil, Nat.zero_le _, id, hen, hkn, hcv, fun k => by have k : t.st = 0 := k; omega, fun k => absurd k e3, fun k => absurd k e3, fun k => by omega, fun k => by have k : t.st = 0 := k; omega, fun _ _ => rfl, fun _ => rfl, (fun m hm => by cases hm), fun _ _ => rfl⟩
  · rw [if_neg h3]
    have h0 : t.st = 0 := h.st.resolve_right h3
    have hr := h.rst
    unfold heG
    dsimp only
    have hr0 : ({ t with ti := 0, tr := 0 } : Tv).st = 0 := h0
    generalize ht1 : ({ t with ti := 0, tr := 0 } : Tv) = t1 at hr hr0 ⊢
    rw [h.id]
    have q1 : t1.en = t.en := by rw [← ht1]
    have q2 : t1.kn = t.kn := by rw [← ht1]
    have q3 : t1.G = t.G := by rw [← ht1]
    have q4 : t1.ti = 0 ∧ t1.tr = 0 := by rw [← ht1]; exact ⟨rfl, rfl⟩
    clear ht1
    rcases hn with e | e | e | ⟨x, y, x1, x2, e⟩
    · subst e
      refine ta_of (t2 := heK t1 (kM K).kd (kM K).nm (kM K).si (kM K).su (kM K).at'.toNat (kM K).da) h0 ?_ ?_ ?_ ?_ ?_ ?_
      all_goals (unfold heK; rw [if_pos (show (kM K).kd = 1 from rfl)]; by_cases f : t1.kn = true)
      · rw [if_pos f]; exact hr
      · rw [if_neg f]
        have f0 : t1.kn = false := by cases hh : t1.kn with
          | true => exact absurd hh f
          | false => rfl
        have hn9 := hK.n
        refine ⟨hr.id, hr.pa, hr.li, ⟨hr.q.ri, hr.q.gl, hr.q.ge, hr.q.n9, ⟨by show (0 : Int) ≤ (K.X.length : Int); omega, by show (K.X.length : Int) ≤ 65536; omega⟩, hr.q.la⟩, hr.rc, fun _ => ⟨rfl, rfl⟩, (fun k => by cases k), hr.en, hr.ef, hr.bt, hr.ze, hr.le, hr.ti, hr.tr, hr.st, fun k => by have k : t1.st = 3 := k; omega⟩
      · rw [if_pos f]; exact hr0
      · rw [if_neg f]; exact hr0
      · rw [if_pos f, decide_eq_false (kM_kd K), Bool.or_false]; exact q1
      · rw [if_neg f, decide_eq_false (kM_kd K), Bool.or_false]; exact q1
      · rw [if_pos f, ← q2, f, Bool.true_or]
      · rw [if_neg f, decide_eq_true (show (kM K).kd = 1 from rfl), Bool.or_true]
      · intro i _; rw [if_pos f, hb i (by show (1 : Int) ≠ 2; omega), Bool.or_false, q3]
      · intro i _; rw [if_neg f, hb i (by show (1 : Int) ≠ 2; omega), Bool.or_false]; show cvL t1.G i = _; rw [q3]
      · rw [if_pos f]; exact q4
      · rw [if_neg f]; exact q4
    · subst e
      have k1 : (kE K).kd ≠ 1 := by show (3 : Int) ≠ 1; omega
      have k2 : (kE K).kd ≠ 2 := by show (3 : Int) ≠ 2; omega
      refine ta_of (t2 := heK t1 (kE K).kd (kE K).nm (kE K).si (kE K).su (kE K).at'.toNat (kE K).da) h0 ?_ ?_ ?_ ?_ ?_ ?_
      all_goals (unfold heK; rw [if_neg k1, if_neg k2, if_pos (show (kE K).kd = 3 from rfl)]; by_cases f : t1.en = true)
      · rw [if_pos f]; exact hr
      · rw [if_neg f]
        have hn9 := hK.n
        refine ⟨hr.id, hr.pa, hr.li, ⟨hr.q.ri, hr.q.gl, hr.q.ge, hr.q.n9, hr.q.si, ⟨by show (0 : Int) ≤ (K.X.length : Int); omega, by show (K.X.length : Int) ≤ 65536; omega⟩⟩, hr.rc, hr.kn, hr.kf, fun _ => ⟨rfl, rfl⟩, (fun k => by cases k), hr.bt, hr.ze, hr.le, hr.ti, hr.tr, hr.st, fun k => by have k : t1.st = 3 := k; omega⟩
      · rw [if_pos f]; exact hr0
      · rw [if_neg f]; exact hr0
      · rw [if_pos f, ← q1, f, Bool.true_or]
      · rw [if_neg f, decide_eq_true (show (kE K).kd = 3 from rfl), Bool.or_true]
      · rw [if_pos f, decide_eq_false k1, Bool.or_false]; exact q2
      · rw [if_neg f, decide_eq_false k1, Bool.or_false]; exact q2
      · intro i _; rw [if_pos f, hb i k2, Bool.or_false, q3]
      · intro i _; rw [if_neg f, hb i k2, Bool.or_false]; show cvL t1.G i = _; rw [q3]
      · rw [if_pos f]; exact q4
      · rw [if_neg f]; exact q4
    · subst e
      have k1 : kS.kd ≠ 1 := by show (6 : Int) ≠ 1; omega
      have k2 : kS.kd ≠ 2 := by show (6 : Int) ≠ 2; omega
      have k3 : kS.kd ≠ 3 := by show (6 : Int) ≠ 3; omega
      refine ta_of (t2 := heK t1 kS.kd kS.nm kS.si kS.su kS.at'.toNat kS.da) h0 ?_ ?_ ?_ ?_ ?_ ?_
      all_goals (unfold heK; rw [if_neg k1, if_neg k2, if_neg k3])
      · exact hr
      · exact hr0
      · rw [decide_eq_false k3, Bool.or_false]; exact q1
      · rw [decide_eq_false k1, Bool.or_false]; exact q2
      · intro i _; rw [hb i k2, Bool.or_false, q3]
      · exact q4
    · subst e
      have k1 : (kP K x y).kd ≠ 1 := by show (2 : Int) ≠ 1; omega
      have k3 : (kP K x y).kd ≠ 3 := by show (2 : Int) ≠ 3; omega
      obtain ⟨l1, l2⟩ := ts_lay hK hr hr0 x1 x2
      have hx : (kP K x y).at'.toNat = x := Int.toNat_natCast x
      have hbr : ∀ i, brg (kP K x y) i = decide (x ≤ i ∧ i < y) := fun i => by
        unfold brg
        rw [hx, show (kP K x y).da.length = y - x from kP_len x1 x2, decide_eq_decide]
        constructor
        · intro k; omega
        · intro k; exact ⟨rfl, by omega⟩
      refine ta_of (t2 := heK t1 (kP K x y).kd (kP K x y).nm (kP K x y).si (kP K x y).su (kP K x y).at'.toNat (kP K x y).da) h0 ?_ ?_ ?_ ?_ ?_ ?_
      all_goals rw [hx]
      · exact l1
      · exact hr0
      · rw [decide_eq_false k3, Bool.or_false]; exact q1
      · rw [decide_eq_false k1, Bool.or_false]; exact q2
      · intro i _
        rw [hbr i, ← q3]
        exact l2 i
      · exact q4
end

section
/-- some of the notes on their way, in some order: which, whether it stays, whether it is lost -/
def coL (pk : Nat → Nat → Nat) (cp lo : Nat → Bool) : Nat → Nat → List Nt → List Nt → List Nt × List Nt
  | 0, i, W, A => (A, W)
  | k + 1, i, W, A => match W[pk i W.length]? with
    | none => (A, W)
    | some x => coL pk cp lo k (i + 1) (if cp i = true then W else W.eraseIdx (pk i W.length)) (if lo i = true then A else A ++ [x])
theorem co_in {pk : Nat → Nat → Nat} {cp lo : Nat → Bool} : ∀ (k i : Nat) (W A : List Nt), (∀ n, n ∈ (coL pk cp lo k i W A).1 → n ∈ A ∨ n ∈ W) ∧ (∀ n, n ∈ (coL pk cp lo k i W A).2 → n ∈ W) ∧ (coL pk cp lo k i W A).1.length ≤ A.length + k ∧ (coL pk cp lo k i W A).2.length ≤ W.length := by
  intro k
  induction k with
  | zero => intro i W A; exact ⟨fun n h => .inl h, fun n h => h, Nat.le_refl _, Nat.le_refl _⟩
  | succ k ih =>
    intro i W A
    unfold coL
    cases e : W[pk i W.length]? with
    | none => exact ⟨fun n h => .inl h, fun n h => h, by show A.length ≤ _; omega, Nat.le_refl _⟩
    | some x =>
      dsimp only
      have hx : x ∈ W := List.mem_of_getElem? e
      have hW : (∀ n, n ∈ (if cp i = true then W else W.eraseIdx (pk i W.length)) → n ∈ W) ∧ (if cp i = true then W else W.eraseIdx (pk i W.length)).length ≤ W.length := by
        split
        · exact ⟨fun n h => h, Nat.le_refl _⟩
        · refine ⟨fun n h => List.mem_of_mem_eraseIdx h, ?_⟩
          rw [List.length_eraseIdx]; split <;> omega
      have hA : (∀ n, n ∈ (if lo i = true then A else A ++ [x]) → n ∈ A ∨ n ∈ W) ∧ (if lo i = true then A else A ++ [x]).length ≤ A.length + 1 := by
        split
        · exact ⟨fun n h => .inl h, by omega⟩
        · refine ⟨fun n h => ?_, by rw [List.length_append]; exact Nat.le_refl _⟩
          rcases List.mem_append.1 h with h | h
          · exact .inl h
          · rw [List.mem_singleton.1 h]; exact .inr hx
      obtain ⟨r1, r2, r3, r4⟩ := ih (i + 1) (if cp i = true then W else W.eraseIdx (pk i W.length)) (if lo i = true then A else A ++ [x])
      refine ⟨fun n h => ?_, fun n h => hW.1 n (r2 n h), by omega, by omega⟩
      rcases r1 n h with h | h
      · exact hA.1 n h
      · exact .inr (hW.1 n h)
/-- when none is lost they come in their order -/
theorem co_quiet : ∀ (k i : Nat) (W A : List Nt), coL (fun _ _ => 0) (fun _ => false) (fun _ => false) k i W A = (A ++ W.take k, W.drop k) := by
  intro k
  induction k with
  | zero => intro i W A; rw [List.take_zero, List.append_nil]; rfl
  | succ k ih =>
    intro i W A
    unfold coL
    cases W with
    | nil => rw [List.take_nil, List.append_nil]; rfl
    | cons x W =>
      show coL _ _ _ k (i + 1) (if false = true then x :: W else (x :: W).eraseIdx 0) (if false = true then A else A ++ [x]) = _
      rw [if_neg (by decide), if_neg (by decide), List.eraseIdx_cons_zero, ih, List.take_succ_cons, List.drop_succ_cons, List.append_assoc]
      rfl
/-- notes come to a taker, one by one -/
def taF : Tv → List Nt → List Nt → Tv × List Nt
  | t, up, [] => (t, up)
  | t, up, n :: l => taF (taN t n).1 (up ++ (taN t n).2) l
/-- notes come to a giver -/
def reF : Gv → List Nt → List Nt → Gv × List Nt
  | g, dn, [] => (g, dn)
  | g, dn, n :: l => reF (reN g n).1 (dn ++ (reN g n).2) l
def UpS (K : Kc) (Q : Prop) (l : List Nt) : Prop := ∀ n, n ∈ l → UpK K n ∧ (n.kd = 5 → Q)
def DnS (K : Kc) (P Q : Prop) (l : List Nt) : Prop := ∀ n, n ∈ l → DnK K n ∧ (n.kd = 3 → P) ∧ (n.kd = 6 → Q)
theorem UpS.app {K : Kc} {Q : Prop} {l m : List Nt} (h : UpS K Q l) (k : UpS K Q m) : UpS K Q (l ++ m) := fun n hn => by
  rcases List.mem_append.1 hn with hn | hn
  · exact h n hn
  · exact k n hn
theorem DnS.app {K : Kc} {P Q : Prop} {l m : List Nt} (h : DnS K P Q l) (k : DnS K P Q m) : DnS K P Q (l ++ m) := fun n hn => by
  rcases List.mem_append.1 hn with hn | hn
  · exact h n hn
  · exact k n hn
theorem UpS.mono {K : Kc} {Q Q' : Prop} {l : List Nt} (h : UpS K Q l) (k : Q → Q') : UpS K Q' l := fun n hn => ⟨(h n hn).1, fun e => k ((h n hn).2 e)⟩
theorem DnS.mono {K : Kc} {P Q P' Q' : Prop} {l : List Nt} (h : DnS K P Q l) (k : P → P') (k2 : Q → Q') : DnS K P' Q' l := fun n hn => ⟨(h n hn).1, fun e => k ((h n hn).2.1 e), fun e => k2 ((h n hn).2.2 e)⟩
def Nj (t : Tv) : Prop := t.st = 0 → ¬ (t.kn = true ∧ t.en = true ∧ haB (giF t.G) t.si t.G.length = true)
theorem taF_ok {K : Kc} (hK : K.ok) {P : Prop} : ∀ (l : List Nt) (t : Tv) (up : List Nt), TS K t → Nj t → (t.en = true → P) → DnS K P (t.st = 3) l → UpS K (t.st = 3) up →
    TS K (taF t up l).1 ∧ Nj (taF t up l).1 ∧ ((taF t up l).1.en = true → P) ∧ UpS K ((taF t up l).1.st = 3) (taF t up l).2 ∧ (t.st = 3 → (taF t up l).1.st = 3) ∧ (taF t up l).2.length ≤ up.length + 2 * l.length ∧ ((taF t up l).1.st = 0 → (taF t up l).1.tr ≤ t.tr) := by
  intro l
  induction l with
  | nil => intro t up h hj hp _ hu; exact ⟨h, hj, hp, hu, id, Nat.le_refl _, fun _ => Int.le_refl _⟩
  | cons n l ih =>
    intro t up h hj hp hl hu
    obtain ⟨n1, n2, n3⟩ := hl n (List.mem_cons_self ..)
    have a := ts_ta hK h n1
    have ho : (taN t n).1.st = 3 ∨ (taN t n).1.st = 0 := by have := a.ts.st; omega
    obtain ⟨r1, r2, r3, r4, r5, r6, r7⟩ := ih (taN t n).1 (up ++ (taN t n).2) a.ts a.nj (fun e => by
      rw [a.en, Bool.or_eq_true, decide_eq_true_eq] at e
      rcases e with e | e
      · exact hp e
      · exact n2 e) (fun m hm => ⟨(hl m (List.mem_cons_of_mem _ hm)).1, (hl m (List.mem_cons_of_mem _ hm)).2.1, fun e => a.ov ((hl m (List.mem_cons_of_mem _ hm)).2.2 e)⟩) ((hu.mono a.ov).app a.out)
    have hlen := a.len
    rw [List.length_append] at r6
    have htr := h.tr
    refine ⟨r1, r2, r3, r4, fun e => r5 (a.ov e), by show (taF (taN t n).1 (up ++ (taN t n).2) l).2.length ≤ up.length + 2 * (l.length + 1); omega, fun e => ?_⟩
    have h1 := r7 e
    rcases ho with q | q
    · have e : (taF (taN t n).1 (up ++ (taN t n).2) l).1.st = 0 := e
      have := r5 q
      omega
    · have := (a.z q).2
      show (taF (taN t n).1 (up ++ (taN t n).2) l).1.tr ≤ t.tr
      omega
theorem reF_ok {K : Kc} {Q : Prop} : ∀ (l : List Nt) (g : Gv) (dn : List Nt), GS K g → (g.st = 3 → Q) → UpS K Q l → DnS K (g.st ≠ 0) Q dn →
    GS K (reF g dn l).1 ∧ ((reF g dn l).1.st = 3 → Q) ∧ DnS K ((reF g dn l).1.st ≠ 0) Q (reF g dn l).2 ∧ (g.st ≠ 0 → (reF g dn l).1.st ≠ 0) ∧ (reF g dn l).2.length ≤ dn.length + l.length ∧ (reF g dn l).1.tr ≤ g.tr := by
  intro l
  induction l with
  | nil => intro g dn h hp _ hu; exact ⟨h, hp, hu, id, Nat.le_refl _, Int.le_refl _⟩
  | cons n l ih =>
    intro g dn h hp hl hu
    obtain ⟨n1, n2⟩ := hl n (List.mem_cons_self ..)
    obtain ⟨a1, a2, a3, a4, a5, a6, a7, a8⟩ := gs_re h n1
    have hnew : DnS K ((reN g n).1.st ≠ 0) Q (reN g n).2 := fun m hm => by
      rw [a2 m hm]
      refine ⟨.inr (.inr (.inl rfl)), fun e => by have : (6 : Int) = 3 := e; omega, fun _ => ?_⟩
      by_cases e5 : n.kd = 5
      · exact n2 e5
      · rw [a8 e5] at hm; cases hm
    obtain ⟨r1, r2, r3, r4, r5, r6⟩ := ih (reN g n).1 (dn ++ (reN g n).2) a1 (fun e => by
      rcases a4 e with e | e
      · exact hp e
      · exact n2 (by rw [e]; rfl)) (fun m hm => hl m (List.mem_cons_of_mem _ hm)) ((hu.mono a5 id).app hnew)
    rw [List.length_append] at r5
    exact ⟨r1, r2, r3, fun e => r4 (a5 e), by show (reF (reN g n).1 (dn ++ (reN g n).2) l).2.length ≤ dn.length + (l.length + 1); omega, Int.le_trans r6 a6⟩
theorem sn_kd {K : Kc} {g : Gv} (h : GS K g) : ∀ n, n ∈ (snV g).2.1 → n.kd ≠ 6 := by
  unfold snV
  by_cases f : g.fi = true
  · rw [if_pos f]; intro n hn; rw [List.mem_singleton.1 hn]; show (1 : Int) ≠ 6; omega
  · rw [if_neg f]
    cases hG : g.G with
    | cons p G =>
      dsimp only
      unfold agD
      by_cases f1 : p.1 = 0 ∧ p.2 = 0
      · rw [if_pos f1]; intro n hn; rw [List.mem_singleton.1 hn]; show (1 : Int) ≠ 6; omega
      · rw [if_neg f1]; intro n hn; rw [List.mem_singleton.1 hn]; show (2 : Int) ≠ 6; omega
    | nil =>
      dsimp only
      by_cases f0 : g.st ≠ 0
      · rw [if_pos f0]; intro n hn; cases hn
      · rw [if_neg f0]
        by_cases f1 : g.at' < (g.L.length : Int)
        · rw [if_pos f1]; intro n hn; rw [List.mem_singleton.1 hn]; show (2 : Int) ≠ 6; omega
        · rw [if_neg f1]; intro n hn; rw [List.mem_singleton.1 hn]; show (3 : Int) ≠ 6; omega
theorem gv_kd {K : Kc} : ∀ (k : Nat) (g : Gv) (T : List Nt), GS K g → g.st ≠ 3 → (∀ n, n ∈ T → n.kd ≠ 6) → ∀ n, n ∈ (gvL k g T).2 → n.kd ≠ 6 := by
  intro k
  induction k with
  | zero => intro g T _ _ h; exact h
  | succ k ih =>
    intro g T h h3 hT
    have hT2 : ∀ n, n ∈ T ++ (snV g).2.1 → n.kd ≠ 6 := fun n hn => by
      rcases List.mem_append.1 hn with hn | hn
      · exact hT n hn
      · exact sn_kd h n hn
    obtain ⟨s1, _, _, s4, _⟩ := gs_sn h h3
    unfold gvL
    by_cases e : (snV g).2.2 = true
    · rw [if_pos e]; exact ih _ _ s1 s4 hT2
    · rw [if_neg e]; exact hT2
theorem ti_kd {K : Kc} {g : Gv} (h : GS K g) : ∀ n, n ∈ (tiG g).2 → n.kd ≠ 6 := by
  unfold tiG
  by_cases e : g.st = 3 ∨ g.st = 4
  · rw [if_pos e]; intro n hn; cases hn
  · rw [if_neg e]
    have hg := gv_kd g.bu.toNat g [] h (fun k => e (.inl k)) (fun n hn => by cases hn)
    by_cases e1 : g.st ≠ 0
    · rw [if_pos e1]
      intro n hn
      rcases List.mem_append.1 hn with hn | hn
      · exact hg n hn
      · unfold wtV at hn
        split at hn
        · cases hn
        · split at hn
          · cases hn
          · rw [List.mem_singleton.1 hn]; show (3 : Int) ≠ 6; omega
    · rw [if_neg e1]; exact hg
/-- both sides, and what is on its way -/
structure Cr where
  g : Gv
  t : Tv
  dn : List Nt
  up : List Nt
structure SC (K : Kc) (c : Cr) : Prop where
  g : GS K c.g
  t : TS K c.t
  nj : Nj c.t
  en : c.t.en = true → c.g.st ≠ 0
  ov : c.g.st = 3 → c.t.st = 3
  dn : DnS K (c.g.st ≠ 0) (c.t.st = 3) c.dn
  up : UpS K (c.t.st = 3) c.up
/-- what came over: the two rows that come, what is left of each -/
def crT (c : Cr) (cd cu : List Nt → List Nt × List Nt) : Cr :=
  let d := cd (c.dn ++ (tiG c.g).2)
  let T := taF (tiT c.t).1 (c.up ++ (tiT c.t).2) d.1
  let u := cu T.2
  let R := reF (tiG c.g).1 d.2 u.1
  ⟨R.1, T.1, R.2, u.2⟩
/-- EVERY TICK KEEPS IT -/
theorem sc_tick {K : Kc} (hK : K.ok) {c : Cr} (h : SC K c) (hg : c.g.tr < 100) (ht : c.t.st = 0 → c.t.tr < 100) {cd cu : List Nt → List Nt × List Nt} {nd nu : Nat}
    (hd : ∀ W, (∀ n, n ∈ (cd W).1 → n ∈ W) ∧ (∀ n, n ∈ (cd W).2 → n ∈ W) ∧ (cd W).1.length ≤ nd ∧ (cd W).2.length ≤ W.length) (hu : ∀ W, (∀ n, n ∈ (cu W).1 → n ∈ W) ∧ (∀ n, n ∈ (cu W).2 → n ∈ W) ∧ (cu W).1.length ≤ nu ∧ (cu W).2.length ≤ W.length) :
    SC K (crT c cd cu) ∧ (crT c cd cu).g.tr ≤ c.g.tr + 1 ∧ ((crT c cd cu).t.st = 0 → (crT c cd cu).t.tr ≤ c.t.tr + 1) ∧ (c.g.st ≠ 0 → (crT c cd cu).g.st ≠ 0) ∧ (c.t.st = 3 → (crT c cd cu).t.st = 3) ∧ (crT c cd cu).dn.length ≤ c.dn.length + 10 + nu ∧ (crT c cd cu).up.length ≤ c.up.length + 1 + 2 * nd := by
  obtain ⟨a1, a2, a3, a4, a5, a6⟩ := gs_ti h.g hg
  obtain ⟨b1, b2, b3, b4, b5, b6, b7, b8, b9⟩ := ts_ti h.t ht
  have hgs : c.g.st ≠ 0 → (tiG c.g).1.st ≠ 0 := fun e => by rw [a5 e]; exact e
  have hsi : (tiT c.t).1.si = c.t.si := by
    unfold tiT
    split
    · split
      · split <;> rfl
      · rfl
    · split
      · split <;> rfl
      · rfl
  have hD : DnS K ((tiG c.g).1.st ≠ 0) ((tiT c.t).1.st = 3) (c.dn ++ (tiG c.g).2) := by
    refine (h.dn.mono hgs (fun e => by rw [b3]; exact e)).app (fun n hn => ⟨(a2 n hn).1, (a2 n hn).2, fun e => ?_⟩)
    exact absurd e (ti_kd h.g n hn)
  have hU : UpS K ((tiT c.t).1.st = 3) (c.up ++ (tiT c.t).2) := (h.up.mono (fun e => by rw [b3]; exact e)).app b2
  obtain ⟨d1, d2, d3, d4⟩ := hd (c.dn ++ (tiG c.g).2)
  obtain ⟨r1, r2, r3, r4, r5, r6, r7⟩ := taF_ok hK (P := (tiG c.g).1.st ≠ 0) (cd (c.dn ++ (tiG c.g).2)).1 (tiT c.t).1 (c.up ++ (tiT c.t).2) b1 (fun e => by
      rw [b6, b7, b8, hsi]; exact h.nj (by rw [← b3]; exact e)) (fun e => hgs (h.en (by rw [← b7]; exact e))) (fun n hn => hD n (d1 n hn)) hU
  obtain ⟨u1, u2, u3, u4⟩ := hu (taF (tiT c.t).1 (c.up ++ (tiT c.t).2) (cd (c.dn ++ (tiG c.g).2)).1).2
  obtain ⟨s1, s2, s3, s4, s5, s6⟩ := reF_ok (Q := (taF (tiT c.t).1 (c.up ++ (tiT c.t).2) (cd (c.dn ++ (tiG c.g).2)).1).1.st = 3) (cu (taF (tiT c.t).1 (c.up ++ (tiT c.t).2) (cd (c.dn ++ (tiG c.g).2)).1).2).1 (tiG c.g).1 (cd (c.dn ++ (tiG c.g).2)).2 a1 (fun e => r5 (by rw [b3]; exact h.ov (a3.1 e))) (fun n hn => r4 n (u1 n hn)) (fun n hn => ⟨(hD n (d2 n hn)).1, (hD n (d2 n hn)).2.1, fun e => r5 ((hD n (d2 n hn)).2.2 e)⟩)
  have hbu := hK.bu
  have hgb := h.g.bu
  rw [List.length_append] at d4 r6
  refine ⟨⟨s1, r1, r2, fun e => s4 (r3 e), s2, s3, fun n hn => r4 n (u2 n hn)⟩, Int.le_trans s6 a4, fun e => ?_, fun e => s4 (hgs e), fun e => r5 (by rw [b3]; exact e), ?_, ?_⟩
  · have := r7 e
    exact Int.le_trans this b4
  · show (reF _ _ _).2.length ≤ _
    omega
  · show (cu _).2.length ≤ _
    omega
end

section
/-- the items of a file of N bytes: its bytes, and (as N) its Meta: does a span ask for one? -/
def itm (N : Nat) (p : Int × Int) (i : Nat) : Bool := if i < N then decide (p.1 ≤ (i : Int) ∧ (i : Int) < p.2) else decide (p.1 = 0 ∧ p.2 = 0)
/-- has it come? -/
def hv (N : Nat) (t : Tv) (i : Nat) : Bool := if i < N then cvL t.G i else t.kn
/-- does a note bring it? -/
def nb (N : Nat) (n : Nt) (i : Nat) : Bool := if i < N then brg n i else decide (n.kd = 1)
/-- how often it is asked for -/
def cn (N : Nat) (G : List (Int × Int)) (i : Nat) : Nat := G.countP (fun p => itm N p i)
theorem cn_cons (N : Nat) (p : Int × Int) (G : List (Int × Int)) (i : Nat) : cn N (p :: G) i = cn N G i + (if itm N p i = true then 1 else 0) := List.countP_cons
theorem cn_app (N : Nat) (G H : List (Int × Int)) (i : Nat) : cn N (G ++ H) i = cn N G i + cn N H i := List.countP_append
theorem cn_le (N : Nat) (G : List (Int × Int)) (i : Nat) : cn N G i ≤ G.length := List.countP_le_length
/-- how many of the notes bring it -/
def nbL (N : Nat) (T : List Nt) (i : Nat) : Nat := T.countP (fun n => nb N n i)
theorem nbL_app (N : Nat) (T U : List Nt) (i : Nat) : nbL N (T ++ U) i = nbL N T i + nbL N U i := List.countP_append
theorem nbL_one (N : Nat) (n : Nt) (i : Nat) : nbL N [n] i = if nb N n i = true then 1 else 0 := by
  unfold nbL
  rw [List.countP_singleton]
theorem nb_meta (K : Kc) (i : Nat) : nb K.X.length (kM K) i = decide (K.X.length ≤ i) := by
  unfold nb
  by_cases e : i < K.X.length
  · rw [if_pos e, decide_eq_false (by omega)]
    exact decide_eq_false (fun q => by have : (1 : Int) = 2 := q.1; omega)
  · rw [if_neg e, decide_eq_true (show (kM K).kd = 1 from rfl), decide_eq_true (by omega)]
theorem nb_pie (K : Kc) {x y : Nat} (h1 : x < y) (h2 : y ≤ K.X.length) (i : Nat) : nb K.X.length (kP K x y) i = decide (x ≤ i ∧ i < y) := by
  unfold nb
  by_cases e : i < K.X.length
  · rw [if_pos e]
    unfold brg
    rw [show (kP K x y).at'.toNat = x from Int.toNat_natCast x, show (kP K x y).da.length = y - x from kP_len h1 h2, decide_eq_decide]
    constructor
    · intro k; omega
    · intro k; exact ⟨rfl, by omega⟩
  · rw [if_neg e, decide_eq_false (fun q => by have : (2 : Int) = 1 := q; omega), decide_eq_false (by omega)]
/-- WHAT GOES ONCE MORE IS ASKED FOR ONCE LESS -/
theorem sn_cn {K : Kc} {g : Gv} (h : GS K g) (h0 : g.st ≠ 0) (i : Nat) : cn K.X.length (snV g).1.G i + nbL K.X.length (snV g).2.1 i = cn K.X.length g.G i := by
  have hf := (h.go h0).2
  unfold snV
  rw [if_neg (by rw [hf]; decide)]
  cases hG : g.G with
  | nil =>
    dsimp only
    rw [if_pos h0]
    show cn K.X.length g.G i + 0 = _
    rw [hG]; rfl
  | cons p G =>
    dsimp only
    have hp := h.o.gp p (by rw [hG]; exact List.mem_cons_self ..)
    rw [cn_cons]
    unfold agD
    by_cases e : p.1 = 0 ∧ p.2 = 0
    · rw [if_pos e]
      show cn K.X.length G i + nbL K.X.length [ntMeta g] i = _
      rw [h.meta, nbL_one, nb_meta]
      have : itm K.X.length p i = decide (K.X.length ≤ i) := by
        unfold itm
        by_cases f : i < K.X.length
        · rw [if_pos f, decide_eq_false (by omega), decide_eq_false (by omega)]
        · rw [if_neg f, decide_eq_true (by omega), decide_eq_true (by omega)]
      rw [this]
    · rw [if_neg e]
      have h4 : 0 ≤ p.1 ∧ p.1 < p.2 ∧ p.2 ≤ (g.L.length : Int) := hp.resolve_left e
      have he := enN_le g p.1.toNat p.2.toNat (by omega) h.o.mo.1
      have hL := h.L
      rw [hL] at h4
      generalize enN g p.1.toNat p.2.toNat = z at he
      show cn K.X.length (if z = p.2.toNat then G else ((z : Int), p.2) :: G) i + nbL K.X.length [ntPie g p.1.toNat z] i = _
      rw [h.pie, nbL_one, nb_pie K he.1 (by omega)]
      have e1 : (if itm K.X.length p i = true then (1 : Nat) else 0) = if (i < K.X.length ∧ p.1 ≤ (i : Int) ∧ (i : Int) < p.2) then 1 else 0 := by
        unfold itm
        by_cases f : i < K.X.length
        · rw [if_pos f]
          simp only [decide_eq_true_eq, f, true_and]
        · rw [if_neg f, decide_eq_false (by omega), if_neg (by decide), if_neg (fun k => f k.1)]
      have e2 : (if itm K.X.length ((z : Int), p.2) i = true then (1 : Nat) else 0) = if (i < K.X.length ∧ (z : Int) ≤ (i : Int) ∧ (i : Int) < p.2) then 1 else 0 := by
        unfold itm
        by_cases f : i < K.X.length
        · rw [if_pos f]
          simp only [decide_eq_true_eq, f, true_and]
        · rw [if_neg f, decide_eq_false (by show ¬ ((z : Int) = 0 ∧ p.2 = 0); omega), if_neg (by decide), if_neg (fun k => f k.1)]
      rw [e1]
      simp only [decide_eq_true_eq]
      by_cases f : z = p.2.toNat
      · rw [if_pos f]
        by_cases q : i < K.X.length ∧ p.1 ≤ (i : Int) ∧ (i : Int) < p.2
        · rw [if_pos q, if_pos (by omega)]
        · rw [if_neg q, if_neg (by omega)]
      · rw [if_neg f, cn_cons, e2]
        by_cases q : i < K.X.length ∧ p.1 ≤ (i : Int) ∧ (i : Int) < p.2
        · rw [if_pos q]
          by_cases r : p.1.toNat ≤ i ∧ i < z
          · rw [if_pos r, if_neg (by omega)]
          · rw [if_neg r, if_pos (by omega)]
        · rw [if_neg q, if_neg (by omega), if_neg (by omega)]
theorem gv_cn {K : Kc} : ∀ (k : Nat) (g : Gv) (T : List Nt), GS K g → g.st ≠ 3 → g.st ≠ 0 → ∀ i, cn K.X.length (gvL k g T).1.G i + nbL K.X.length (gvL k g T).2 i = cn K.X.length g.G i + nbL K.X.length T i := by
  intro k
  induction k with
  | zero => intro g T _ _ _ i; rfl
  | succ k ih =>
    intro g T h h3 h0 i
    obtain ⟨s1, s2, s3, s4, s5, s6⟩ := gs_sn h h3
    have hs := sn_cn h h0 i
    unfold gvL
    by_cases e : (snV g).2.2 = true
    · rw [if_pos e, ih _ _ s1 s4 (by rw [s3 h0]; exact h0) i, nbL_app]; omega
    · rw [if_neg e]
      show cn K.X.length (snV g).1.G i + nbL K.X.length (T ++ (snV g).2.1) i = _
      rw [nbL_app]; omega
theorem gv_mem : ∀ (k : Nat) (g : Gv) (T : List Nt) (n : Nt), n ∈ T → n ∈ (gvL k g T).2 := by
  intro k
  induction k with
  | zero => intro g T n h; exact h
  | succ k ih =>
    intro g T n h
    unfold gvL
    by_cases e : (snV g).2.2 = true
    · rw [if_pos e]; exact ih _ _ n (List.mem_append_left _ h)
    · rw [if_neg e]; exact List.mem_append_left _ h
/-- who has something to send once more sends something -/
theorem gv_some {K : Kc} {g : Gv} (h : GS K g) (h3 : g.st ≠ 3) (h0 : g.st ≠ 0) (hG : g.G ≠ []) {k : Nat} (hk : 1 ≤ k) : ∃ n i, n ∈ (gvL k g []).2 ∧ i ≤ K.X.length ∧ nb K.X.length n i = true := by
  obtain ⟨k, rfl⟩ : ∃ j, k = j + 1 := ⟨k - 1, by omega⟩
  have hf := (h.go h0).2
  have hone : (snV g).2.2 = true ∧ ∃ n i, n ∈ (snV g).2.1 ∧ i ≤ K.X.length ∧ nb K.X.length n i = true := by
    unfold snV
    rw [if_neg (by rw [hf]; decide)]
    cases hg : g.G with
    | nil => exact absurd hg hG
    | cons p G =>
      dsimp only
      refine ⟨rfl, ?_⟩
      have hp := h.o.gp p (by rw [hg]; exact List.mem_cons_self ..)
      unfold agD
      by_cases e : p.1 = 0 ∧ p.2 = 0
      · rw [if_pos e]
        refine ⟨ntMeta g, K.X.length, List.mem_singleton.2 rfl, Nat.le_refl _, ?_⟩
        rw [h.meta, nb_meta]
        exact decide_eq_true (Nat.le_refl _)
      · rw [if_neg e]
        have h4 : 0 ≤ p.1 ∧ p.1 < p.2 ∧ p.2 ≤ (g.L.length : Int) := hp.resolve_left e
        have he := enN_le g p.1.toNat p.2.toNat (by omega) h.o.mo.1
        rw [h.L] at h4
        refine ⟨ntPie g p.1.toNat (enN g p.1.toNat p.2.toNat), p.1.toNat, List.mem_singleton.2 rfl, by omega, ?_⟩
        rw [h.pie, nb_pie K he.1 (by omega)]
        exact decide_eq_true (by omega)
  obtain ⟨e, n, i, hn, hi, hb⟩ := hone
  refine ⟨n, i, ?_, hi, hb⟩
  unfold gvL
  rw [if_pos e]
  exact gv_mem k _ _ n (by rw [List.nil_append]; exact hn)
end

section
theorem TA.hv {K : Kc} {t t' : Tv} {n : Nt} {T : List Nt} (a : TA K t n t' T) (i : Nat) (hi : i ≤ K.X.length) : hv K.X.length t' i = (hv K.X.length t i || nb K.X.length n i) := by
  unfold Go.Proofs.Ytnimehkfnpepfaa.hv nb
  by_cases e : i < K.X.length
  · rw [if_pos e, if_pos e, if_pos e]; exact a.cv i e
  · rw [if_neg e, if_neg e, if_neg e]; exact a.kn
/-- WHAT IS TOLD AS MISSING IS MISSING -/
theorem mis_itm {K : Kc} {t : Tv} (h : TS K t) {p : Int × Int} (hp : p ∈ misL t.kn t.la t.G) {i : Nat} (hi : itm K.X.length p i = true) : hv K.X.length t i = false := by
  unfold misL at hp
  have hp := List.mem_of_mem_take hp
  unfold itm at hi
  unfold Go.Proofs.Ytnimehkfnpepfaa.hv
  rcases List.mem_append.1 hp with hp | hp
  · cases hk : t.kn with
    | true => rw [hk, if_pos rfl] at hp; cases hp
    | false =>
      rw [hk, if_neg (by decide)] at hp
      rw [List.mem_singleton.1 hp] at hi
      by_cases e : i < K.X.length
      · rw [if_pos e, decide_eq_true_eq] at hi
        have hi : (0 : Int) ≤ (i : Int) ∧ (i : Int) < 0 := hi
        omega
      · rw [if_neg e]
  · have hu := unF_in p hp
    by_cases e : i < K.X.length
    · rw [if_pos e, decide_eq_true_eq] at hi
      rw [if_pos e]
      have hc := unF_cov (F := giF t.G) (lo := 0) (hi := t.la) (m := t.G.length) h.q.ri i
      have h1 : cvL (uqF (giF t.G) 0 t.la t.G.length) i = true := by
        unfold cvL
        rw [List.any_eq_true]
        exact ⟨p, hp, decide_eq_true hi⟩
      rw [h1, cvB_list] at hc
      cases hh : cvL t.G i with
      | false => rfl
      | true => rw [hh, Bool.not_true, Bool.and_false] at hc; cases hc
    · rw [if_neg e, decide_eq_true_eq] at hi
      omega
/-- something is missing as long as it is not over -/
theorem mis_ne {K : Kc} {t : Tv} (h : TS K t) (hj : Nj t) (h0 : t.st = 0) (he : t.en = true) : misL t.kn t.la t.G ≠ [] := by
  unfold misL
  intro e
  rw [List.take_eq_nil_iff] at e
  have e := e.resolve_left (by decide)
  rw [List.append_eq_nil_iff] at e
  obtain ⟨e1, e2⟩ := e
  cases hk : t.kn with
  | false => rw [hk, if_neg (by decide)] at e1; cases e1
  | true =>
    refine hj h0 ⟨hk, he, ?_⟩
    rw [(h.en he).1, ← (h.kn hk).2] at e2
    unfold haB
    rw [e2]
    rfl
theorem gap_itm {N : Nat} {p : Int × Int} (h : (p.1 = 0 ∧ p.2 = 0) ∨ (0 ≤ p.1 ∧ p.1 < p.2 ∧ p.2 ≤ (N : Int))) : ∃ i, i ≤ N ∧ itm N p i = true := by
  rcases h with h | h
  · refine ⟨N, Nat.le_refl _, ?_⟩
    unfold itm
    rw [if_neg (by omega)]
    exact decide_eq_true h
  · refine ⟨p.1.toNat, by omega, ?_⟩
    unfold itm
    rw [if_pos (by omega)]
    exact decide_eq_true (by omega)
/-- a note asks only for what had not come -/
def Ask (K : Kc) (t : Tv) (n : Nt) : Prop := ∀ p, p ∈ n.ga → ∀ i, i ≤ K.X.length → itm K.X.length p i = true → hv K.X.length t i = false
theorem taF_hv {K : Kc} (hK : K.ok) {P : Prop} : ∀ (l : List Nt) (t : Tv) (up : List Nt), TS K t → DnS K P (t.st = 3) l → ∀ i, i ≤ K.X.length → hv K.X.length (taF t up l).1 i = (hv K.X.length t i || decide (0 < nbL K.X.length l i)) := by
  intro l
  induction l with
  | nil => intro t up h _ i _; show _ = (hv K.X.length t i || false); rw [Bool.or_false]; rfl
  | cons n l ih =>
    intro t up h hl i hi
    obtain ⟨n1, n2, n3⟩ := hl n (List.mem_cons_self ..)
    have a := ts_ta hK h n1
    have r1 := ih (taN t n).1 (up ++ (taN t n).2) a.ts (fun m hm => ⟨(hl m (List.mem_cons_of_mem _ hm)).1, (hl m (List.mem_cons_of_mem _ hm)).2.1, fun e => a.ov ((hl m (List.mem_cons_of_mem _ hm)).2.2 e)⟩) i hi
    show hv K.X.length (taF (taN t n).1 (up ++ (taN t n).2) l).1 i = _
    rw [r1, a.hv i hi, Bool.or_assoc]
    congr 1
    have : nbL K.X.length (n :: l) i = nbL K.X.length l i + (if nb K.X.length n i = true then 1 else 0) := List.countP_cons
    rw [this]
    cases hb : nb K.X.length n i with
    | true => rw [Bool.true_or, if_pos rfl, decide_eq_true (by omega)]
    | false => rw [Bool.false_or, if_neg (by decide), Nat.add_zero]
theorem taF_ask {K : Kc} (hK : K.ok) {P : Prop} : ∀ (l : List Nt) (t : Tv) (up : List Nt), TS K t → DnS K P (t.st = 3) l → ∀ (t0 : Tv), (∀ i, i ≤ K.X.length → hv K.X.length t i = false → hv K.X.length t0 i = false) → (∀ n, n ∈ up → Ask K t0 n) → ∀ n, n ∈ (taF t up l).2 → Ask K t0 n := by
  intro l
  induction l with
  | nil => intro t up h _ t0 _ hu; exact hu
  | cons n l ih =>
    intro t up h hl t0 h0 hu
    obtain ⟨n1, n2, n3⟩ := hl n (List.mem_cons_self ..)
    have a := ts_ta hK h n1
    have h1 : ∀ i, i ≤ K.X.length → hv K.X.length (taN t n).1 i = false → hv K.X.length t0 i = false := fun i hi e => by
      rw [a.hv i hi] at e
      exact h0 i hi (Bool.or_eq_false_iff.1 e).1
    refine ih (taN t n).1 (up ++ (taN t n).2) a.ts (fun m hm => ⟨(hl m (List.mem_cons_of_mem _ hm)).1, (hl m (List.mem_cons_of_mem _ hm)).2.1, fun e => a.ov ((hl m (List.mem_cons_of_mem _ hm)).2.2 e)⟩) t0 h1 (fun q hq => ?_)
    rcases List.mem_append.1 hq with hq | hq
    · exact hu q hq
    · intro p hp i hi hit
      rcases a.gp q hq with e | e
      · rw [e] at hp; cases hp
      · rw [e] at hp; exact h1 i hi (mis_itm a.ts hp hit)
theorem ti_ask {K : Kc} {t : Tv} (h : TS K t) : ∀ n, n ∈ (tiT t).2 → Ask K t n := by
  intro n hn p hp i hi hit
  have hg : ∀ m, m ∈ sgL t.id (misL t.kn t.la t.G) → m.ga = misL t.kn t.la t.G := fun m hm => by
    unfold sgL at hm
    split at hm
    · cases hm
    · rw [List.mem_singleton.1 hm]; rfl
  unfold tiT at hn
  split at hn
  · split at hn
    · split at hn
      · cases hn
      · rw [hg n hn] at hp; exact mis_itm h hp hit
    · cases hn
  · split at hn
    · split at hn
      · rw [List.mem_singleton.1 hn] at hp; cases hp
      · cases hn
    · cases hn
/-- a Done ends it -/
theorem reF_done {K : Kc} : ∀ (l : List Nt) (g : Gv) (dn : List Nt), GS K g → (∀ n, n ∈ l → UpK K n) → (g.st = 3 ∨ ntDone 7 0 ∈ l) → (reF g dn l).1.st = 3 := by
  intro l
  induction l with
  | nil =>
    intro g dn _ _ e
    rcases e with e | e
    · exact e
    · cases e
  | cons n l ih =>
    intro g dn h hl e
    have hn := hl n (List.mem_cons_self ..)
    obtain ⟨a1, a2, a3, a4, a5, a6, a7, a8⟩ := gs_re h hn
    refine ih (reN g n).1 (dn ++ (reN g n).2) a1 (fun m hm => hl m (List.mem_cons_of_mem _ hm)) ?_
    by_cases e3 : g.st = 3
    · left; rw [(re_over e3 n hn.kd.1).1]; exact e3
    · have e := e.resolve_left e3
      rcases List.mem_cons.1 e with e | e
      · left
        rw [← e, (re_done e3 (by have := h.st; omega)).1]
      · exact .inr e
/-- without one what is asked for is kept, as long as there is room -/
theorem reF_keep {K : Kc} : ∀ (l : List Nt) (g : Gv) (dn : List Nt), GS K g → (∀ n, n ∈ l → UpK K n) → g.st ≠ 3 → (∀ n, n ∈ l → n.kd ≠ 5) →
    ∃ A, (reF g dn l).1.G = g.G ++ A ∧ (∀ p, p ∈ A → ∃ n, n ∈ l ∧ p ∈ n.ga) ∧ (reF g dn l).1.st ≠ 3 ∧ (reF g dn l).2 = dn ∧ (l ≠ [] → (reF g dn l).1.ti = 0 ∧ (reF g dn l).1.tr = 0) ∧ ((∃ n, n ∈ l ∧ n.ga ≠ []) → (reF g dn l).1.G ≠ []) := by
  intro l
  induction l with
  | nil => intro g dn h _ h3 _; exact ⟨[], (List.append_nil _).symm, (fun p hp => by cases hp), h3, rfl, fun k => absurd rfl k, fun ⟨n, hn, _⟩ => by cases hn⟩
  | cons n l ih =>
    intro g dn h hl h3 h5
    have hn := hl n (List.mem_cons_self ..)
    have hk := h5 n (List.mem_cons_self ..)
    obtain ⟨a1, a2, a3, a4, a5, a6, a7, a8⟩ := gs_re h hn
    have h4 : g.st ≠ 4 := by have := h.st; omega
    have hst : (reN g n).1.st ≠ 3 := fun e => by
      rcases a4 e with e | e
      · exact h3 e
      · exact hk (by rw [e]; rfl)
    have hz : (reN g n).1.ti = 0 ∧ (reN g n).1.tr = 0 ∧ ∃ B, (reN g n).1.G = g.G ++ B ∧ (∀ p, p ∈ B → p ∈ n.ga) ∧ (n.ga ≠ [] → (reN g n).1.G ≠ []) := by
      rcases hn with e | e | ⟨M, e, m1, m2, m3⟩
      · subst e
        rw [(re_seen h3 h4).1]
        exact ⟨rfl, rfl, [], (List.append_nil _).symm, (fun p hp => by cases hp), fun k => absurd rfl k⟩
      · subst e; exact absurd rfl hk
      · subst e
        rw [(re_gaps h3 h4 M).1]
        have hA := agN_ok (n := g.L.length) (M := M) (by rw [h.L]; exact m3) h.o.gl h.o.gp M.length (Nat.le_refl _)
        refine ⟨rfl, rfl, M.take (min M.length (1000 - g.G.length)), hA, fun p hp => List.mem_of_mem_take hp, fun _ => ?_⟩
        show agN g.L.length g.G (giF M) M.length ≠ []
        rw [hA]
        intro e
        have := congrArg List.length e
        rw [List.length_append, List.length_take] at this
        have := h.o.gl
        have : ([] : List (Int × Int)).length = 0 := rfl
        omega
    obtain ⟨z1, z2, B, z3, z4, z5⟩ := hz
    obtain ⟨A, r1, r2, r3, r4, r5, r6⟩ := ih (reN g n).1 (dn ++ (reN g n).2) a1 (fun m hm => hl m (List.mem_cons_of_mem _ hm)) hst (fun m hm => h5 m (List.mem_cons_of_mem _ hm))
    have hdn : dn ++ (reN g n).2 = dn := by rw [a8 hk, List.append_nil]
    refine ⟨B ++ A, ?_, fun p hp => ?_, r3, by show (reF (reN g n).1 (dn ++ (reN g n).2) l).2 = dn; rw [r4, hdn], fun _ => ?_, fun ⟨m, hm, hg⟩ => ?_⟩
    · show (reF (reN g n).1 (dn ++ (reN g n).2) l).1.G = _
      rw [r1, z3, List.append_assoc]
    · rcases List.mem_append.1 hp with hp | hp
      · exact ⟨n, List.mem_cons_self .., z4 p hp⟩
      · obtain ⟨m, hm, hp⟩ := r2 p hp
        exact ⟨m, List.mem_cons_of_mem _ hm, hp⟩
    · show (reF (reN g n).1 (dn ++ (reN g n).2) l).1.ti = 0 ∧ (reF (reN g n).1 (dn ++ (reN g n).2) l).1.tr = 0
      cases l with
      | nil => exact ⟨z1, z2⟩
      | cons m l => exact r5 (fun e => by cases e)
    · show (reF (reN g n).1 (dn ++ (reN g n).2) l).1.G ≠ []
      rcases List.mem_cons.1 hm with hm | hm
      · rw [hm] at hg
        rw [r1]
        intro e
        exact z5 hg (List.append_eq_nil_iff.1 e).1
      · exact r6 ⟨m, hm, hg⟩
end

section
/-- what an item weighs -/
def fI (ms : Bool) (k : Nat) : Nat := if ms = true then (if k = 0 then 1011 else 1001) else k
def sF (f : Nat → Nat) : Nat → Nat
  | 0 => 0
  | k + 1 => sF f k + f k
theorem sF_le {f g : Nat → Nat} : ∀ m, (∀ i, i < m → f i ≤ g i) → sF f m ≤ sF g m := by
  intro m
  induction m with
  | zero => intro _; exact Nat.le_refl _
  | succ m ih => intro h; have h1 := ih (fun i hi => h i (by omega)); have h2 := h m (by omega); show sF f m + f m ≤ sF g m + g m; omega
theorem sF_lt {f g : Nat → Nat} {d j : Nat} (hd : f j + d ≤ g j) : ∀ m, (∀ i, i < m → f i ≤ g i) → j < m → sF f m + d ≤ sF g m := by
  intro m
  induction m with
  | zero => intro _ h; omega
  | succ m ih =>
    intro h hj
    show sF f m + f m + d ≤ sF g m + g m
    by_cases e : j = m
    · subst e
      have := sF_le j (fun i hi => h i (by omega))
      omega
    · have := ih (fun i hi => h i (by omega)) (by omega)
      have := h m (by omega)
      omega
theorem sF_max {f : Nat → Nat} {B : Nat} : ∀ m, (∀ i, i < m → f i ≤ B) → sF f m ≤ m * B := by
  intro m
  induction m with
  | zero => intro _; exact Nat.zero_le _
  | succ m ih => intro h; have h1 := ih (fun i hi => h i (by omega)); have h2 := h m (by omega); show sF f m + f m ≤ (m + 1) * B; rw [Nat.succ_mul]; omega
theorem it_step {a a' : Bool} {c0 c1 c2 ca nb : Nat} (h1 : c1 + nb = c0) (h2 : c2 = c1 + ca) (h3 : a' = (a || decide (0 < nb))) (h4 : a = true → ca = 0) (h5 : c2 ≤ 1000) :
    fI (!a') c2 ≤ fI (!a) c0 ∧ (0 < nb → fI (!a') c2 + 1 ≤ fI (!a) c0) ∧ (nb = 0 → c0 = 0 → 0 < ca → fI (!a') c2 + 10 ≤ fI (!a) c0) := by
  cases a with
  | true =>
    have h4 := h4 rfl
    rw [Bool.true_or] at h3
    subst h3
    unfold fI
    rw [if_neg (by decide), if_neg (by decide)]
    omega
  | false =>
    rw [Bool.false_or] at h3
    unfold fI
    rw [if_pos (show (!false) = true from rfl)]
    by_cases e : 0 < nb
    · rw [decide_eq_true e] at h3
      subst h3
      rw [if_neg (by decide)]
      by_cases k : c0 = 0
      · rw [if_pos k]; omega
      · rw [if_neg k]; omega
    · rw [decide_eq_false e] at h3
      subst h3
      rw [if_pos (show (!false) = true from rfl)]
      by_cases k : c0 = 0
      · rw [if_pos k]
        by_cases k2 : c2 = 0
        · rw [if_pos k2]; omega
        · rw [if_neg k2]; omega
      · rw [if_neg k, if_neg (by omega)]; omega
def muS (K : Kc) (c : Cr) : Nat := sF (fun i => fI (!hv K.X.length c.t i) (cn K.X.length c.g.G i)) (K.X.length + 1)
def tau (g : Gv) : Nat := if g.G = [] then (g.pa - g.ti).toNat else g.pa.toNat
/-- how far it is to the end, at most -/
def mu (K : Kc) (c : Cr) : Nat := muS K c + tau c.g
theorem nb_end (K : Kc) (i : Nat) : nbL K.X.length [kE K] i = 0 := by
  rw [nbL_one, if_neg]
  unfold nb
  split
  · unfold brg
    rw [decide_eq_false (fun q => by have : (3 : Int) = 2 := q.1; omega)]; decide
  · rw [decide_eq_false (fun q => by have : (3 : Int) = 1 := q; omega)]; decide
theorem sn_nend {K : Kc} {g : Gv} (h : GS K g) (h0 : g.st ≠ 0) : ∀ n, n ∈ (snV g).2.1 → n.kd ≠ 3 := by
  unfold snV
  by_cases f : g.fi = true
  · rw [if_pos f]; intro n hn; rw [List.mem_singleton.1 hn]; show (1 : Int) ≠ 3; omega
  · rw [if_neg f]
    cases hG : g.G with
    | cons p G =>
      dsimp only
      unfold agD
      by_cases f1 : p.1 = 0 ∧ p.2 = 0
      · rw [if_pos f1]; intro n hn; rw [List.mem_singleton.1 hn]; show (1 : Int) ≠ 3; omega
      · rw [if_neg f1]; intro n hn; rw [List.mem_singleton.1 hn]; show (2 : Int) ≠ 3; omega
    | nil =>
      dsimp only
      rw [if_pos h0]; intro n hn; cases hn
theorem gv_nend {K : Kc} : ∀ (k : Nat) (g : Gv) (T : List Nt), GS K g → g.st ≠ 3 → g.st ≠ 0 → (∀ n, n ∈ T → n.kd ≠ 3) → ∀ n, n ∈ (gvL k g T).2 → n.kd ≠ 3 := by
  intro k
  induction k with
  | zero => intro g T _ _ _ h; exact h
  | succ k ih =>
    intro g T h h3 h0 hT
    have hT2 : ∀ n, n ∈ T ++ (snV g).2.1 → n.kd ≠ 3 := fun n hn => by
      rcases List.mem_append.1 hn with hn | hn
      · exact hT n hn
      · exact sn_nend h h0 n hn
    obtain ⟨s1, _, s3, s4, _⟩ := gs_sn h h3
    unfold gvL
    by_cases e : (snV g).2.2 = true
    · rw [if_pos e]; exact ih _ _ s1 s4 (by rw [s3 h0]; exact h0) hT2
    · rw [if_neg e]; exact hT2
/-- a tick of one who waits -/
theorem ti_facts {K : Kc} (hK : K.ok) {g : Gv} (h : GS K g) (h0 : g.st ≠ 0) (h3 : g.st ≠ 3) (ht : g.tr < 100) :
    (∀ i, cn K.X.length (tiG g).1.G i + nbL K.X.length (tiG g).2 i = cn K.X.length g.G i) ∧ (g.G ≠ [] → ∃ i, i ≤ K.X.length ∧ 0 < nbL K.X.length (tiG g).2 i) ∧
    (g.G = [] → (tiG g).1.G = [] ∧ (((tiG g).2 = [] ∧ (tiG g).1.ti = g.ti + 1 ∧ g.ti + 1 < g.pa) ∨ (tiG g).2 = [kE K])) ∧ (kE K ∈ (tiG g).2 ∨ ((tiG g).1.tr = g.tr ∧ (tiG g).1.ti = g.ti + 1 ∧ g.ti + 1 < g.pa ∧ ∀ n, n ∈ (tiG g).2 → n.kd ≠ 3)) := by
  have h4 : g.st ≠ 4 := by have := h.st; omega
  obtain ⟨r1, r2, r3, r4, r5⟩ := gs_gv g.bu.toNat g [] h h3 OutG.nil
  obtain ⟨q1, q2, q3⟩ := r3 h0
  have hcn := gv_cn g.bu.toNat g [] h h3 h0
  have hbu := hK.bu
  have hgb := h.bu
  have hso := fun k => gv_some h h3 h0 k (k := g.bu.toNat) (by omega)
  have hnil : g.G = [] → gvL g.bu.toNat g [] = (g, []) := fun e => by
    obtain ⟨b, hb⟩ : ∃ b, g.bu.toNat = b + 1 := ⟨g.bu.toNat - 1, by omega⟩
    have hs : snV g = (g, [], false) := by
      unfold snV
      rw [if_neg (by rw [(h.go h0).2]; decide), e]
      dsimp only
      rw [if_pos h0]
    rw [hb]
    unfold gvL
    rw [hs]
    rw [if_neg (show ¬ (false = true) by decide)]
    rfl
  have hkd := gv_nend g.bu.toNat g [] h h3 h0 (fun n hn => by cases hn)
  have hti : tiG g = ((wtV (gvL g.bu.toNat g []).1).1, (gvL g.bu.toNat g []).2 ++ (wtV (gvL g.bu.toNat g []).1).2) := by
    unfold tiG
    rw [if_neg (by omega), if_pos h0]
  rw [hti]
  dsimp only
  have hw : (wtV (gvL g.bu.toNat g []).1).1.G = (gvL g.bu.toNat g []).1.G ∧ (((wtV (gvL g.bu.toNat g []).1).2 = [] ∧ (wtV (gvL g.bu.toNat g []).1).1.ti = g.ti + 1 ∧ g.ti + 1 < g.pa ∧ (wtV (gvL g.bu.toNat g []).1).1.tr = g.tr) ∨ (wtV (gvL g.bu.toNat g []).1).2 = [kE K]) := by
    generalize (gvL g.bu.toNat g []).1 = V at r1 r4 q1 q2 q3
    unfold wtV
    by_cases f : V.ti + 1 < V.pa
    · rw [if_pos f]
      rw [r1.pa, ← h.pa, q2] at f
      exact ⟨rfl, .inl ⟨rfl, by show V.ti + 1 = _; rw [q2], f, q3⟩⟩
    · rw [if_neg f, if_neg (by rw [q3, r1.li]; omega)]
      exact ⟨rfl, .inr (by show [ntEnd V] = _; rw [r1.end'])⟩
  obtain ⟨w1, w2⟩ := hw
  have hz : ∀ i, nbL K.X.length (wtV (gvL g.bu.toNat g []).1).2 i = 0 := fun i => by
    rcases w2 with e | e
    · rw [e.1]; rfl
    · rw [e]; exact nb_end K i
  refine ⟨fun i => ?_, fun e => ?_, fun e => ?_, ?_⟩
  · rw [w1, nbL_app, hz i]
    have := hcn i
    have e0 : nbL K.X.length [] i = 0 := rfl
    omega
  · obtain ⟨n, i, k1, k2, k3⟩ := hso e
    refine ⟨i, k2, ?_⟩
    rw [nbL_app]
    have : 0 < nbL K.X.length (gvL g.bu.toNat g []).2 i := List.countP_pos_iff.2 ⟨n, k1, k3⟩
    omega
  · have hn := hnil e
    rw [w1, hn]
    refine ⟨e, ?_⟩
    rw [hn] at w2
    dsimp only at w2 ⊢
    rw [List.nil_append]
    rcases w2 with k | k
    · exact .inl ⟨k.1, k.2.1, k.2.2.1⟩
    · exact .inr k
  · rcases w2 with k | k
    · right
      refine ⟨k.2.2.2, k.2.1, k.2.2.1, ?_⟩
      rw [k.1, List.append_nil]
      exact hkd
    · left
      rw [k]
      exact List.mem_append_right _ (List.mem_singleton.2 rfl)
end

section
/-- who is Going has heard nothing -/
def S0 (c : Cr) : Prop := c.g.st = 0 → c.g.G = [] ∧ c.up = []
theorem sn_nil {g : Gv} (h : g.G = []) : (snV g).1.G = [] := by
  unfold snV
  by_cases f : g.fi = true
  · rw [if_pos f]; exact h
  · rw [if_neg f, h]
    dsimp only
    by_cases f0 : g.st ≠ 0
    · rw [if_pos f0]; exact h
    · rw [if_neg f0]
      by_cases f1 : g.at' < (g.L.length : Int)
      · rw [if_pos f1]
      · rw [if_neg f1]
theorem gv_nil : ∀ (k : Nat) (g : Gv) (T : List Nt), g.G = [] → (gvL k g T).1.G = [] := by
  intro k
  induction k with
  | zero => intro g T h; exact h
  | succ k ih =>
    intro g T h
    unfold gvL
    by_cases e : (snV g).2.2 = true
    · rw [if_pos e]; exact ih _ _ (sn_nil h)
    · rw [if_neg e]; exact sn_nil h
theorem taF_en {K : Kc} (hK : K.ok) {P : Prop} : ∀ (l : List Nt) (t : Tv) (up : List Nt), TS K t → DnS K P (t.st = 3) l → (taF t up l).1.en = false → t.en = false ∧ (taF t up l).2 = up := by
  intro l
  induction l with
  | nil => intro t up _ _ e; exact ⟨e, rfl⟩
  | cons n l ih =>
    intro t up h hl e
    obtain ⟨n1, n2, n3⟩ := hl n (List.mem_cons_self ..)
    have a := ts_ta hK h n1
    obtain ⟨r1, r2⟩ := ih (taN t n).1 (up ++ (taN t n).2) a.ts (fun m hm => ⟨(hl m (List.mem_cons_of_mem _ hm)).1, (hl m (List.mem_cons_of_mem _ hm)).2.1, fun e => a.ov ((hl m (List.mem_cons_of_mem _ hm)).2.2 e)⟩) e
    refine ⟨?_, ?_⟩
    · have := a.en
      rw [r1] at this
      exact (Bool.or_eq_false_iff.1 this.symm).1
    · show (taF (taN t n).1 (up ++ (taN t n).2) l).2 = up
      rw [r2, a.no r1, List.append_nil]
theorem reF_st0 {K : Kc} : ∀ (l : List Nt) (g : Gv) (dn : List Nt), GS K g → (∀ n, n ∈ l → UpK K n) → g.st ≠ 0 → (reF g dn l).1.st ≠ 0 := by
  intro l
  induction l with
  | nil => intro g dn _ _ e; exact e
  | cons n l ih =>
    intro g dn h hl e
    obtain ⟨a1, a2, a3, a4, a5, a6, a7, a8⟩ := gs_re h (hl n (List.mem_cons_self ..))
    exact ih (reN g n).1 (dn ++ (reN g n).2) a1 (fun m hm => hl m (List.mem_cons_of_mem _ hm)) (a5 e)
theorem s0_tick {K : Kc} (hK : K.ok) {c : Cr} (h : SC K c) (h0 : S0 c) (hg : c.g.tr < 100) (ht : c.t.st = 0 → c.t.tr < 100) {cd cu : List Nt → List Nt × List Nt}
    (hd : ∀ W, (∀ n, n ∈ (cd W).1 → n ∈ W)) (hu : ∀ W, (∀ n, n ∈ (cu W).1 → n ∈ W) ∧ (∀ n, n ∈ (cu W).2 → n ∈ W)) : S0 (crT c cd cu) := by
  intro e
  obtain ⟨a1, a2, a3, a4, a5, a6⟩ := gs_ti h.g hg
  obtain ⟨b1, b2, b3, b4, b5, b6, b7, b8, b9⟩ := ts_ti h.t ht
  have hgs : c.g.st ≠ 0 → (tiG c.g).1.st ≠ 0 := fun e => by rw [a5 e]; exact e
  have hsi : (tiT c.t).1.si = c.t.si := by
    unfold tiT
    split
    · split
      · split <;> rfl
      · rfl
    · split
      · split <;> rfl
      · rfl
  have hD : DnS K ((tiG c.g).1.st ≠ 0) ((tiT c.t).1.st = 3) (c.dn ++ (tiG c.g).2) := by
    refine (h.dn.mono hgs (fun e => by rw [b3]; exact e)).app (fun n hn => ⟨(a2 n hn).1, (a2 n hn).2, fun e => ?_⟩)
    exact absurd e (ti_kd h.g n hn)
  have hU : UpS K ((tiT c.t).1.st = 3) (c.up ++ (tiT c.t).2) := (h.up.mono (fun e => by rw [b3]; exact e)).app b2
  have hDd : DnS K ((tiG c.g).1.st ≠ 0) ((tiT c.t).1.st = 3) (cd (c.dn ++ (tiG c.g).2)).1 := fun n hn => hD n (hd _ n hn)
  obtain ⟨r1, r2, r3, r4, r5, r6, r7⟩ := taF_ok hK (P := (tiG c.g).1.st ≠ 0) (cd (c.dn ++ (tiG c.g).2)).1 (tiT c.t).1 (c.up ++ (tiT c.t).2) b1 (fun e => by
      rw [b6, b7, b8, hsi]; exact h.nj (by rw [← b3]; exact e)) (fun e => hgs (h.en (by rw [← b7]; exact e))) hDd hU
  have hst : (tiG c.g).1.st = 0 := by
    by_cases k : (tiG c.g).1.st = 0
    · exact k
    · exfalso
      refine reF_st0 _ _ _ a1 (fun n hn => ?_) k e
      exact (r4 n ((hu _).1 n hn)).1
  have hst0 : c.g.st = 0 := by
    by_cases k : c.g.st = 0
    · exact k
    · exact absurd hst (hgs k)
  obtain ⟨z1, z2⟩ := h0 hst0
  have hen : (taF (tiT c.t).1 (c.up ++ (tiT c.t).2) (cd (c.dn ++ (tiG c.g).2)).1).1.en = false := by
    cases k : (taF (tiT c.t).1 (c.up ++ (tiT c.t).2) (cd (c.dn ++ (tiG c.g).2)).1).1.en with
    | false => rfl
    | true => exact absurd hst (r3 k)
  obtain ⟨v1, v2⟩ := taF_en hK _ _ _ b1 hDd hen
  have hte : c.t.en = false := by rw [← b7]; exact v1
  have ht0 : c.t.st = 0 := by
    rcases h.t.st with k | k
    · exact k
    · have := (h.t.ov k).2.1; rw [hte] at this; cases this
  have hb : (tiT c.t).2 = [] := by
    unfold tiT
    rw [if_neg (fun k => by rw [hte] at k; cases k.2), if_neg (fun k => by omega)]
  have hGn : (tiG c.g).1.G = [] := by
    unfold tiG
    rw [if_neg (by omega), if_neg (fun k => k hst0)]
    exact gv_nil _ _ _ z1
  rw [z2, hb, List.append_nil] at v2
  have e1 : (cu (taF (tiT c.t).1 (c.up ++ (tiT c.t).2) (cd (c.dn ++ (tiG c.g).2)).1).2).1 = [] := by
    rw [z2, hb, List.append_nil, v2]
    refine List.eq_nil_iff_forall_not_mem.2 (fun n hn => ?_)
    cases (hu []).1 n hn
  have e2 : (cu (taF (tiT c.t).1 (c.up ++ (tiT c.t).2) (cd (c.dn ++ (tiG c.g).2)).1).2).2 = [] := by
    rw [z2, hb, List.append_nil, v2]
    refine List.eq_nil_iff_forall_not_mem.2 (fun n hn => ?_)
    cases (hu []).2 n hn
  refine ⟨?_, e2⟩
  show (reF _ _ (cu _).1).1.G = []
  rw [e1]
  exact hGn
end
end Go.Proofs.Ytnimehkfnpepfaa
