import Derived.Test.YtnimehkfnpepfaaWh45
import Derived.Test.YtnimehkfnpepfaaWh44
import Derived.Test.YtnimehkfnpepfaaWh32
import Derived.Test.YtnimehkfnpepfaaWh38
import Derived.Test.YtnimehkfnpepfaaWh17
import Derived.Test.YtnimehkfnpepfaaWh43
import Derived.Test.YtnimehkfnpepfaaWh22
namespace Go.Proofs.Ytnimehkfnpepfaa
open Go.RowKit
set_option maxRecDepth 100000
set_option linter.unusedVariables false
set_option linter.unusedSimpArgs false

section
theorem DnS.tail {K : Kc} {P : Prop} {t t' : Tv} {n : Nt} {l : List Nt} (hl : DnS K P (t.st = 3) (n :: l)) (ov : t.st = 3 → t'.st = 3) : DnS K P (t'.st = 3) l :=
  fun m hm => ⟨(hl m (List.mem_cons_of_mem _ hm)).1, (hl m (List.mem_cons_of_mem _ hm)).2.1, fun e => ov ((hl m (List.mem_cons_of_mem _ hm)).2.2 e)⟩
theorem taF_mem : ∀ (l : List Nt) (t : Tv) (up : List Nt) (n : Nt), n ∈ up → n ∈ (taF t up l).2 := by
  intro l
  induction l with
  | nil => intro t up n h; exact h
  | cons m l ih => intro t up n h; exact ih _ _ n (List.mem_append_left _ h)
theorem taF_ov {K : Kc} (hK : K.ok) {P : Prop} : ∀ (l : List Nt) (t : Tv) (up : List Nt), TS K t → DnS K P (t.st = 3) l → TS K (taF t up l).1 ∧ (t.st = 3 → (taF t up l).1.st = 3) ∧ (t.st = 0 → (taF t up l).1.st = 3 → ntDone 7 0 ∈ (taF t up l).2) := by
  intro l
  induction l with
  | nil => intro t up h _; exact ⟨h, id, fun a b => by have b : t.st = 3 := b; omega⟩
  | cons n l ih =>
    intro t up h hl
    have a := ts_ta hK h (hl n (List.mem_cons_self ..)).1
    obtain ⟨r1, r2, r3⟩ := ih (taN t n).1 (up ++ (taN t n).2) a.ts (hl.tail a.ov)
    refine ⟨r1, fun e => r2 (a.ov e), fun e e2 => ?_⟩
    rcases a.ts.st with k | k
    · exact r3 k e2
    · exact taF_mem l _ _ _ (List.mem_append_right _ (a.dn e k))
/-- an End is answered -/
theorem taF_end {K : Kc} (hK : K.ok) {P : Prop} : ∀ (l : List Nt) (t : Tv) (up : List Nt), TS K t → DnS K P (t.st = 3) l → kE K ∈ l → (taF t up l).2 ≠ [] ∧ ((taF t up l).1.st = 3 → ntDone 7 0 ∈ (taF t up l).2) := by
  intro l
  induction l with
  | nil => intro t up h _ e; cases e
  | cons n l ih =>
    intro t up h hl e
    have a := ts_ta hK h (hl n (List.mem_cons_self ..)).1
    obtain ⟨r1, r2, r3⟩ := taF_ov hK l (taN t n).1 (up ++ (taN t n).2) a.ts (hl.tail a.ov)
    rcases List.mem_cons.1 e with e | e
    · have k3 : n.kd = 3 := by rw [← e]; rfl
      have hne : ∃ m, m ∈ (taN t n).2 := by
        rcases a.ts.st with k | k
        · rw [a.e3 k3 k]; exact ⟨ntSeen 7, List.mem_append_left _ (List.mem_singleton.2 rfl)⟩
        · exact ⟨_, a.e4 k3 k⟩
      obtain ⟨m, hm⟩ := hne
      refine ⟨fun q => ?_, fun q => ?_⟩
      · have := taF_mem l (taN t n).1 (up ++ (taN t n).2) m (List.mem_append_right _ hm)
        have q : (taF (taN t n).1 (up ++ (taN t n).2) l).2 = [] := q
        rw [q] at this
        cases this
      · rcases a.ts.st with k | k
        · exact r3 k q
        · exact taF_mem l _ _ _ (List.mem_append_right _ (a.e4 k3 k))
    · exact ih (taN t n).1 (up ++ (taN t n).2) a.ts (hl.tail a.ov) e
/-- one who is over answers nothing else -/
theorem taF_no3 {K : Kc} (hK : K.ok) {P : Prop} : ∀ (l : List Nt) (t : Tv) (up : List Nt), TS K t → DnS K P (t.st = 3) l → t.st = 3 → (∀ n, n ∈ l → n.kd ≠ 3) → (taF t up l).2 = up := by
  intro l
  induction l with
  | nil => intro t up h _ _ _; rfl
  | cons n l ih =>
    intro t up h hl h3 hk
    have a := ts_ta hK h (hl n (List.mem_cons_self ..)).1
    show (taF (taN t n).1 (up ++ (taN t n).2) l).2 = up
    rw [ih (taN t n).1 (up ++ (taN t n).2) a.ts (hl.tail a.ov) (a.ov h3) (fun m hm => hk m (List.mem_cons_of_mem _ hm)), a.q3 h3 (hk n (List.mem_cons_self ..)), List.append_nil]
/-- whoever hears begins to count anew -/
theorem taF_z {K : Kc} (hK : K.ok) {P : Prop} : ∀ (l : List Nt) (t : Tv) (up : List Nt), TS K t → DnS K P (t.st = 3) l → l ≠ [] → (taF t up l).1.st = 0 → (taF t up l).1.tr = 0 := by
  intro l
  induction l with
  | nil => intro t up h _ k; exact absurd rfl k
  | cons n l ih =>
    intro t up h hl _ e
    have a := ts_ta hK h (hl n (List.mem_cons_self ..)).1
    cases l with
    | nil => exact (a.z e).2
    | cons m l => exact ih (taN t n).1 (up ++ (taN t n).2) a.ts (hl.tail a.ov) (fun k => by cases k) e
/-- in a quiet time all that is sent comes over in the same tick -/
theorem st_form {K : Kc} (hK : K.ok) {c : Cr} (h : SC K c) (hc : Cl c) (hg : c.g.tr < 100) (ht : c.t.st = 0 → c.t.tr < 100) :
    crQ c = ⟨(reF (tiG c.g).1 [] (taF (tiT c.t).1 (tiT c.t).2 (c.dn ++ (tiG c.g).2)).2).1, (taF (tiT c.t).1 (tiT c.t).2 (c.dn ++ (tiG c.g).2)).1, (reF (tiG c.g).1 [] (taF (tiT c.t).1 (tiT c.t).2 (c.dn ++ (tiG c.g).2)).2).2, []⟩ ∧ Cl (crQ c) ∧ DnS K ((tiG c.g).1.st ≠ 0) ((tiT c.t).1.st = 3) (c.dn ++ (tiG c.g).2) ∧ UpS K ((taF (tiT c.t).1 (tiT c.t).2 (c.dn ++ (tiG c.g).2)).1.st = 3) (taF (tiT c.t).1 (tiT c.t).2 (c.dn ++ (tiG c.g).2)).2 := by
  obtain ⟨a1, a2, a3, a4, a5, a6⟩ := gs_ti h.g hg
  obtain ⟨b1, b2, b3, b4, b5, b6, b7, b8, b9⟩ := ts_ti h.t ht
  have hgs : c.g.st ≠ 0 → (tiG c.g).1.st ≠ 0 := fun e => by rw [a5 e]; exact e
  have hsi : (tiT c.t).1.si = c.t.si := by
    unfold tiT
    split
    · split
      · split <;> rfl
      · rfl
    · split
      · split <;> rfl
      · rfl
  have hD : DnS K ((tiG c.g).1.st ≠ 0) ((tiT c.t).1.st = 3) (c.dn ++ (tiG c.g).2) := by
    refine (h.dn.mono hgs (fun e => by rw [b3]; exact e)).app (fun n hn => ⟨(a2 n hn).1, (a2 n hn).2, fun e => ?_⟩)
    exact absurd e (ti_kd h.g n hn)
  have hw := taF_w hK (c.dn ++ (tiG c.g).2) (tiT c.t).1 (tiT c.t).2 b1 hD
  obtain ⟨r1, r2, r3, r4, r5, r6, r7⟩ := taF_ok hK (P := (tiG c.g).1.st ≠ 0) (c.dn ++ (tiG c.g).2) (tiT c.t).1 (tiT c.t).2 b1 (fun e => by
      rw [b6, b7, b8, hsi]; exact h.nj (by rw [← b3]; exact e)) (fun e => hgs (h.en (by rw [← b7]; exact e))) hD b2
  have hbu := hK.bu
  have hgb := h.g.bu
  have hln := hc.ln
  have h1 := wD_seen c.dn hc.dn
  have h2 := wD_len (tiG c.g).2
  rw [wD_app, List.length_append] at hw
  have e1 : (c.dn ++ (tiG c.g).2).take 1000 = c.dn ++ (tiG c.g).2 := List.take_of_length_le (by rw [List.length_append]; omega)
  have e2 : (c.dn ++ (tiG c.g).2).drop 1000 = [] := List.drop_eq_nil_of_le (by rw [List.length_append]; omega)
  have e3 : (taF (tiT c.t).1 (tiT c.t).2 (c.dn ++ (tiG c.g).2)).2.take 1000 = (taF (tiT c.t).1 (tiT c.t).2 (c.dn ++ (tiG c.g).2)).2 := List.take_of_length_le (by omega)
  have e4 : (taF (tiT c.t).1 (tiT c.t).2 (c.dn ++ (tiG c.g).2)).2.drop 1000 = [] := List.drop_eq_nil_of_le (by omega)
  have hf : crQ c = ⟨(reF (tiG c.g).1 [] (taF (tiT c.t).1 (tiT c.t).2 (c.dn ++ (tiG c.g).2)).2).1, (taF (tiT c.t).1 (tiT c.t).2 (c.dn ++ (tiG c.g).2)).1, (reF (tiG c.g).1 [] (taF (tiT c.t).1 (tiT c.t).2 (c.dn ++ (tiG c.g).2)).2).2, []⟩ := by
    unfold crQ crT cq
    dsimp only
    rw [hc.up, List.nil_append, e1, e2, e3, e4]
  obtain ⟨S, q1, q2, q3⟩ := reF_w (taF (tiT c.t).1 (tiT c.t).2 (c.dn ++ (tiG c.g).2)).2 (tiG c.g).1 [] a1 (fun n hn => (r4 n hn).1)
  rw [List.nil_append] at q1
  refine ⟨hf, ?_, hD, r4⟩
  rw [hf]
  exact ⟨by show ∀ n, n ∈ (reF _ _ _).2 → _; rw [q1]; exact q2, rfl, by show (reF _ _ _).2.length ≤ _; rw [q1]; omega⟩
end

section
/-- a taker fails not -/
def TI (c : Cr) : Prop := c.t.tr + (if c.g.G = [] then c.g.pa - c.g.ti else 0) ≤ 90
set_option maxHeartbeats 4000000 in
/-- A QUIET TICK BRINGS THE END NEARER -/
theorem st_zero {K : Kc} (hK : K.ok) {c : Cr} (h : SC K c) (hc : Cl c) (hg : c.g.tr < 100) (hI : TI c) (h0 : c.g.st ≠ 0) (h3 : c.g.st ≠ 3) (ht0 : c.t.st = 0) :
    (crQ c).g.st = 3 ∨ ((crQ c).g.st ≠ 3 ∧ (crQ c).g.st ≠ 0 ∧ (crQ c).t.st = 0 ∧ mu K (crQ c) + 1 ≤ mu K c ∧ (crQ c).g.tr ≤ c.g.tr ∧ TI (crQ c)) := by
  have hti := h.g.o.ti
  have htr : c.t.tr < 100 := by
    unfold TI at hI
    split at hI <;> omega
  obtain ⟨hf, _, hD, hU⟩ := st_form hK h hc hg (fun _ => htr)
  obtain ⟨a1, a2, a3, a4, a5, a6⟩ := gs_ti h.g hg
  obtain ⟨b1, b2, b3, b4, b5, b6, b7, b8, b9⟩ := ts_ti h.t (fun _ => htr)
  obtain ⟨f1, f2, f3, f4⟩ := ti_facts hK h.g h0 h3 hg
  have hback := ti_ask h.t
  have hbk : (tiT c.t).2 ≠ [] → ∃ n, n ∈ (tiT c.t).2 ∧ n.ga ≠ [] := by
    unfold tiT
    split
    · split
      · split
        · intro k; exact absurd rfl k
        · unfold sgL
          split
          · intro k; exact absurd rfl k
          · rename_i hm
            intro _
            exact ⟨_, List.mem_singleton.2 rfl, fun k => hm (by show (misL c.t.kn c.t.la c.t.G).length = 0; have k : misL c.t.kn c.t.la c.t.G = [] := k; rw [k]; rfl)⟩
      · intro k; exact absurd rfl k
    · rw [if_neg (fun k => by omega)]
      intro k; exact absurd rfl k
  have hdn : c.dn = [] := by
    cases hd : c.dn with
    | nil => rfl
    | cons n l =>
      have hn : n ∈ c.dn := by rw [hd]; exact List.mem_cons_self ..
      have := (h.dn n hn).2.2 (by rw [hc.dn n hn]; rfl)
      omega
  rw [hdn, List.nil_append] at hf hD hU
  have hg1 : (tiG c.g).1.st ≠ 3 := by rw [a5 h0]; exact h3
  have hg0 : (tiG c.g).1.st ≠ 0 := by rw [a5 h0]; exact h0
  have ht1 : (tiT c.t).1.st = 0 := by rw [b3]; exact ht0
  have hgt := a1.o.ti
  have hgp : (tiG c.g).1.pa = c.g.pa := by rw [a1.pa, h.g.pa]
  have hpa := hK.pa
  have hgpa := h.g.pa
  have hnj : Nj (tiT c.t).1 := by
    have hsi : (tiT c.t).1.si = c.t.si := by
      unfold tiT
      split
      · split
        · split <;> rfl
        · rfl
      · split
        · split <;> rfl
        · rfl
    intro e
    rw [b6, b7, b8, hsi]
    exact h.nj ht0
  have hhv : ∀ i, hv K.X.length (tiT c.t).1 i = hv K.X.length c.t i := fun i => by unfold hv; rw [b6, b8]
  generalize (tiG c.g).1 = g1 at *
  generalize (tiG c.g).2 = out at *
  generalize (tiT c.t).1 = t1 at *
  generalize (tiT c.t).2 = back at *
  rw [hf]
  obtain ⟨v1, v2, v3⟩ := taF_ov hK out t1 back b1 hD
  have vhv := taF_hv hK out t1 back b1 hD
  have vask := taF_ask hK out t1 back b1 hD c.t (fun i hi e => by rw [← hhv i]; exact e) hback
  have vz := taF_z hK out t1 back b1 hD
  have vend := fun e => taF_end hK out t1 back b1 hD e
  have vmem := taF_mem out t1 back
  have vone : out = [kE K] → (taF t1 back out).1.st = 0 → ∃ n, n ∈ (taF t1 back out).2 ∧ n.ga ≠ [] := by
    intro e es
    subst e
    have a := ts_ta hK b1 (n := kE K) (.inr (.inl rfl))
    have es : (taN t1 (kE K)).1.st = 0 := es
    have hm := mis_ne a.ts a.nj es (by rw [a.en, decide_eq_true (show (kE K).kd = 3 from rfl), Bool.or_true])
    refine ⟨ntGaps 7 (misL (taN t1 (kE K)).1.kn (taN t1 (kE K)).1.la (taN t1 (kE K)).1.G), ?_, hm⟩
    show _ ∈ back ++ (taN t1 (kE K)).2
    refine List.mem_append_right _ ?_
    rw [a.e3 rfl es]
    refine List.mem_append_right _ ?_
    unfold sgL
    rw [if_neg (fun k => hm (List.eq_nil_of_length_eq_zero k))]
    exact List.mem_singleton.2 rfl
  have vtr : out = [] → (taF t1 back out).1.tr = t1.tr ∧ (taF t1 back out).2 = back := fun e => by subst e; exact ⟨rfl, rfl⟩
  generalize taF t1 back out = T at *
  obtain ⟨t', U⟩ := T
  dsimp only at *
  rcases v1.st with e | e
  · right
    have hUK : ∀ n, n ∈ U → UpK K n := fun n hn => (hU n hn).1
    obtain ⟨A, r1, r2, r3, r4, r5, r6⟩ := reF_keep U g1 [] a1 hUK hg1 (fun n hn k => by have := (hU n hn).2 k; omega)
    have s := reF_ok (K := K) (Q := True) U g1 [] a1 (fun _ => trivial) (fun n hn => ⟨hUK n hn, fun _ => trivial⟩) (fun n hn => by cases hn)
    have hgl := s.1.o.gl
    have hst' := s.2.2.2.1 hg0
    have hpa' : (reF g1 [] U).1.pa = c.g.pa := by rw [s.1.pa, h.g.pa]
    have hti' := s.1.o.ti
    have hrn : U = [] → (reF g1 [] U).1 = g1 := fun e => by rw [e]; rfl
    generalize (reF g1 [] U).1 = g' at *
    rw [r1] at hgl
    have hitem : ∀ i, i < K.X.length + 1 → fI (!hv K.X.length t' i) (cn K.X.length g'.G i) ≤ fI (!hv K.X.length c.t i) (cn K.X.length c.g.G i) ∧ (0 < nbL K.X.length out i → fI (!hv K.X.length t' i) (cn K.X.length g'.G i) + 1 ≤ fI (!hv K.X.length c.t i) (cn K.X.length c.g.G i)) ∧ (nbL K.X.length out i = 0 → cn K.X.length c.g.G i = 0 → 0 < cn K.X.length A i → fI (!hv K.X.length t' i) (cn K.X.length g'.G i) + 10 ≤ fI (!hv K.X.length c.t i) (cn K.X.length c.g.G i)) := fun i hi => by
      refine it_step (f1 i) (by rw [r1, cn_app]) (by rw [vhv i (by omega), hhv i]) (fun k => ?_) ?_
      · refine List.countP_eq_zero.2 (fun p hp k2 => ?_)
        obtain ⟨n, hn, hpn⟩ := r2 p hp
        have := vask n hn p hpn i (by omega) k2
        rw [k] at this
        cases this
      · rw [r1]; exact Nat.le_trans (cn_le ..) hgl
    have hle : ∀ i, i < K.X.length + 1 → fI (!hv K.X.length t' i) (cn K.X.length g'.G i) ≤ fI (!hv K.X.length c.t i) (cn K.X.length c.g.G i) := fun i hi => (hitem i hi).1
    have htau : tau g' ≤ c.g.pa.toNat := by unfold tau; split <;> omega
    have hgtr : g'.tr ≤ c.g.tr := by
      by_cases k : U = []
      · rcases f4 with q | q
        · exact absurd k (vend q).1
        · rw [hrn k]; omega
      · have := (r5 k).2
        have := h.g.o.tr
        omega
    have hgap : U ≠ [] → c.g.G = [] → g'.G ≠ [] := fun k1 k2 => by
      obtain ⟨_, k3⟩ := f3 k2
      rcases k3 with k3 | k3
      · refine r6 ?_
        rw [(vtr k3.1).2] at k1 ⊢
        exact hbk k1
      · exact r6 (vone k3 e)
    have hout : out = [] → c.g.G = [] := fun k => by
      by_cases q : c.g.G = []
      · exact q
      · obtain ⟨i, _, hn⟩ := f2 q
        rw [k] at hn
        exact absurd hn (by show ¬ 0 < 0; omega)
    refine ⟨r3, hst', e, ?_, hgtr, ?_⟩
    · show sF (fun i => fI (!hv K.X.length t' i) (cn K.X.length g'.G i)) (K.X.length + 1) + tau g' + 1 ≤ sF (fun i => fI (!hv K.X.length c.t i) (cn K.X.length c.g.G i)) (K.X.length + 1) + tau c.g
      by_cases hG : c.g.G = []
      · obtain ⟨k1, k2⟩ := f3 hG
        have tg : tau c.g = (c.g.pa - c.g.ti).toNat := by unfold tau; rw [if_pos hG]
        by_cases hUe : U = []
        · have hle2 := sF_le (K.X.length + 1) hle
          rcases k2 with k2 | k2
          · have tg2 : tau g' = (g1.pa - g1.ti).toNat := by rw [hrn hUe]; unfold tau; rw [if_pos k1]
            rw [tg, tg2, hgp]
            have := k2.2.1
            omega
          · exact absurd hUe (vend (by rw [k2]; exact List.mem_singleton.2 rfl)).1
        · have hne := hgap hUe hG
          rw [r1, k1, List.nil_append] at hne
          obtain ⟨p, hp⟩ := List.exists_mem_of_ne_nil A hne
          have hpp := s.1.o.gp p (by rw [r1]; exact List.mem_append_right _ hp)
          rw [s.1.L] at hpp
          obtain ⟨i, hi, hit⟩ := gap_itm hpp
          have hnb : nbL K.X.length out i = 0 := by
            rcases k2 with k2 | k2
            · rw [k2.1]; rfl
            · rw [k2]; exact nb_end K i
          have h10 := (hitem i (by omega)).2.2 hnb (by rw [hG]; rfl) (List.countP_pos_iff.2 ⟨p, hp, hit⟩)
          have := sF_lt (f := fun i => fI (!hv K.X.length t' i) (cn K.X.length g'.G i)) (g := fun i => fI (!hv K.X.length c.t i) (cn K.X.length c.g.G i)) h10 (K.X.length + 1) hle (by omega)
          rw [tg]
          omega
      · obtain ⟨i, hi, hn⟩ := f2 hG
        have := sF_lt (f := fun i => fI (!hv K.X.length t' i) (cn K.X.length g'.G i)) (g := fun i => fI (!hv K.X.length c.t i) (cn K.X.length c.g.G i)) ((hitem i (by omega)).2.1 hn) (K.X.length + 1) hle (by omega)
        have tg : tau c.g = c.g.pa.toNat := by unfold tau; rw [if_neg hG]
        rw [tg]
        omega
    · show t'.tr + (if g'.G = [] then g'.pa - g'.ti else 0) ≤ 90
      by_cases ho : out = []
      · have hG := hout ho
        unfold TI at hI
        rw [if_pos hG] at hI
        obtain ⟨k1, k2⟩ := f3 hG
        rcases k2 with k2 | k2
        · have ht := (vtr ho).1
          by_cases hUe : U = []
          · rw [hrn hUe, if_pos k1, hgp]; omega
          · rw [if_neg (hgap hUe hG)]; omega
        · rw [ho] at k2; cases k2
      · have := vz ho e
        split <;> omega
  · left
    exact reF_done U g1 [] a1 (fun n hn => (hU n hn).1) (.inr (v3 ht1 e))
end

section
theorem ti_three {t : Tv} (h3 : t.st = 3) (hi : t.id = 7) : (tiT t).2 = [] ∨ (tiT t).2 = [ntDone 7 0] := by
  unfold tiT
  rw [if_neg (fun k => by omega)]
  split
  · split
    · right; show [ntDone t.id 0] = _; rw [hi]
    · left; rfl
  · left; rfl
/-- the taker is over: the next End tells it -/
theorem st_three {K : Kc} (hK : K.ok) {c : Cr} (h : SC K c) (hc : Cl c) (hg : c.g.tr < 100) (h0 : c.g.st ≠ 0) (h3 : c.g.st ≠ 3) (ht3 : c.t.st = 3) :
    (crQ c).g.st = 3 ∨ ((crQ c).g.st ≠ 3 ∧ (crQ c).g.st ≠ 0 ∧ (crQ c).t.st = 3 ∧ (crQ c).g.ti = c.g.ti + 1 ∧ c.g.ti + 1 < c.g.pa ∧ (crQ c).g.tr ≤ c.g.tr) := by
  obtain ⟨hf, _, hD, hU⟩ := st_form hK h hc hg (fun k => by omega)
  obtain ⟨a1, a2, a3, a4, a5, a6⟩ := gs_ti h.g hg
  obtain ⟨b1, b2, b3, b4, b5, b6, b7, b8, b9⟩ := ts_ti h.t (fun k => by omega)
  obtain ⟨f1, f2, f3, f4⟩ := ti_facts hK h.g h0 h3 hg
  have hb := ti_three ht3 h.t.id
  have hg1 : (tiG c.g).1.st ≠ 3 := by rw [a5 h0]; exact h3
  have hg0 : (tiG c.g).1.st ≠ 0 := by rw [a5 h0]; exact h0
  rw [ht3] at b3
  rw [hf]
  obtain ⟨v1, v2, v3⟩ := taF_ov hK (c.dn ++ (tiG c.g).2) (tiT c.t).1 (tiT c.t).2 b1 hD
  have vs := v2 b3
  dsimp only
  rcases f4 with q | ⟨q1, q2, q3, q4⟩
  · left
    exact reF_done _ _ _ a1 (fun n hn => (hU n hn).1) (.inr ((taF_end hK (c.dn ++ (tiG c.g).2) (tiT c.t).1 (tiT c.t).2 b1 hD (List.mem_append_right _ q)).2 vs))
  · have hno := taF_no3 hK (c.dn ++ (tiG c.g).2) (tiT c.t).1 (tiT c.t).2 b1 hD b3 (fun n hn => by
      rcases List.mem_append.1 hn with hn | hn
      · rw [hc.dn n hn]; show (6 : Int) ≠ 3; omega
      · exact q4 n hn)
    rw [hno] at hU ⊢
    rcases hb with e | e
    · right
      rw [e] at vs ⊢
      exact ⟨hg1, hg0, vs, q2, q3, by show (tiG c.g).1.tr ≤ _; omega⟩
    · left
      exact reF_done _ _ _ a1 (fun n hn => (hU n hn).1) (.inr (by rw [e]; exact List.mem_singleton.2 rfl))
/-- what one who is Going still has to send -/
def m0 (g : Gv) : Nat := (if g.fi = true then 1 else 0) + ((g.L.length : Int) - g.at').toNat
theorem sn_m0 {K : Kc} {g : Gv} (h : GS K g) (h0 : g.st = 0) (hG : g.G = []) : (snV g).1.st ≠ 0 ∨ ((snV g).2.2 = true ∧ (snV g).1.st = 0 ∧ m0 (snV g).1 + 1 ≤ m0 g) := by
  unfold snV
  by_cases f : g.fi = true
  · rw [if_pos f]
    right
    refine ⟨rfl, h0, ?_⟩
    unfold m0
    rw [if_pos f, if_neg (show ¬ (false = true) by decide)]
    show 0 + ((g.L.length : Int) - g.at').toNat + 1 ≤ _
    omega
  · rw [if_neg f, hG]
    dsimp only
    rw [if_neg (fun k => k h0)]
    by_cases f1 : g.at' < (g.L.length : Int)
    · rw [if_pos f1]
      right
      refine ⟨rfl, h0, ?_⟩
      have h4 := h.o.at0
      have he := enN_le g g.at'.toNat g.L.length (by omega) h.o.mo.1
      unfold m0
      dsimp only
      rw [if_neg f]
      omega
    · rw [if_neg f1]
      left
      show (1 : Int) ≠ 0
      omega
theorem gv_m0 {K : Kc} : ∀ (k : Nat) (g : Gv) (T : List Nt), GS K g → g.st = 0 → g.G = [] → (gvL k g T).1.st ≠ 0 ∨ m0 (gvL k g T).1 + k ≤ m0 g := by
  intro k
  induction k with
  | zero => intro g T _ _ _; right; exact Nat.le_refl _
  | succ k ih =>
    intro g T h h0 hG
    obtain ⟨s1, s2, s3, s4, s5, s6⟩ := gs_sn h (by omega)
    unfold gvL
    rcases sn_m0 h h0 hG with e | ⟨e1, e2, e3⟩
    · left
      by_cases f : (snV g).2.2 = true
      · rw [if_pos f]
        exact fun k0 => e (gvL_st0 k _ _ k0)
      · rw [if_neg f]; exact e
    · rw [if_pos e1]
      rcases ih (snV g).1 (T ++ (snV g).2.1) s1 e2 (sn_nil hG) with r | r
      · exact .inl r
      · right; omega
theorem re_m0 {K : Kc} {g : Gv} (h : GS K g) {n : Nt} (hn : UpK K n) : m0 (reN g n).1 ≤ m0 g := by
  have h4 : g.st ≠ 4 := by have := h.st; omega
  by_cases e3 : g.st = 3
  · rw [(re_over e3 n hn.kd.1).1]; exact Nat.le_refl _
  · rcases hn with e | e | ⟨M, e, _⟩
    · subst e; rw [(re_seen e3 h4).1]; exact Nat.le_refl _
    · subst e
      rw [(re_done e3 h4).1]
      unfold m0
      dsimp only
      rw [if_neg (show ¬ (false = true) by decide)]
      omega
    · subst e; rw [(re_gaps e3 h4 M).1]; exact Nat.le_refl _
theorem reF_m0 {K : Kc} : ∀ (l : List Nt) (g : Gv) (dn : List Nt), GS K g → (∀ n, n ∈ l → UpK K n) → m0 (reF g dn l).1 ≤ m0 g := by
  intro l
  induction l with
  | nil => intro g dn _ _; exact Nat.le_refl _
  | cons n l ih =>
    intro g dn h hl
    have hn := hl n (List.mem_cons_self ..)
    exact Nat.le_trans (ih (reN g n).1 (dn ++ (reN g n).2) (gs_re h hn).1 (fun m hm => hl m (List.mem_cons_of_mem _ hm))) (re_m0 h hn)
/-- one who is Going comes nearer to the End -/
theorem st_going {K : Kc} (hK : K.ok) {c : Cr} (h : SC K c) (hS : S0 c) (hc : Cl c) (hg : c.g.tr < 100) (ht : c.t.tr < 100) (h0 : c.g.st = 0) :
    (crQ c).g.tr ≤ c.g.tr ∧ ((crQ c).t.st = 0 → (crQ c).t.tr ≤ c.t.tr) ∧ ((crQ c).g.st = 3 ∨ (crQ c).t.st = 0) ∧ ((crQ c).g.st ≠ 0 ∨ m0 (crQ c).g + 1 ≤ m0 c.g) := by
  obtain ⟨hf, _, hD, hU⟩ := st_form hK h hc hg (fun _ => ht)
  obtain ⟨a1, a2, a3, a4, a5, a6⟩ := gs_ti h.g hg
  obtain ⟨b1, b2, b3, b4, b5, b6, b7, b8, b9⟩ := ts_ti h.t (fun _ => ht)
  have hen : c.t.en = false := by
    cases k : c.t.en with
    | false => rfl
    | true => exact absurd h0 (h.en k)
  have ht0 : c.t.st = 0 := by
    rcases h.t.st with k | k
    · exact k
    · have := (h.t.ov k).2.1; rw [hen] at this; cases this
  have hti : tiT c.t = (c.t, []) := by
    unfold tiT
    rw [if_neg (fun k => by rw [hen] at k; cases k.2), if_neg (fun k => by omega)]
  have hG := (hS h0).1
  have hgv : tiG c.g = gvL c.g.bu.toNat c.g [] := by
    unfold tiG
    rw [if_neg (by omega), if_neg (fun k => k h0)]
  have hbu := hK.bu
  have hgb := h.g.bu
  obtain ⟨r1, r2, r3, r4, r5⟩ := gs_gv c.g.bu.toNat c.g [] h.g (by omega) OutG.nil
  have hm := gv_m0 c.g.bu.toNat c.g [] h.g h0 hG
  have htr0 := gvL_tr0 c.g.bu.toNat c.g []
  have hgtr := h.g.o.tr
  rw [← hgv] at r1 r4 r5 hm htr0
  have hg1 : (tiG c.g).1.tr ≤ c.g.tr := by
    by_cases e : (tiG c.g).1.st = 0
    · rw [htr0 e]; omega
    · rw [r5 h0 e]; omega
  rw [hf]
  dsimp only
  obtain ⟨v1, v2, v3⟩ := taF_ov hK (c.dn ++ (tiG c.g).2) (tiT c.t).1 (tiT c.t).2 b1 hD
  obtain ⟨w1, w2, w3, w4, w5, w6, w7⟩ := taF_ok hK (P := True) (c.dn ++ (tiG c.g).2) (tiT c.t).1 (tiT c.t).2 b1 (by rw [hti]; exact h.nj) (fun _ => trivial) (hD.mono (fun _ => trivial) id) b2
  have s := reF_ok (K := K) (Q := True) (taF (tiT c.t).1 (tiT c.t).2 (c.dn ++ (tiG c.g).2)).2 (tiG c.g).1 [] a1 (fun _ => trivial) (fun n hn => ⟨(hU n hn).1, fun _ => trivial⟩) (fun n hn => by cases hn)
  refine ⟨Int.le_trans s.2.2.2.2.2 hg1, fun e => ?_, ?_, ?_⟩
  · have := w7 e
    rw [hti] at this ⊢
    exact this
  · rcases v1.st with e | e
    · exact .inr e
    · left
      exact reF_done _ _ _ a1 (fun n hn => (hU n hn).1) (.inr (v3 (by rw [b3]; exact ht0) e))
  · rcases hm with e | e
    · left; exact s.2.2.2.1 e
    · by_cases k : (tiG c.g).1.st = 0
      · right
        have hx := reF_m0 (taF (tiT c.t).1 (tiT c.t).2 (c.dn ++ (tiG c.g).2)).2 (tiG c.g).1 [] a1 (fun n hn => (hU n hn).1)
        omega
      · left; exact s.2.2.2.1 k
end

section
/-- between two quiet ticks, when all that is sent comes over at once -/
structure Sd (K : Kc) (c : Cr) : Prop where
  sc : SC K c
  s0 : S0 c
  cl : Cl c
  gr : c.g.tr ≤ 90
  t0 : c.t.st = 0 → c.g.st = 0 → c.t.tr ≤ 80
  t1 : c.t.st = 0 → c.g.st ≠ 0 → TI c
/-- how many quiet ticks are left, at most -/
def Qp (K : Kc) (c : Cr) : Nat := if c.t.st = 3 then (c.g.pa - c.g.ti).toNat else if c.g.st ≠ 0 then mu K c + 10 else m0 c.g + 122400
theorem mu_max {K : Kc} (hK : K.ok) {c : Cr} (h : SC K c) : mu K c ≤ 122340 := by
  have hn := hK.n
  have hp := hK.pa
  have hgp := h.g.pa
  have hti := h.g.o.ti
  have h1 : muS K c ≤ (K.X.length + 1) * 1011 := by
    refine sF_max _ (fun i _ => ?_)
    have := cn_le K.X.length c.g.G i
    have := h.g.o.gl
    unfold fI
    split
    · split <;> omega
    · omega
  have h2 : tau c.g ≤ 9 := by unfold tau; split <;> omega
  have h3 : (K.X.length + 1) * 1011 ≤ 121 * 1011 := Nat.mul_le_mul_right _ (by omega)
  unfold mu
  omega
theorem Sd.tr {K : Kc} {c : Cr} (h : Sd K c) (h0 : c.t.st = 0) : c.t.tr < 100 := by
  have hti := h.sc.g.o.ti
  by_cases e : c.g.st = 0
  · have := h.t0 h0 e; omega
  · have := h.t1 h0 e
    unfold TI at this
    split at this <;> omega
theorem sd_step {K : Kc} (hK : K.ok) {c : Cr} (h : Sd K c) (h3 : c.g.st ≠ 3) : (crQ c).g.st = 3 ∨ (Sd K (crQ c) ∧ Qp K (crQ c) + 1 ≤ Qp K c) := by
  have hg : c.g.tr < 100 := by have := h.gr; omega
  have hsc := sc_tick hK h.sc hg (fun e => h.tr e) (cd := cq) (cu := cq) (nd := 1000) (nu := 1000) cq_ok cq_ok
  have hs0 := s0_tick hK h.sc h.s0 hg (fun e => h.tr e) (cd := cq) (cu := cq) (fun W => (cq_ok W).1) (fun W => ⟨(cq_ok W).1, (cq_ok W).2.1⟩)
  have hcl := (st_form hK h.sc h.cl hg (fun e => h.tr e)).2.1
  have hsc1 : SC K (crQ c) := hsc.1
  have hs1 : S0 (crQ c) := hs0
  have hgr := h.gr
  have hti := h.sc.g.o.ti
  have hti' := hsc1.g.o.ti
  have hpa : (crQ c).g.pa = c.g.pa := by rw [hsc1.g.pa, h.sc.g.pa]
  have hpk := hK.pa
  have hgp := h.sc.g.pa
  rcases h.sc.t.st with ht | ht
  · by_cases h0 : c.g.st = 0
    · obtain ⟨q1, q2, q3, q4⟩ := st_going hK h.sc h.s0 h.cl hg (h.tr ht) h0
      rcases q3 with q3 | q3
      · exact .inl q3
      · by_cases h3' : (crQ c).g.st = 3
        · exact .inl h3'
        · right
          have ht8 := h.t0 ht h0
          have hq := q2 q3
          refine ⟨⟨hsc1, hs1, hcl, by omega, fun _ _ => by omega, fun _ _ => ?_⟩, ?_⟩
          · unfold TI
            split <;> omega
          · have e1 : Qp K c = m0 c.g + 122400 := by unfold Qp; rw [if_neg (by omega), if_neg (fun k => k h0)]
            have hm := mu_max hK hsc1
            rw [e1]
            unfold Qp
            rw [if_neg (show ¬ (crQ c).t.st = 3 by omega)]
            by_cases k : (crQ c).g.st ≠ 0
            · rw [if_pos k]; omega
            · rw [if_neg k]
              have := q4.resolve_left k
              omega
    · rcases st_zero hK h.sc h.cl hg (h.t1 ht h0) h0 h3 ht with q | ⟨q1, q2, q3, q4, q5, q6⟩
      · exact .inl q
      · right
        refine ⟨⟨hsc1, hs1, hcl, by omega, fun _ k => absurd k q2, fun _ _ => q6⟩, ?_⟩
        unfold Qp
        rw [if_neg (by omega), if_pos q2, if_neg (by omega), if_pos h0]
        omega
  · have h0 : c.g.st ≠ 0 := h.sc.en (h.sc.t.ov ht).2.1
    rcases st_three hK h.sc h.cl hg h0 h3 ht with q | ⟨q1, q2, q3, q4, q5, q6⟩
    · exact .inl q
    · right
      refine ⟨⟨hsc1, hs1, hcl, by omega, fun k => by omega, fun k => by omega⟩, ?_⟩
      unfold Qp
      rw [if_pos q3, if_pos ht]
      omega
/-- the first quiet ticks -/
structure Dr (K : Kc) (q : Nat) (c : Cr) : Prop where
  sc : SC K c
  s0 : S0 c
  gr : c.g.tr ≤ 60 + (q : Int)
  tr : c.t.st = 0 → c.t.tr ≤ 60 + (q : Int)
  ln : c.dn.length ≤ 1260 + 10 * q
  w : wC c + 948 * q ≤ 9060 ∨ wC c ≤ 1000
  w10 : 10 ≤ q → wC c ≤ 52 ∨ Cl c
  w11 : 11 ≤ q → Cl c
theorem dr_step {K : Kc} (hK : K.ok) {q : Nat} {c : Cr} (h : Dr K q c) (hq : q ≤ 10) : Dr K (q + 1) (crQ c) := by
  have hg : c.g.tr < 100 := by have := h.gr; omega
  have ht : c.t.st = 0 → c.t.tr < 100 := fun e => by have := h.tr e; omega
  obtain ⟨s1, s2, s3, s4, s5, s6, s7⟩ := sc_tick hK h.sc hg ht (cd := cq) (cu := cq) (nd := 1000) (nu := 1000) cq_ok cq_ok
  have hs0 := s0_tick hK h.sc h.s0 hg ht (cd := cq) (cu := cq) (fun W => (cq_ok W).1) (fun W => ⟨(cq_ok W).1, (cq_ok W).2.1⟩)
  obtain ⟨w1, w2⟩ := quiet_w hK h.sc hg ht
  have hgr := h.gr
  have hln := h.ln
  have hw := h.w
  have htr := h.tr
  have hcl1 : ((∀ n, n ∈ (crQ c).dn → n = kS) ∧ (crQ c).up = []) → wC (crQ c) = (crQ c).dn.length := fun k => by
    unfold wC
    rw [wD_seen _ k.1, k.2]
    rfl
  have hw' : 9 ≤ q → wC c ≤ 1000 := fun k => by omega
  refine ⟨s1, hs0, by show (crT c cq cq).g.tr ≤ _; omega, fun e => ?_, by omega, ?_, fun k => ?_, fun k => ?_⟩
  · have e1 : c.t.st = 0 := by
      rcases h.sc.t.st with k | k
      · exact k
      · have := s5 k
        have e : (crT c cq cq).t.st = 0 := e
        omega
    have := s3 e
    have := htr e1
    show (crT c cq cq).t.tr ≤ _
    omega
  · rcases w1 with k | k
    · omega
    · right
      rw [hcl1 ⟨k.1, k.2.1⟩]
      exact k.2.2.2
  · rcases w1 with k1 | k1
    · have := hw' (by omega)
      left; omega
    · right
      have := hw' (by omega)
      exact ⟨k1.1, k1.2.1, by have := k1.2.2.1; omega⟩
  · have := h.w10 (by omega)
    rcases this with k1 | k1
    · rcases w1 with k2 | k2
      · omega
      · exact ⟨k2.1, k2.2.1, by have := k2.2.2.1; omega⟩
    · exact (st_form hK h.sc k1 hg ht).2.1
theorem dr_sd {K : Kc} (hK : K.ok) {c : Cr} (h : Dr K 11 c) : Sd K c ∧ Qp K c ≤ 122600 := by
  have hti := h.sc.g.o.ti
  have hpk := hK.pa
  have hgp := h.sc.g.pa
  have hn := hK.n
  refine ⟨⟨h.sc, h.s0, h.w11 (by omega), by have := h.gr; omega, fun k _ => by have := h.tr k; omega, fun k _ => ?_⟩, ?_⟩
  · have := h.tr k
    unfold TI
    split <;> omega
  · have := mu_max hK h.sc
    have hL := h.sc.g.L
    have hat := h.sc.g.o.at0
    unfold Qp
    split
    · omega
    · split
      · omega
      · unfold m0
        rw [hL]
        split <;> omega
end

section
theorem alG_of {F : Nat → Int × Int} {s : Int} : ∀ n, (∀ j, j < n → ((F j).1 = 0 ∧ (F j).2 = 0) ∨ (0 ≤ (F j).1 ∧ (F j).1 < (F j).2 ∧ (F j).2 ≤ s)) → alG F s n = true := by
  intro n
  induction n with
  | zero => intro _; rfl
  | succ n ih =>
    intro h
    show (alG F s n && gpB (F n).1 (F n).2 s) = true
    rw [ih (fun j hj => h j (by omega))]
    exact decide_eq_true (h n (by omega))
theorem alG_list {G : List (Int × Int)} {s : Int} (h : ∀ p, p ∈ G → (p.1 = 0 ∧ p.2 = 0) ∨ (0 ≤ p.1 ∧ p.1 < p.2 ∧ p.2 ≤ s)) : alG (giF G) s G.length = true :=
  alG_of _ (fun j hj => by rw [giF_at hj]; exact h _ (List.getElem_mem hj))
theorem ds_ok {pa : Int} (h : 1 ≤ pa ∧ pa ≤ 9) : dsB 7 pa 100 = true := by
  unfold dsB
  rw [kwB_t (by omega), kwB_t (by omega), kwB_t (by omega)]
  rfl
/-- SUCH A GIVER MAY BE -/
theorem gs_may {K : Kc} (hK : K.ok) {g : Gv} (h : GS K g) : gvB g.id g.nm.size g.L.length g.mo g.bu g.st g.fi g.at' g.G.length (alG (giF g.G) g.L.length g.G.length) g.ti g.pa g.tr g.li = true := by
  have hn := hK.n
  have hp := hK.pa
  have hm := hK.mo
  have hb := hK.bu
  have hs := hK.nm
  have ho := h.o
  have hal := alG_list ho.gp
  have h1 : ofE g.id g.pa g.li g.mo g.bu g.nm.size g.L.length = 0 := by
    rw [h.id, h.pa, h.li, h.mo, h.bu, h.nm, h.L]
    unfold ofE ofB ofC
    rw [ds_ok hp, kwB_t (by omega), kwB_t (by omega), kwB_t (by omega), decide_eq_true (by omega)]
    rfl
  have h2 : stB g.st g.at' g.L.length g.fi = true := by
    unfold stB
    by_cases e : g.st = 0
    · rw [if_pos e]
    · obtain ⟨k1, k2⟩ := h.go e
      have := h.st
      rw [if_neg e, if_pos (by omega), k2, h.L, decide_eq_true k1]
      rfl
  have := ho.ti
  have := ho.tr
  unfold gvB
  rw [h1, h2, hal, kwB_t ho.at0, decide_eq_true ho.gl, kwB_t (by omega), kwB_t (by omega)]
  rfl
theorem byB_of {L : List Nat} {b : Nat → Bool} : ∀ n, (∀ i, i < n → b i = false → nth L i = 0) → byB L b n = true := by
  intro n
  induction n with
  | zero => intro _; rfl
  | succ n ih =>
    intro h
    show (byB L b n && (b n || decide (nth L n = 0))) = true
    rw [ih (fun i hi => h i (by omega)), Bool.true_and]
    cases e : b n with
    | true => rfl
    | false => rw [Bool.false_or]; exact decide_eq_true (h n (by omega) e)
theorem smI_le (X : List Nat) : 0 ≤ smI X ∧ smI X ≤ 4294967295 := by
  unfold smI
  have := Nat.mod_lt (smT X X.length) (show 0 < 4294967296 by omega)
  omega
/-- SUCH A TAKER MAY BE -/
theorem ts_may {K : Kc} (hK : K.ok) {t : Tv} (h : TS K t) : tmB t.id t.kn t.nm t.si t.en t.la t.su (giF t.G) t.G.length t.L t.st t.ti t.pa t.tr t.li = true := by
  have hn := hK.n
  have hp := hK.pa
  have hs := hK.nm
  have hsm := smI_le K.X
  have h1 : dsE t.id t.pa t.li = 0 := by
    rw [h.id, h.pa, h.li]
    unfold dsE
    rw [ds_ok hp]
    rfl
  have hA : toA t.kn t.nm t.si = true := by
    unfold toA
    cases e : t.kn with
    | true => rw [if_pos rfl, (h.kn e).1]; exact kwB_t (by omega)
    | false => rw [if_neg (by decide), decide_eq_true (h.kf e).1, decide_eq_true (h.kf e).2]; rfl
  have hE : toE t.en t.la t.su = true := by
    unfold toE
    cases e : t.en with
    | true => rw [if_pos rfl]
    | false => rw [if_neg (by decide), decide_eq_true (h.ef e).1, decide_eq_true (h.ef e).2]; rfl
  have hsu : 0 ≤ t.su ∧ t.su ≤ 4294967295 := by
    cases e : t.en with
    | true => rw [(h.en e).2]; exact hsm
    | false => rw [(h.ef e).2]; omega
  have hB : toB t.kn t.nm t.si t.en t.la t.su = true := by
    unfold toB toC
    rw [hA, hE, kwB_t h.q.si, kwB_t h.q.la, kwB_t hsu]
    rfl
  have hle := h.le
  have hR : rsB (giF t.G) 65536 t.G.length = true := rsB_of _ h.q.ri (fun j hj => by have := h.q.ge j hj; omega)
  have hF : fiB t.L (giF t.G) t.G.length = true := by
    rw [fi_by h.q.ri, decide_eq_true h.rc, Bool.true_and]
    exact byB_of _ (fun i hi e => h.ze i hi (by rw [← cvB_list]; exact e))
  have hS : tsB t.st t.kn (haB (giF t.G) t.si t.G.length) = true := by
    unfold tsB
    rcases h.st with e | e
    · rw [if_pos (.inl e)]
    · obtain ⟨k1, k2, k3⟩ := h.ov e
      rw [if_neg (by omega), if_pos e, k1, k3]
      rfl
  have := h.ti
  have := h.tr
  have := h.li
  unfold tmB
  rw [h1, hB, hR, hF, hS, kwB_t (by omega), kwB_t (by omega)]
  rfl
/-- which notes may be -/
def Nt.may (n : Nt) : Bool := ntB n.kd n.id n.nm.size n.si n.su n.at' n.da.length n.ga.length n.o n.co (alG (giF n.ga) 65536 n.ga.length)
theorem nt_of {n : Nt} (hid : 0 ≤ n.id ∧ n.id ≤ 65535) (h1 : ptB n.kd n.nm.size n.si n.su n.at' n.da.length n.ga.length n.o n.co (alG (giF n.ga) 65536 n.ga.length) = true) (h2 : brB n.kd n.nm.size n.si n.su n.at' n.da.length n.ga.length n.o n.co = true) : n.may = true := by
  unfold Nt.may ntB
  rw [kwB_t hid, h1, h2]
  rfl
theorem e0 : (⟨#[]⟩ : ByteArray).size = 0 := rfl
theorem up_may {K : Kc} (hK : K.ok) {n : Nt} (h : UpK K n) : n.may = true := by
  have hn := hK.n
  rcases h with e | e | ⟨M, e, m1, m2, m3⟩
  · subst e; rfl
  · subst e; rfl
  · subst e
    have hal : alG (giF M) 65536 M.length = true := alG_list (fun p hp => by have := m3 p hp; omega)
    refine nt_of (by show (0 : Int) ≤ 7 ∧ (7 : Int) ≤ 65535; omega) ?_ ?_
    · show ptB 4 0 0 0 0 0 M.length 0 0 (alG (giF M) 65536 M.length) = true
      rw [hal]
      exact decide_eq_true (.inr (.inr (.inr (.inl ⟨rfl, m1, m2, rfl⟩))))
    · show brB 4 0 0 0 0 0 M.length 0 0 = true
      exact decide_eq_true ⟨.inr rfl, .inr (.inr rfl), .inr rfl, .inr rfl, .inr rfl, .inl rfl, .inr rfl, .inr rfl⟩
theorem dn_may {K : Kc} (hK : K.ok) {n : Nt} (h : DnK K n) : n.may = true := by
  have hn := hK.n
  have hs := hK.nm
  have hsm := smI_le K.X
  rcases h with e | e | e | ⟨x, y, x1, x2, e⟩
  · subst e
    refine nt_of (by show (0 : Int) ≤ 7 ∧ (7 : Int) ≤ 65535; omega) ?_ ?_
    · show ptB 1 K.nm.size (K.X.length : Int) 0 0 0 0 0 0 _ = true
      exact decide_eq_true (.inl ⟨rfl, hs.1, hs.2, by omega, by omega⟩)
    · show brB 1 K.nm.size (K.X.length : Int) 0 0 0 0 0 0 = true
      exact decide_eq_true ⟨.inl rfl, .inl rfl, .inr rfl, .inr rfl, .inr rfl, .inr rfl, .inr rfl, .inr rfl⟩
  · subst e
    refine nt_of (by show (0 : Int) ≤ 7 ∧ (7 : Int) ≤ 65535; omega) ?_ ?_
    · show ptB 3 0 (K.X.length : Int) (smI K.X) 0 0 0 0 0 _ = true
      exact decide_eq_true (.inr (.inr (.inl ⟨rfl, by omega, by omega, hsm.1, hsm.2⟩)))
    · show brB 3 0 (K.X.length : Int) (smI K.X) 0 0 0 0 0 = true
      exact decide_eq_true ⟨.inr rfl, .inr (.inl rfl), .inl rfl, .inr rfl, .inr rfl, .inr rfl, .inr rfl, .inr rfl⟩
  · subst e; rfl
  · subst e
    have hl := kP_len (K := K) x1 x2
    refine nt_of (by show (0 : Int) ≤ 7 ∧ (7 : Int) ≤ 65535; omega) ?_ ?_
    · show ptB 2 0 0 0 (x : Int) ((K.X.drop x).take (y - x)).length 0 0 0 _ = true
      rw [hl]
      exact decide_eq_true (.inr (.inl ⟨rfl, by omega, by omega, by omega, by omega, by omega⟩))
    · show brB 2 0 0 0 (x : Int) ((K.X.drop x).take (y - x)).length 0 0 0 = true
      exact decide_eq_true ⟨.inr rfl, .inr (.inr rfl), .inr rfl, .inl rfl, .inl rfl, .inr rfl, .inr rfl, .inr rfl⟩
/-- what Whole tells -/
theorem wh_ok {K : Kc} {t : Tv} (h : TS K t) : whV true t = if t.st = 3 then (K.nm, K.X, 0) else (⟨#[]⟩, [], 7) := by
  unfold whV
  rw [if_neg (by decide)]
  by_cases e : t.st = 3
  · obtain ⟨k1, k2, k3⟩ := h.ov e
    rw [if_pos e, if_pos e, (h.kn k1).1, ts_file h k1 k3, (h.kn k1).2, List.take_of_length_le (by omega)]
  · rw [if_neg e, if_neg e]
/-- the rough ticks -/
structure Ro (K : Kc) (i : Nat) (c : Cr) : Prop where
  sc : SC K c
  s0 : S0 c
  gr : c.g.tr ≤ (i : Int)
  tr : c.t.st = 0 → c.t.tr ≤ (i : Int)
  ln : c.dn.length ≤ 21 * i
  lu : c.up.length ≤ 23 * i
theorem ro_step {K : Kc} (hK : K.ok) {i : Nat} {c : Cr} (h : Ro K i c) (hi : i < 60) {p1 p2 : Nat → Nat → Nat} {q1 q2 r1 r2 : Nat → Bool} {nd nu : Nat} (h1 : nd ≤ 11) (h2 : nu ≤ 11) : Ro K (i + 1) (crT c (fun W => coL p1 q1 r1 nd 0 W []) (fun W => coL p2 q2 r2 nu 0 W [])) := by
  have hg : c.g.tr < 100 := by have := h.gr; omega
  have ht : c.t.st = 0 → c.t.tr < 100 := fun e => by have := h.tr e; omega
  have hc : ∀ (p : Nat → Nat → Nat) (q r : Nat → Bool) (n : Nat), n ≤ 11 → ∀ W, (∀ m, m ∈ (coL p q r n 0 W []).1 → m ∈ W) ∧ (∀ m, m ∈ (coL p q r n 0 W []).2 → m ∈ W) ∧ (coL p q r n 0 W []).1.length ≤ 11 ∧ (coL p q r n 0 W []).2.length ≤ W.length := fun p q r n hn W => by
    obtain ⟨k1, k2, k3, k4⟩ := co_in (pk := p) (cp := q) (lo := r) n 0 W []
    refine ⟨fun m hm => ?_, k2, ?_, k4⟩
    · rcases k1 m hm with k | k
      · cases k
      · exact k
    · have : ([] : List Nt).length = 0 := rfl
      omega
  obtain ⟨s1, s2, s3, s4, s5, s6, s7⟩ := sc_tick hK h.sc hg ht (hc p1 q1 r1 nd h1) (hc p2 q2 r2 nu h2)
  have hs0 := s0_tick hK h.sc h.s0 hg ht (cd := fun W => coL p1 q1 r1 nd 0 W []) (cu := fun W => coL p2 q2 r2 nu 0 W []) (fun W => (hc p1 q1 r1 nd h1 W).1) (fun W => ⟨(hc p2 q2 r2 nu h2 W).1, (hc p2 q2 r2 nu h2 W).2.1⟩)
  have hgr := h.gr
  have hln := h.ln
  have hlu := h.lu
  refine ⟨s1, hs0, by omega, fun e => ?_, by omega, by omega⟩
  have e1 : c.t.st = 0 := by
    rcases h.sc.t.st with k | k
    · exact k
    · have := s5 k; omega
  have := s3 e
  have := h.tr e1
  omega
theorem ro_dr {K : Kc} {i : Nat} {c : Cr} (h : Ro K i c) (hi : i ≤ 60) : Dr K 0 c := by
  have hln := h.ln
  have hlu := h.lu
  have hgr := h.gr
  have := wD_len c.dn
  refine ⟨h.sc, h.s0, by omega, fun e => by have := h.tr e; omega, by omega, .inl ?_, fun k => by omega, fun k => by omega⟩
  unfold wC
  omega
/-- the beginning -/
def g00 (K : Kc) : Gv := ⟨7, K.nm, K.mo, K.bu, 0, true, 0, 0, K.pa, 0, 100, K.X, []⟩
def t00 (K : Kc) : Tv := ⟨7, false, ⟨#[]⟩, 0, false, 0, 0, 0, 0, K.pa, 0, 100, [], []⟩
theorem ro_zero {K : Kc} (hK : K.ok) : Ro K 0 ⟨g00 K, t00 K, [], []⟩ := by
  have hn := hK.n
  have hp := hK.pa
  refine ⟨⟨?_, ?_, (fun _ k => by cases k.1), (fun k => by cases k), fun k => by have k : (0 : Int) = 3 := k; omega, (fun n hn => by cases hn), (fun n hn => by cases hn)⟩, fun _ => ⟨rfl, rfl⟩, Int.le_refl _, fun _ => Int.le_refl _, Nat.le_refl _, Nat.le_refl _⟩
  · refine ⟨rfl, rfl, rfl, rfl, rfl, rfl, rfl, ⟨hK.mo, by show K.X.length ≤ 65536; omega, ⟨Int.le_refl _, by show (0 : Int) ≤ (K.X.length : Int); omega⟩, (fun p hp => by cases hp), Nat.zero_le _, ⟨Int.le_refl _, by show (0 : Int) < K.pa; omega, by show K.pa ≤ 1000; omega⟩, ⟨Int.le_refl _, by show (0 : Int) ≤ 100; omega, by show (100 : Int) ≤ 1000000; omega⟩⟩, .inl rfl, fun k => absurd rfl k⟩
  · refine ⟨rfl, rfl, rfl, ⟨(fun j hj => by cases hj), Nat.zero_le _, (fun j hj => by cases hj), Nat.zero_le _, ⟨Int.le_refl _, by show (0 : Int) ≤ 65536; omega⟩, ⟨Int.le_refl _, by show (0 : Int) ≤ 65536; omega⟩⟩, rfl, (fun k => by cases k), fun _ => ⟨rfl, rfl⟩, (fun k => by cases k), fun _ => ⟨rfl, rfl⟩, (fun i hi => by cases hi), (fun i hi => by cases hi), Nat.zero_le _, ⟨Int.le_refl _, by show (0 : Int) < K.pa; omega⟩, ⟨Int.le_refl _, by show (0 : Int) ≤ 100; omega⟩, .inl rfl, fun k => by have k : (0 : Int) = 3 := k; omega⟩
end

section
theorem gpF_at {M : List (Int × Int)} {i : Nat} (hi : i < M.length) (h : 0 ≤ (giF M i).1 ∧ 0 ≤ (giF M i).2) : gpF ((List.range M.length).map (fun j => ((giF M j).1.toNat, (giF M j).2.toNat))) i = giF M i := by
  unfold gpF
  rw [List.getD_eq_getElem?_getD, List.getElem?_map, List.getElem?_range hi]
  show ((((giF M i).1.toNat : Nat) : Int), (((giF M i).2.toNat : Nat) : Int)) = giF M i
  rw [Int.toNat_of_nonneg h.1, Int.toNat_of_nonneg h.2]
/-- WHAT IS ENCODED IS DECODED -/
theorem dec_rt {kd id : Nat} {nm : ByteArray} {si su at' : Nat} {D : List Nat} {M : List (Int × Int)} {o co : Nat} (hm : ntB kd id nm.size si su at' D.length M.length o co (alG (giF M) 65536 M.length) = true) :
    decN (ntL kd id nm si su at' D (giF M) M.length o co) = some ⟨kd, id, strL nm, si, su, at', D, (List.range M.length).map (fun j => ((giF M j).1.toNat, (giF M j).2.toNat)), o, co⟩ := by
  have hr := note_rt hm
  have hm2 := hm
  unfold ntB ptB brB at hm2
  simp only [Bool.and_eq_true, decide_eq_true_eq] at hm2
  obtain ⟨⟨h1, h2⟩, h3⟩ := hm2
  have hlen : (ntL kd id nm si su at' D (giF M) M.length o co).length ≤ 1031 := by
    unfold ntL ntT
    rw [List.length_append, List.length_append, beL_len, beL_len]
    split
    · rw [List.length_append, beL_len, strL_len]; omega
    · split
      · rw [List.length_append, beL_len]; omega
      · split
        · rw [List.length_append, beL_len, beL_len]; omega
        · split
          · rw [gpL_len]; omega
          · split
            · rw [beL_len]; omega
            · rw [beL_len]; omega
  have hrd : rdN (ntL kd id nm si su at' D (giF M) M.length o co) = some ⟨kd, id, strL nm, si, su, at', D, (List.range M.length).map (fun j => ((giF M j).1.toNat, (giF M j).2.toNat)), o, co⟩ := by
    unfold rdN
    rw [if_neg (by omega), hr]
  unfold decN
  rw [hrd]
  dsimp only
  refine if_pos ?_
  unfold mayN
  dsimp only
  rw [strL_len, List.length_map, List.length_range]
  have hal : alG (gpF ((List.range M.length).map (fun j => ((giF M j).1.toNat, (giF M j).2.toNat)))) 65536 M.length = alG (giF M) 65536 M.length := by
    rcases h2 with h | h | h | h | h | h
    case inr.inr.inr.inl =>
      rw [h.2.2.2]
      refine alG_of _ (fun j hj => ?_)
      have := alG_at h.2.2.2 hj
      rw [gpF_at hj (by omega)]
      exact this
    all_goals
      have hM : M = [] := List.eq_nil_of_length_eq_zero (by omega)
      subst hM
      rfl
  rw [hal]
  exact hm
end

section
/-- a note that may be, none of whose numbers is below nought -/
structure NtQ (n : Nt) : Prop where
  may : n.may = true
  kd : 0 ≤ n.kd
  id : 0 ≤ n.id
  si : 0 ≤ n.si
  su : 0 ≤ n.su
  at' : 0 ≤ n.at'
  o : 0 ≤ n.o
  co : 0 ≤ n.co
  ga : ∀ i, i < n.ga.length → 0 ≤ (giF n.ga i).1 ∧ 0 ≤ (giF n.ga i).2
theorem dn_q {K : Kc} (hK : K.ok) {n : Nt} (h : DnK K n) : NtQ n := by
  have hm := dn_may hK h
  have hs := (smI_le K.X).1
  rcases h with rfl | rfl | rfl | ⟨x, e, h1, h2, rfl⟩
  · exact ⟨hm, by show (0 : Int) ≤ 1; omega, by show (0 : Int) ≤ 7; omega, by show (0 : Int) ≤ (K.X.length : Int); omega, Int.le_refl _, Int.le_refl _, Int.le_refl _, Int.le_refl _, fun i hi => absurd hi (Nat.not_lt_zero _)⟩
  · exact ⟨hm, by show (0 : Int) ≤ 3; omega, by show (0 : Int) ≤ 7; omega, by show (0 : Int) ≤ (K.X.length : Int); omega, hs, Int.le_refl _, Int.le_refl _, Int.le_refl _, fun i hi => absurd hi (Nat.not_lt_zero _)⟩
  · exact ⟨hm, by decide, by decide, by decide, by decide, by decide, by decide, by decide, fun i hi => absurd hi (Nat.not_lt_zero _)⟩
  · exact ⟨hm, by show (0 : Int) ≤ 2; omega, by show (0 : Int) ≤ 7; omega, Int.le_refl _, Int.le_refl _, by show (0 : Int) ≤ (x : Int); omega, Int.le_refl _, Int.le_refl _, fun i hi => absurd hi (Nat.not_lt_zero _)⟩
theorem up_q {K : Kc} (hK : K.ok) {n : Nt} (h : UpK K n) : NtQ n := by
  have hm := up_may hK h
  rcases h with rfl | rfl | ⟨M, rfl, h1, h2, h3⟩
  · exact ⟨hm, by decide, by decide, by decide, by decide, by decide, by decide, by decide, fun i hi => absurd hi (Nat.not_lt_zero _)⟩
  · exact ⟨hm, by decide, by decide, by decide, by decide, by decide, by decide, by decide, fun i hi => absurd hi (Nat.not_lt_zero _)⟩
  · refine ⟨hm, by show (0 : Int) ≤ 4; omega, by show (0 : Int) ≤ 7; omega, Int.le_refl _, Int.le_refl _, Int.le_refl _, Int.le_refl _, Int.le_refl _, fun i hi => ?_⟩
    have hi : i < M.length := hi
    show 0 ≤ (giF M i).1 ∧ 0 ≤ (giF M i).2
    rw [giF_at hi]
    rcases h3 _ (List.getElem_mem hi) with h | h <;> omega
/-- a note's bytes -/
def enT (n : Nt) : List Nat := ntL n.kd.toNat n.id.toNat n.nm n.si.toNat n.su.toNat n.at'.toNat n.da (giF n.ga) n.ga.length n.o.toNat n.co.toNat
theorem encQ_any (x : Nx) (w : World) (hq : NtQ x.dt) (hL : Rd w x.a x.da.length x.c x.da) (hF : RdG w x.q x.ga.length x.d (giF x.ga)) :
    Calls Try.prog 13 #[.agg x.arr] w fun e w' => ∃ a' l' c', e = .returned (.tuple #[.slice a' l' c', .int .i64 0]) ∧ Ans w' w.heap.size a' l' c' (enT x.dt) ∧ w.grownBy w' none := by
  obtain ⟨q0, q1, q2, q3, q4, q5, q6, q7, _⟩ := hq
  have e1 : ((x.kd.toNat : Nat) : Int) = x.kd := Int.toNat_of_nonneg q1
  have e2 : ((x.id.toNat : Nat) : Int) = x.id := Int.toNat_of_nonneg q2
  have e3 : ((x.si.toNat : Nat) : Int) = x.si := Int.toNat_of_nonneg q3
  have e4 : ((x.su.toNat : Nat) : Int) = x.su := Int.toNat_of_nonneg q4
  have e5 : ((x.at'.toNat : Nat) : Int) = x.at' := Int.toNat_of_nonneg q5
  have e6 : ((x.o.toNat : Nat) : Int) = x.o := Int.toNat_of_nonneg q6
  have e7 : ((x.co.toNat : Nat) : Int) = x.co := Int.toNat_of_nonneg q7
  have h := encode_ok x.kd.toNat x.id.toNat x.nm x.si.toNat x.su.toNat x.at'.toNat x.o.toNat x.co.toNat x.a x.q x.da.length x.c x.ga.length x.d x.da (giF x.ga) w hL hF (by rw [e1, e2, e3, e4, e5, e6, e7]; exact q0)
  rw [e1, e2, e3, e4, e5, e6, e7] at h
  exact h
theorem flG_same {F F' : Nat → Int × Int} : ∀ n, (∀ i, i < n → F i = F' i) → flG F n = flG F' n := by
  intro n
  induction n with
  | zero => intro _; rfl
  | succ n ih =>
    intro h
    show flG F n ++ _ = flG F' n ++ _
    rw [ih (fun i hi => h i (by omega)), h n (by omega)]
theorem decQ_any (n : Nt) (hq : NtQ n) (a : Option Addr) (l c : Nat) (w : World) (hD : Rd w a l c (enT n)) :
    Calls Try.prog 18 #[.slice a l c] w fun e w' => ∃ x : Nx, x.dt = n ∧ e = .returned (.tuple #[.agg x.arr, .int .i64 0]) ∧ Ans w' w.heap.size x.a x.da.length x.c x.da ∧ OwGi w' w.heap.size x.q x.ga.length x.d x.ga ∧ w.grownBy w' none := by
  obtain ⟨q0, q1, q2, q3, q4, q5, q6, q7, q8⟩ := hq
  have e1 : ((n.kd.toNat : Nat) : Int) = n.kd := Int.toNat_of_nonneg q1
  have e2 : ((n.id.toNat : Nat) : Int) = n.id := Int.toNat_of_nonneg q2
  have e3 : ((n.si.toNat : Nat) : Int) = n.si := Int.toNat_of_nonneg q3
  have e4 : ((n.su.toNat : Nat) : Int) = n.su := Int.toNat_of_nonneg q4
  have e5 : ((n.at'.toNat : Nat) : Int) = n.at' := Int.toNat_of_nonneg q5
  have e6 : ((n.o.toNat : Nat) : Int) = n.o := Int.toNat_of_nonneg q6
  have e7 : ((n.co.toNat : Nat) : Int) = n.co := Int.toNat_of_nonneg q7
  refine (decode_any a l c _ w hD).mono ?_
  rintro e w' ⟨h, g⟩
  have hd := dec_rt (kd := n.kd.toNat) (id := n.id.toNat) (nm := n.nm) (si := n.si.toNat) (su := n.su.toNat) (at' := n.at'.toNat) (D := n.da) (M := n.ga) (o := n.o.toNat) (co := n.co.toNat) (by rw [e1, e2, e3, e4, e5, e6, e7]; exact q0)
  have hd : decN (enT n) = _ := hd
  rw [hd] at h
  obtain ⟨v, rfl, a1, n1, c1, q1, m1, d1, rfl, hA, hO⟩ := h
  dsimp only at hA hO ⊢
  have hl := hA.len
  have hm := hO.len
  rw [List.length_map, List.length_range] at hm
  subst hl hm
  refine ⟨⟨n.kd, n.id, n.nm, n.si, n.su, n.at', n.da, n.ga, n.o, n.co, a1, c1, q1, d1⟩, rfl, ?_, hA, ⟨?_, rfl, hO.new⟩, g⟩
  · rw [e1, e2, e3, e4, e5, e6, e7, str_rt]; rfl
  · have := hO.own
    rw [flG_same _ (fun i hi => gpF_at hi (q8 i hi))] at this
    exact this
end

section
theorem OwN.ten {w : World} {lo g n c : Nat} {xs : List Nx} (h : OwN w lo (some ⟨g, 0, none⟩) n c xs) {i : Nat} {x : Nx} (hi : xs[i]? = some x) : w.rangeAt g (i * 10) [.int .i64 x.kd, .int .i64 x.id, .string x.nm, .int .i64 x.si, .int .i64 x.su, .int .i64 x.at', .slice x.a x.da.length x.c, .slice x.q x.ga.length x.d, .int .i64 x.o, .int .i64 x.co] := by
  intro j v hv
  have hj : j < 10 := (List.getElem?_eq_some_iff.1 hv).1
  rw [h.cell hi j hj]
  exact hv
theorem OwN.tens {w : World} {lo g n c : Nat} {xs : List Nx} (h : OwN w lo (some ⟨g, 0, none⟩) n c xs) {i : Nat} {x : Nx} (hi : xs[i]? = some x) : w.cell? ⟨g, i * 10, none⟩ = some (.int .i64 x.kd) ∧ w.cell? ⟨g, i * 10 + 1, none⟩ = some (.int .i64 x.id) ∧ w.cell? ⟨g, i * 10 + 2, none⟩ = some (.string x.nm) ∧ w.cell? ⟨g, i * 10 + 3, none⟩ = some (.int .i64 x.si) ∧ w.cell? ⟨g, i * 10 + 4, none⟩ = some (.int .i64 x.su) ∧ w.cell? ⟨g, i * 10 + 5, none⟩ = some (.int .i64 x.at') ∧ w.cell? ⟨g, i * 10 + 6, none⟩ = some (.slice x.a x.da.length x.c) ∧ w.cell? ⟨g, i * 10 + 7, none⟩ = some (.slice x.q x.ga.length x.d) ∧ w.cell? ⟨g, i * 10 + 8, none⟩ = some (.int .i64 x.o) ∧ w.cell? ⟨g, i * 10 + 9, none⟩ = some (.int .i64 x.co) :=
  ⟨h.cell hi 0 (by decide), h.cell hi 1 (by decide), h.cell hi 2 (by decide), h.cell hi 3 (by decide), h.cell hi 4 (by decide), h.cell hi 5 (by decide), h.cell hi 6 (by decide), h.cell hi 7 (by decide), h.cell hi 8 (by decide), h.cell hi 9 (by decide)⟩
set_option maxHeartbeats 16000000 in
/-- notes go on their way -/
theorem sends_any (lo lo2 : Nat) (a : Option Addr) (n c : Nat) (rs : List Rw) (na : Option Addr) (nn nc : Nat) (xs : List Nx) (w : World) (hW : WyM w lo a n c rs) (hN : OwN w lo2 na nn nc xs) (hlo : lo ≤ w.heap.size) (hq : ∀ x, x ∈ xs → NtQ x.dt) (hn : n + nn ≤ 100000) :
    Calls Try.prog 81 #[.slice a n c, .slice na nn nc] w fun e w' => ∃ a' c' qs, e = .returned (.tuple #[.slice a' (n + nn) c', .bool true]) ∧ WyM w' lo a' (n + nn) c' (rs ++ qs) ∧ qs.map Rw.D = xs.map (fun x => enT x.dt) ∧ w.grownBy w' (Value.slice a n c).ownBlock ∧ (∀ z, (Value.slice a' (n + nn) c').ownBlock = some z → (Value.slice a n c).ownBlock = some z ∨ w.heap.size ≤ z) := by
  have LX : Hid _ := hN.len
  have HQ : Hid _ := hq
  clear hq
  go_enter Try.func81, Try.ntmps81
  go_wp2
  go_loopw [0, 6] (fun v0 iv wr => ∃ (j : Nat) (a1 : Option Addr) (c1 : Nat) (qs : List Rw), j ≤ nn ∧ iv = .int .i64 j ∧ v0 = .slice a1 (n + j) c1 ∧ WyM wr lo a1 (n + j) c1 (rs ++ qs) ∧ qs.map Rw.D = (xs.take j).map (fun x => enT x.dt) ∧ w.grownBy wr (Value.slice a n c).ownBlock ∧ (∀ z, (Value.slice a1 (n + j) c1).ownBlock = some z → (Value.slice a n c).ownBlock = some z ∨ w.heap.size ≤ z)) (fun v0 iv _ => nn - (intOf iv).toNat)
  case atStart => exact ⟨0, a, c, [], Nat.zero_le _, rfl, rfl, by rw [List.append_nil]; exact hW, rfl, World.grownBy.refl _ _, fun z e => .inl e⟩
  case round =>
    obtain ⟨j, a1, c1, qs, hj, rfl, rfl, hWr, hD, Gr, hZ⟩ := hrel
    have HD : Hid _ := hD
    have HZ : Hid _ := hZ
    clear hD hZ
    have hNr : OwN wr lo2 na nn nc xs := hW.own' Gr hN
    have hsz := Gr.size
    by_cases hlt : j < nn
    · have lj : (j : Int) < (nn : Int) := by omega
      obtain ⟨x, hxj⟩ : ∃ x, xs[j]? = some x := ⟨xs[j]'(by have := LX.out; omega), List.getElem?_eq_getElem _⟩
      have hxm := List.mem_of_getElem? hxj
      obtain ⟨g, hg⟩ := hNr.someN (by omega)
      subst hg
      have HE := encQ_any x wr (HQ.out x hxm) (hNr.eA x hxm).rd (hNr.eO x hxm).rd
      obtain ⟨t0, t1, t2, t3, t4, t5, t6, t7, t8, t9⟩ := hNr.tens hxj
      have HXJ : Hid _ := hxj
      clear hxj
      go_wp2_with (first
        | (go_at_call 13; refine HE.mono ?_; rintro e w3 ⟨ab, lb, cb, rfl, hAb, g3⟩; have hW3 := hWr.keep g3; have G4 := World.grownBy_alloc w3 (.cells #[.slice ab lb cb] 23) none; have b4 := BxS.new w3 23 #[.slice ab lb cb]; have hW4 := hW3.keep G4; have hA4 := (hAb.wide (Nat.le_trans hlo hsz)).keep G4; have hs3 := g3.size; have hs4 := G4.size)
        | (at_builtin; refine wpList_psY rfl _ _ rfl rfl hW4 (Nat.le_trans hlo (Nat.le_trans hsz (Nat.le_trans hs3 hs4))) w3.heap.size ⟨ab, lb, cb, enT x.dt⟩ rfl b4 hA4 (by omega) ?_; intro a5 c5 w5 hW5 u5 z5))
      go_roundw
      case rel =>
        refine ⟨j + 1, a5, c5, qs ++ [⟨ab, lb, cb, enT x.dt⟩], by omega, by go_num, rfl, by rw [← List.append_assoc]; exact hW5, ?_, ?_, ?_⟩
        · rw [List.map_append, HD.out, List.take_add_one, HXJ.out, List.map_append]; rfl
        · exact grown_mine Gr (grown_trans (grown_weak (grown_trans g3 G4) _) u5) (fun z e => HZ.out z e)
        · intro z e
          rcases z5 z e with h | h
          · exact HZ.out z h
          · exact .inr (by omega)
      case measure => simp [intOf] <;> omega
    · obtain rfl : j = nn := by omega
      have lj : ¬ (j : Int) < (j : Int) := by omega
      go_wp2
      go_ret2
      have h9 : xs.take j = xs := by rw [List.take_of_length_le]; have := LX.out; omega
      first
        | exact ⟨a1, c1, rfl, qs, hWr, by rw [HD.out, h9], Gr, HZ.out⟩
        | exact ⟨a1, c1, qs, rfl, hWr, by rw [HD.out, h9], Gr, HZ.out⟩
end

section
/-- between two ticks, n of which are rough -/
structure PH (K : Kc) (n i : Nat) (c : Cr) : Prop where
  p : (i ≤ n ∧ Ro K i c) ∨ (∃ q, q ≤ 11 ∧ i = n + q ∧ Dr K q c ∧ (2 ≤ q → c.g.st ≠ 3)) ∨ (∃ q, 11 ≤ q ∧ i = n + q ∧ c.g.st ≠ 3 ∧ Sd K c ∧ Qp K c + q ≤ 122611)
theorem ph_zero {K : Kc} (hK : K.ok) (n : Nat) : PH K n 0 ⟨g00 K, t00 K, [], []⟩ := ⟨.inl ⟨Nat.zero_le _, ro_zero hK⟩⟩
theorem ph_end {K : Kc} {n : Nat} {c : Cr} (h : PH K n (n + 130000) c) : False := by
  rcases h.p with ⟨h1, _⟩ | ⟨q, h1, h2, _⟩ | ⟨q, h1, h2, _, _, h3⟩ <;> omega
/-- what holds of all of them -/
structure PO (K : Kc) (c : Cr) : Prop where
  sc : SC K c
  g : c.g.tr < 100
  t : c.t.st = 0 → c.t.tr < 100
  dn : c.dn.length ≤ 5000
  up : c.up.length ≤ 5000
theorem ph_po {K : Kc} {n i : Nat} {c : Cr} (hn : n ≤ 60) (h : PH K n i c) : PO K c := by
  rcases h.p with ⟨h1, h2⟩ | ⟨q, h1, h2, h3, _⟩ | ⟨q, h1, h2, h3, h4, h5⟩
  · have a1 := h2.gr
    have a2 := h2.tr
    have a3 := h2.ln
    have a4 := h2.lu
    exact ⟨h2.sc, by omega, fun e => by have := a2 e; omega, by omega, by omega⟩
  · have a1 := h3.gr
    have a2 := h3.tr
    have a3 := h3.ln
    have a4 := h3.w
    unfold wC at a4
    exact ⟨h3.sc, by omega, fun e => by have := a2 e; omega, by omega, by omega⟩
  · have a1 := h4.gr
    have a3 := h4.cl.ln
    have a4 := h4.cl.up
    exact ⟨h4.sc, by omega, fun e => h4.tr e, by omega, by rw [a4]; exact Nat.zero_le _⟩
/-- a rough tick -/
theorem ph_rough {K : Kc} (hK : K.ok) {n i : Nat} {c : Cr} (hn : n ≤ 60) (h : PH K n i c) (hi : i < n) {p1 p2 : Nat → Nat → Nat} {q1 q2 r1 r2 : Nat → Bool} {nd nu : Nat} (h1 : nd ≤ 11) (h2 : nu ≤ 11) :
    PH K n (i + 1) (crT c (fun W => coL p1 q1 r1 nd 0 W []) (fun W => coL p2 q2 r2 nu 0 W [])) ∧ (crT c (fun W => coL p1 q1 r1 nd 0 W []) (fun W => coL p2 q2 r2 nu 0 W [])).dn.length < 5000 := by
  rcases h.p with ⟨h3, h4⟩ | ⟨q, h3, h4, _⟩ | ⟨q, h3, h4, _⟩
  · have h5 := ro_step hK (p1 := p1) (p2 := p2) (q1 := q1) (q2 := q2) (r1 := r1) (r2 := r2) h4 (by omega) h1 h2
    have h6 := h5.ln
    exact ⟨⟨.inl ⟨by omega, h5⟩⟩, by omega⟩
  · omega
  · omega
/-- a quiet tick -/
theorem ph_quiet {K : Kc} (hK : K.ok) {n i : Nat} {c : Cr} (hn : n ≤ 60) (h : PH K n i c) (hi : n ≤ i) :
    (crQ c).dn.length < 5000 ∧ SC K (crQ c) ∧ ((n < i ∧ (crQ c).g.st = 3) ∨ PH K n (i + 1) (crQ c)) := by
  have hp := ph_po hn h
  have hs := (sc_tick hK hp.sc hp.g hp.t (cd := cq) (cu := cq) (nd := 1000) (nu := 1000) cq_ok cq_ok)
  have hsc : SC K (crQ c) := hs.1
  have sd : ∀ q, 11 ≤ q → i = n + q → c.g.st ≠ 3 → Sd K c → Qp K c + q ≤ 122611 → (crQ c).dn.length < 5000 ∧ SC K (crQ c) ∧ ((n < i ∧ (crQ c).g.st = 3) ∨ PH K n (i + 1) (crQ c)) := by
    intro q a1 a2 a3 a4 a5
    have hl : (crQ c).dn.length ≤ c.dn.length + 10 + 1000 := hs.2.2.2.2.2.1
    have hc := a4.cl.ln
    refine ⟨by omega, hsc, ?_⟩
    by_cases h3 : (crQ c).g.st = 3
    · exact .inl ⟨by omega, h3⟩
    · rcases sd_step hK a4 a3 with h4 | ⟨h4, h5⟩
      · exact absurd h4 h3
      · exact .inr ⟨.inr (.inr ⟨q + 1, by omega, by omega, h3, h4, by omega⟩)⟩
  have dr : ∀ q, q ≤ 11 → i = n + q → Dr K q c → (2 ≤ q → c.g.st ≠ 3) → (crQ c).dn.length < 5000 ∧ SC K (crQ c) ∧ ((n < i ∧ (crQ c).g.st = 3) ∨ PH K n (i + 1) (crQ c)) := by
    intro q a1 a2 a3 a4
    by_cases hq : q ≤ 10
    · have h5 := dr_step hK a3 hq
      have h6 := h5.ln
      refine ⟨by omega, hsc, ?_⟩
      by_cases h3 : n < i ∧ (crQ c).g.st = 3
      · exact .inl h3
      · exact .inr ⟨.inr (.inl ⟨q + 1, by omega, by omega, h5, fun k e => h3 ⟨by omega, e⟩⟩)⟩
    · obtain rfl : q = 11 := by omega
      obtain ⟨b1, b2⟩ := dr_sd hK a3
      exact sd 11 (Nat.le_refl _) a2 (a4 (by omega)) b1 (by omega)
  rcases h.p with ⟨h3, h4⟩ | ⟨q, h3, h4, h5, h6⟩ | ⟨q, h3, h4, h5, h6, h7⟩
  · exact dr 0 (by omega) (by omega) (ro_dr h4 (by omega)) (fun k => by omega)
  · exact dr q h3 h4 h5 h6
  · exact sd q h3 h4 h5 h6 h7
theorem taF_snoc : ∀ (l : List Nt) (t : Tv) (up : List Nt) (n : Nt), taF t up (l ++ [n]) = ((taN (taF t up l).1 n).1, (taF t up l).2 ++ (taN (taF t up l).1 n).2) := by
  intro l
  induction l with
  | nil => intro t up n; rfl
  | cons x l ih => intro t up n; exact ih _ _ n
theorem reF_snoc : ∀ (l : List Nt) (g : Gv) (dn : List Nt) (n : Nt), reF g dn (l ++ [n]) = ((reN (reF g dn l).1 n).1, (reF g dn l).2 ++ (reN (reF g dn l).1 n).2) := by
  intro l
  induction l with
  | nil => intro g dn n; rfl
  | cons x l ih => intro g dn n; exact ih _ _ n
theorem taF_take {t : Tv} {up l : List Nt} {j : Nat} {n : Nt} (h : l[j]? = some n) : taF t up (l.take (j + 1)) = ((taN (taF t up (l.take j)).1 n).1, (taF t up (l.take j)).2 ++ (taN (taF t up (l.take j)).1 n).2) := by
  rw [List.take_add_one, h]; exact taF_snoc _ _ _ _
theorem reF_take {g : Gv} {dn l : List Nt} {j : Nat} {n : Nt} (h : l[j]? = some n) : reF g dn (l.take (j + 1)) = ((reN (reF g dn (l.take j)).1 n).1, (reF g dn (l.take j)).2 ++ (reN (reF g dn (l.take j)).1 n).2) := by
  rw [List.take_add_one, h]; exact reF_snoc _ _ _ _
/-- what a tick goes through -/
structure TK9 (K : Kc) (c : Cr) (d u : List Nt × List Nt) : Prop where
  g1 : GS K (tiG c.g).1
  t1 : TS K (tiT c.t).1
  og : ∀ n, n ∈ (tiG c.g).2 → DnK K n
  ot : ∀ n, n ∈ (tiT c.t).2 → UpK K n
  lg : (tiG c.g).2.length ≤ 10
  lt : (tiT c.t).2.length ≤ 1
  dn : ∀ n, n ∈ c.dn ++ (tiG c.g).2 → DnK K n
  up : ∀ n, n ∈ c.up ++ (tiT c.t).2 → UpK K n
  d1 : ∀ n, n ∈ d.1 → DnK K n
  d2 : ∀ n, n ∈ d.2 → DnK K n
  ta : ∀ j, TS K (taF (tiT c.t).1 (c.up ++ (tiT c.t).2) (d.1.take j)).1 ∧ (∀ n, n ∈ (taF (tiT c.t).1 (c.up ++ (tiT c.t).2) (d.1.take j)).2 → UpK K n) ∧ (taF (tiT c.t).1 (c.up ++ (tiT c.t).2) (d.1.take j)).2.length ≤ c.up.length + 1 + 2 * d.1.length
  u1 : ∀ n, n ∈ u.1 → UpK K n
  u2 : ∀ n, n ∈ u.2 → UpK K n
  re : ∀ j, GS K (reF (tiG c.g).1 d.2 (u.1.take j)).1 ∧ (∀ n, n ∈ (reF (tiG c.g).1 d.2 (u.1.take j)).2 → DnK K n) ∧ (reF (tiG c.g).1 d.2 (u.1.take j)).2.length ≤ d.2.length + u.1.length
theorem tk_nine {K : Kc} (hK : K.ok) {c : Cr} (h : SC K c) (hg : c.g.tr < 100) (ht : c.t.st = 0 → c.t.tr < 100) {d u : List Nt × List Nt}
    (hd : (∀ n, n ∈ d.1 → n ∈ c.dn ++ (tiG c.g).2) ∧ (∀ n, n ∈ d.2 → n ∈ c.dn ++ (tiG c.g).2)) (hu : (∀ n, n ∈ u.1 → n ∈ (taF (tiT c.t).1 (c.up ++ (tiT c.t).2) d.1).2) ∧ (∀ n, n ∈ u.2 → n ∈ (taF (tiT c.t).1 (c.up ++ (tiT c.t).2) d.1).2)) : TK9 K c d u := by
  obtain ⟨a1, a2, a3, a4, a5, a6⟩ := gs_ti h.g hg
  obtain ⟨b1, b2, b3, b4, b5, b6, b7, b8, b9⟩ := ts_ti h.t ht
  have hgs : c.g.st ≠ 0 → (tiG c.g).1.st ≠ 0 := fun e => by rw [a5 e]; exact e
  have hsi : (tiT c.t).1.si = c.t.si := by
    unfold tiT
    split
    · split
      · split <;> rfl
      · rfl
    · split
      · split <;> rfl
      · rfl
  have hD : DnS K ((tiG c.g).1.st ≠ 0) ((tiT c.t).1.st = 3) (c.dn ++ (tiG c.g).2) := by
    refine (h.dn.mono hgs (fun e => by rw [b3]; exact e)).app (fun n hn => ⟨(a2 n hn).1, (a2 n hn).2, fun e => ?_⟩)
    exact absurd e (ti_kd h.g n hn)
  have hU : UpS K ((tiT c.t).1.st = 3) (c.up ++ (tiT c.t).2) := (h.up.mono (fun e => by rw [b3]; exact e)).app b2
  obtain ⟨d1, d2⟩ := hd
  obtain ⟨u1, u2⟩ := hu
  have hT : ∀ l : List Nt, (∀ n, n ∈ l → n ∈ d.1) → _ := fun l hl => taF_ok hK (P := (tiG c.g).1.st ≠ 0) l (tiT c.t).1 (c.up ++ (tiT c.t).2) b1 (fun e => by
      rw [b6, b7, b8, hsi]; exact h.nj (by rw [← b3]; exact e)) (fun e => hgs (h.en (by rw [← b7]; exact e))) (fun n hn => hD n (d1 n (hl n hn))) hU
  obtain ⟨r1, r2, r3, r4, r5, r6, r7⟩ := hT d.1 (fun n hn => hn)
  have hR : ∀ l : List Nt, (∀ n, n ∈ l → n ∈ u.1) → _ := fun l hl => reF_ok (Q := (taF (tiT c.t).1 (c.up ++ (tiT c.t).2) d.1).1.st = 3) l (tiG c.g).1 d.2 a1 (fun e => r5 (by rw [b3]; exact h.ov (a3.1 e))) (fun n hn => r4 n (u1 n (hl n hn))) (fun n hn => ⟨(hD n (d2 n hn)).1, (hD n (d2 n hn)).2.1, fun e => r5 ((hD n (d2 n hn)).2.2 e)⟩)
  have hbu := hK.bu
  have hgb := h.g.bu
  refine ⟨a1, b1, fun n hn => (a2 n hn).1, fun n hn => (b2 n hn).1, by omega, b5, fun n hn => (hD n hn).1, fun n hn => (hU n hn).1, fun n hn => (hD n (d1 n hn)).1, fun n hn => (hD n (d2 n hn)).1, fun j => ?_, fun n hn => (r4 n (u1 n hn)).1, fun n hn => (r4 n (u2 n hn)).1, fun j => ?_⟩
  · obtain ⟨k1, _, _, k4, _, k6, _⟩ := hT (d.1.take j) (fun n hn => List.mem_of_mem_take hn)
    refine ⟨k1, fun n hn => (k4 n hn).1, ?_⟩
    rw [List.length_append, List.length_take] at k6
    omega
  · obtain ⟨k1, _, k3, _, k5, _⟩ := hR (u.1.take j) (fun n hn => List.mem_of_mem_take hn)
    refine ⟨k1, fun n hn => (k3 n hn).1, ?_⟩
    rw [List.length_take] at k5
    omega
end
end Go.Proofs.Ytnimehkfnpepfaa
