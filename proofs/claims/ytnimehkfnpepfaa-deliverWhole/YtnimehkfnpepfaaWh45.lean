import Derived.Test.YtnimehkfnpepfaaWh44
namespace Go.Proofs.Ytnimehkfnpepfaa
open Go.RowKit
set_option maxRecDepth 100000
set_option linter.unusedVariables false
set_option linter.unusedSimpArgs false

section
/-- what a row of notes weighs -/
def wD : List Nt → Nat
  | [] => 0
  | n :: l => (if n.kd = 6 then 1 else 5) + wD l
theorem wD_app : ∀ l m : List Nt, wD (l ++ m) = wD l + wD m := by
  intro l
  induction l with
  | nil => intro m; show wD m = 0 + wD m; omega
  | cons n l ih => intro m; show (if n.kd = 6 then 1 else 5) + wD (l ++ m) = (if n.kd = 6 then 1 else 5) + wD l + wD m; rw [ih]; omega
theorem wD_len : ∀ l : List Nt, l.length ≤ wD l ∧ wD l ≤ 5 * l.length := by
  intro l
  induction l with
  | nil => exact ⟨Nat.le_refl _, Nat.le_refl _⟩
  | cons n l ih =>
    show l.length + 1 ≤ (if n.kd = 6 then 1 else 5) + wD l ∧ (if n.kd = 6 then 1 else 5) + wD l ≤ 5 * (l.length + 1)
    split <;> omega
theorem wD_seen : ∀ l : List Nt, (∀ n, n ∈ l → n = kS) → wD l = l.length := by
  intro l
  induction l with
  | nil => intro _; rfl
  | cons n l ih =>
    intro h
    show (if n.kd = 6 then 1 else 5) + wD l = l.length + 1
    rw [if_pos (by rw [h n (List.mem_cons_self ..)]; rfl), ih (fun m hm => h m (List.mem_cons_of_mem _ hm))]
    omega
theorem taF_w {K : Kc} (hK : K.ok) {P : Prop} : ∀ (l : List Nt) (t : Tv) (up : List Nt), TS K t → DnS K P (t.st = 3) l → 2 * (taF t up l).2.length + l.length ≤ 2 * up.length + wD l := by
  intro l
  induction l with
  | nil => intro t up _ _; show 2 * up.length + 0 ≤ 2 * up.length + 0; omega
  | cons n l ih =>
    intro t up h hl
    obtain ⟨n1, n2, n3⟩ := hl n (List.mem_cons_self ..)
    have a := ts_ta hK h n1
    have r := ih (taN t n).1 (up ++ (taN t n).2) a.ts (fun m hm => ⟨(hl m (List.mem_cons_of_mem _ hm)).1, (hl m (List.mem_cons_of_mem _ hm)).2.1, fun e => a.ov ((hl m (List.mem_cons_of_mem _ hm)).2.2 e)⟩)
    rw [List.length_append] at r
    have hlen := a.len
    show 2 * (taF (taN t n).1 (up ++ (taN t n).2) l).2.length + (l.length + 1) ≤ 2 * up.length + ((if n.kd = 6 then 1 else 5) + wD l)
    by_cases e : n.kd = 6
    · rw [if_pos e]
      have : (taN t n).2.length = 0 := by rw [a.sn e (n3 e)]; rfl
      omega
    · rw [if_neg e]; omega
/-- what goes back down is Seens -/
theorem reF_w {K : Kc} : ∀ (l : List Nt) (g : Gv) (dn : List Nt), GS K g → (∀ n, n ∈ l → UpK K n) → ∃ S, (reF g dn l).2 = dn ++ S ∧ (∀ n, n ∈ S → n = kS) ∧ S.length ≤ l.length := by
  intro l
  induction l with
  | nil => intro g dn _ _; exact ⟨[], (List.append_nil _).symm, (fun n hn => by cases hn), Nat.le_refl _⟩
  | cons n l ih =>
    intro g dn h hl
    obtain ⟨a1, a2, a3, a4, a5, a6, a7, a8⟩ := gs_re h (hl n (List.mem_cons_self ..))
    obtain ⟨S, r1, r2, r3⟩ := ih (reN g n).1 (dn ++ (reN g n).2) a1 (fun m hm => hl m (List.mem_cons_of_mem _ hm))
    refine ⟨(reN g n).2 ++ S, by show (reF (reN g n).1 (dn ++ (reN g n).2) l).2 = _; rw [r1, List.append_assoc], fun m hm => ?_, ?_⟩
    · rcases List.mem_append.1 hm with hm | hm
      · exact a2 m hm
      · exact r2 m hm
    · rw [List.length_append]; show _ ≤ l.length + 1; omega
/-- a quiet way -/
def cq (W : List Nt) : List Nt × List Nt := (W.take 1000, W.drop 1000)
theorem cq_ok (W : List Nt) : (∀ n, n ∈ (cq W).1 → n ∈ W) ∧ (∀ n, n ∈ (cq W).2 → n ∈ W) ∧ (cq W).1.length ≤ 1000 ∧ (cq W).2.length ≤ W.length :=
  ⟨fun n h => List.mem_of_mem_take h, fun n h => List.mem_of_mem_drop h, by show (W.take 1000).length ≤ 1000; rw [List.length_take]; omega, by show (W.drop 1000).length ≤ _; rw [List.length_drop]; omega⟩
def crQ (c : Cr) : Cr := crT c cq cq
def wC (c : Cr) : Nat := wD c.dn + 2 * c.up.length
/-- all that is sent comes over in the same tick -/
structure Cl (c : Cr) : Prop where
  dn : ∀ n, n ∈ c.dn → n = kS
  up : c.up = []
  ln : c.dn.length ≤ 600
/-- a quiet tick takes a thousand, or all -/
theorem quiet_w {K : Kc} (hK : K.ok) {c : Cr} (h : SC K c) (hg : c.g.tr < 100) (ht : c.t.st = 0 → c.t.tr < 100) :
    (wC (crQ c) + 948 ≤ wC c ∨ ((∀ n, n ∈ (crQ c).dn → n = kS) ∧ (crQ c).up = [] ∧ 2 * (crQ c).dn.length ≤ wC c + 52 ∧ (crQ c).dn.length ≤ 1000)) ∧ ((crQ c).dn.length ≤ c.dn.length + 10 ∨ (crQ c).dn.length ≤ 1000) := by
  obtain ⟨a1, a2, a3, a4, a5, a6⟩ := gs_ti h.g hg
  obtain ⟨b1, b2, b3, b4, b5, b6, b7, b8, b9⟩ := ts_ti h.t ht
  have hgs : c.g.st ≠ 0 → (tiG c.g).1.st ≠ 0 := fun e => by rw [a5 e]; exact e
  have hD : DnS K ((tiG c.g).1.st ≠ 0) ((tiT c.t).1.st = 3) (c.dn ++ (tiG c.g).2) := by
    refine (h.dn.mono hgs (fun e => by rw [b3]; exact e)).app (fun n hn => ⟨(a2 n hn).1, (a2 n hn).2, fun e => ?_⟩)
    exact absurd e (ti_kd h.g n hn)
  have hU : UpS K ((tiT c.t).1.st = 3) (c.up ++ (tiT c.t).2) := (h.up.mono (fun e => by rw [b3]; exact e)).app b2
  have hsi : (tiT c.t).1.si = c.t.si := by
    unfold tiT
    split
    · split
      · split <;> rfl
      · rfl
    · split
      · split <;> rfl
      · rfl
  have hDt : DnS K ((tiG c.g).1.st ≠ 0) ((tiT c.t).1.st = 3) ((c.dn ++ (tiG c.g).2).take 1000) := fun n hn => hD n (List.mem_of_mem_take hn)
  obtain ⟨r1, r2, r3, r4, r5, r6, r7⟩ := taF_ok hK (P := (tiG c.g).1.st ≠ 0) ((c.dn ++ (tiG c.g).2).take 1000) (tiT c.t).1 (c.up ++ (tiT c.t).2) b1 (fun e => by
      rw [b6, b7, b8, hsi]; exact h.nj (by rw [← b3]; exact e)) (fun e => hgs (h.en (by rw [← b7]; exact e))) hDt hU
  have hw := taF_w hK ((c.dn ++ (tiG c.g).2).take 1000) (tiT c.t).1 (c.up ++ (tiT c.t).2) b1 hDt
  have hbu := hK.bu
  have hgb := h.g.bu
  have hwo := wD_len (tiG c.g).2
  have hwd : wD ((c.dn ++ (tiG c.g).2).take 1000) + wD ((c.dn ++ (tiG c.g).2).drop 1000) = wD c.dn + wD (tiG c.g).2 := by
    rw [← wD_app, List.take_append_drop, wD_app]
  have hlt : ((c.dn ++ (tiG c.g).2).take 1000).length = min 1000 (c.dn.length + (tiG c.g).2.length) := by rw [List.length_take, List.length_append]
  have hld : ((c.dn ++ (tiG c.g).2).drop 1000).length = c.dn.length + (tiG c.g).2.length - 1000 := by rw [List.length_drop, List.length_append]
  rw [List.length_append] at hw
  have edn : (crQ c).dn = (reF (tiG c.g).1 ((c.dn ++ (tiG c.g).2).drop 1000) ((taF (tiT c.t).1 (c.up ++ (tiT c.t).2) ((c.dn ++ (tiG c.g).2).take 1000)).2.take 1000)).2 := rfl
  have eup : (crQ c).up = (taF (tiT c.t).1 (c.up ++ (tiT c.t).2) ((c.dn ++ (tiG c.g).2).take 1000)).2.drop 1000 := rfl
  generalize (taF (tiT c.t).1 (c.up ++ (tiT c.t).2) ((c.dn ++ (tiG c.g).2).take 1000)).2 = U at hw r4 edn eup
  obtain ⟨S, q1, q2, q3⟩ := reF_w (U.take 1000) (tiG c.g).1 ((c.dn ++ (tiG c.g).2).drop 1000) a1 (fun n hn => (r4 n (List.mem_of_mem_take hn)).1)
  rw [q1] at edn
  rw [List.length_take] at q3
  have hwS := wD_seen S q2
  have hlu : (crQ c).up.length = U.length - 1000 := by rw [eup, List.length_drop]
  have hln : (crQ c).dn.length = (c.dn.length + (tiG c.g).2.length - 1000) + S.length := by rw [edn, List.length_append, hld]
  have hwn : wD (crQ c).dn = wD ((c.dn ++ (tiG c.g).2).drop 1000) + S.length := by rw [edn, wD_app, hwS]
  have hwDl := wD_len ((c.dn ++ (tiG c.g).2).drop 1000)
  refine ⟨?_, by omega⟩
  by_cases e : c.dn.length + (tiG c.g).2.length < 1000 ∧ U.length < 1000
  · right
    have e1 : (c.dn ++ (tiG c.g).2).drop 1000 = [] := List.drop_eq_nil_of_le (by rw [List.length_append]; omega)
    rw [e1, List.nil_append] at edn
    refine ⟨by rw [edn]; exact q2, List.eq_nil_of_length_eq_zero (by omega), ?_, by omega⟩
    unfold wC
    rw [edn]
    omega
  · left
    unfold wC
    omega
end
end Go.Proofs.Ytnimehkfnpepfaa
