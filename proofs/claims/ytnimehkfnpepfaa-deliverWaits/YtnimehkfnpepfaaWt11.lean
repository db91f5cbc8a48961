import Derived.Test.YtnimehkfnpepfaaWt10
import Derived.Test.YtnimehkfnpepfaaWt2
import Derived.Test.YtnimehkfnpepfaaWt3
import Derived.Test.YtnimehkfnpepfaaWt4
import Derived.Test.YtnimehkfnpepfaaWt5
import Derived.Test.YtnimehkfnpepfaaWt6
namespace Go.Proofs.Ytnimehkfnpepfaa
open Go.RowKit
set_option maxRecDepth 100000
set_option linter.unusedVariables false
set_option linter.unusedSimpArgs false

section
/-- .. in each row of a list -/
def azA (L : List Nat) (G : List (Int × Int)) : Bool := G.all (fun p => zrN L p.1.toNat (p.2.toNat - p.1.toNat))
theorem azR_take {L : List Nat} {G : List (Int × Int)} : ∀ k, k ≤ G.length → azR L G k = azA L (G.take k) := by
  intro k
  induction k with
  | zero => intro _; rw [List.take_zero]; rfl
  | succ k ih =>
    intro h
    have e : G.take (k + 1) = G.take k ++ [giF G k] := by
      rw [List.take_add_one]
      unfold giF
      rw [List.getD_eq_getElem?_getD, List.getElem?_eq_getElem (by omega)]
      rfl
    show (azR L G k && _) = _
    rw [ih (by omega), e]
    unfold azA
    rw [List.all_append, List.all_cons, List.all_nil, Bool.and_true]
theorem azR_all {L : List Nat} {G : List (Int × Int)} : azR L G G.length = azA L G := by
  rw [azR_take _ (Nat.le_refl _), List.take_length]
/-- is every byte that has not come a nought? -/
def byB (L : List Nat) (b : Nat → Bool) : Nat → Bool
  | 0 => true
  | i + 1 => byB L b i && (b i || decide (nth L i = 0))
theorem byB_no {L : List Nat} {b : Nat → Bool} {k : Nat} (h : (b k || decide (nth L k = 0)) = false) : ∀ n, k < n → byB L b n = false := by
  intro n
  induction n with
  | zero => intro h; omega
  | succ n ih =>
    intro hk
    show (byB L b n && _) = false
    by_cases e : k = n
    · subst e; rw [h, Bool.and_false]
    · rw [ih (by omega), Bool.false_and]
theorem exR_in {l : List (Int × Int)} {i : Nat} (h : ∀ p, p ∈ l → 0 ≤ p.1 ∧ p.1 < p.2 ∧ p.2 ≤ (i : Int)) : ∀ p, p ∈ exR l i → 0 ≤ p.1 ∧ p.1 < p.2 ∧ p.2 ≤ (i : Int) + 1 := by
  intro p hp
  rcases List.eq_nil_or_concat l with e | ⟨l', x, e⟩
  · subst e
    rw [exR_new (fun p hp => by cases hp)] at hp
    rw [List.nil_append, List.mem_singleton] at hp
    subst hp
    exact ⟨by show (0 : Int) ≤ (i : Int); omega, by show (i : Int) < (i : Int) + 1; omega, Int.le_refl _⟩
  · rw [List.concat_eq_append] at e
    subst e
    have hx := h x (by simp)
    by_cases ex : x.2 = (i : Int)
    · obtain ⟨x1, x2⟩ := x
      have ex : x2 = (i : Int) := ex
      subst ex
      rw [exR_more] at hp
      rcases List.mem_append.1 hp with hp | hp
      · have := h p (by simp [hp]); exact ⟨this.1, this.2.1, by omega⟩
      · rw [List.mem_singleton] at hp
        subst hp
        have hx : 0 ≤ x1 ∧ x1 < (i : Int) ∧ _ := hx
        exact ⟨hx.1, by show x1 < (i : Int) + 1; omega, Int.le_refl _⟩
    · rw [exR_new (fun p hp => by rw [List.getLast?_concat] at hp; cases hp; exact ex)] at hp
      rcases List.mem_append.1 hp with hp | hp
      · have := h p hp; exact ⟨this.1, this.2.1, by omega⟩
      · rw [List.mem_singleton] at hp
        subst hp
        exact ⟨by show (0 : Int) ≤ (i : Int); omega, by show (i : Int) < (i : Int) + 1; omega, Int.le_refl _⟩
theorem rwN_in {b : Nat → Bool} {c : Bool} : ∀ n p, p ∈ rwN b c n → 0 ≤ p.1 ∧ p.1 < p.2 ∧ p.2 ≤ (n : Int) := by
  intro n
  induction n with
  | zero => intro p hp; cases hp
  | succ n ih =>
    intro p hp
    have hp : p ∈ (if b n = c then exR (rwN b c n) n else rwN b c n) := hp
    by_cases e : b n = c
    · rw [if_pos e] at hp
      have := exR_in ih p hp
      exact ⟨this.1, this.2.1, by omega⟩
    · rw [if_neg e] at hp
      have := ih p hp
      exact ⟨this.1, this.2.1, by omega⟩
theorem azA_ex {L l} {i : Nat} (h : ∀ p, p ∈ l → 0 ≤ p.1 ∧ p.1 < p.2 ∧ p.2 ≤ (i : Int)) : azA L (exR l i) = (azA L l && decide (nth L i = 0)) := by
  have one : zrN L ((i : Int)).toNat (((i : Int) + 1).toNat - ((i : Int)).toNat) = decide (nth L i = 0) := by
    rw [Int.toNat_natCast, show ((i : Int) + 1).toNat - i = 1 by omega]
    show (true && decide (nth L (i + 0) = 0)) = _
    rw [Bool.true_and, Nat.add_zero]
  rcases List.eq_nil_or_concat l with e | ⟨l', x, e⟩
  · subst e
    rw [exR_new (fun p hp => by cases hp)]
    unfold azA
    rw [List.all_append, List.all_cons, List.all_nil, Bool.and_true, one]
  · rw [List.concat_eq_append] at e
    subst e
    have hx := h x (by simp)
    by_cases ex : x.2 = (i : Int)
    · obtain ⟨x1, x2⟩ := x
      have ex : x2 = (i : Int) := ex
      subst ex
      have hx : 0 ≤ x1 ∧ x1 < (i : Int) ∧ _ := hx
      rw [exR_more]
      unfold azA
      rw [List.all_append, List.all_append, List.all_cons, List.all_nil, Bool.and_true, List.all_cons, List.all_nil, Bool.and_true, Bool.and_assoc]
      congr 1
      obtain ⟨y, hy⟩ : ∃ y : Nat, x1 = (y : Int) := ⟨x1.toNat, by omega⟩
      subst hy
      show zrN L ((y : Int)).toNat (((i : Int) + 1).toNat - ((y : Int)).toNat) = (zrN L ((y : Int)).toNat (((i : Int)).toNat - ((y : Int)).toNat) && _)
      rw [Int.toNat_natCast, Int.toNat_natCast, show ((i : Int) + 1).toNat - y = (i - y) + 1 by omega]
      show (zrN L y (i - y) && decide (nth L (y + (i - y)) = 0)) = _
      rw [show y + (i - y) = i by omega]
    · rw [exR_new (fun p hp => by rw [List.getLast?_concat] at hp; cases hp; exact ex)]
      unfold azA
      rw [List.all_append (xs := l' ++ [x]), List.all_cons (a := ((i : Int), (i : Int) + 1)), List.all_nil, Bool.and_true, one]
theorem rw_by {L : List Nat} {b : Nat → Bool} : ∀ n, azA L (rwN b false n) = byB L b n := by
  intro n
  induction n with
  | zero => rfl
  | succ n ih =>
    show azA L (if b n = false then exR (rwN b false n) n else rwN b false n) = (byB L b n && (b n || decide (nth L n = 0)))
    by_cases e : b n = false
    · rw [if_pos e, azA_ex (rwN_in n), ih, e, Bool.false_or]
    · rw [if_neg e, ih, Bool.not_eq_false _ |>.mp e, Bool.true_or, Bool.and_true]
/-- THE CODE'S CHECK OF A FILE IS THE DOCUMENT'S -/
theorem fi_by {L : List Nat} {F : Nat → Int × Int} {m : Nat} (hR : Rise F m) : fiB L F m = (decide ((L.length : Int) = rcN F m) && byB L (fun i => cvB F i m) L.length) := by
  unfold fiB
  rw [azR_all, ← rows_un m hR, rw_by]
end

section
/-- the end of the span before this (the document's 'end') -/
def edN (F : Nat → Int × Int) (k : Nat) : Int := if k = 0 then -1 else (F (k - 1)).2
/-- do spans rise? (the document's loop) -/
def reB (F : Nat → Int × Int) : Nat → Bool
  | 0 => true
  | k + 1 => reB F k && decide (0 ≤ (F k).1 ∧ edN F k < (F k).1 ∧ (F k).1 < (F k).2)
theorem reB_no {F : Nat → Int × Int} {k : Nat} (h : ¬ (0 ≤ (F k).1 ∧ edN F k < (F k).1 ∧ (F k).1 < (F k).2)) : ∀ n, k < n → reB F n = false := by
  intro n
  induction n with
  | zero => intro h; omega
  | succ n ih =>
    intro hk
    show (reB F n && _) = false
    by_cases e : k = n
    · subst e; rw [decide_eq_false h, Bool.and_false]
    · rw [ih (by omega), Bool.false_and]
theorem reB_rise {F : Nat → Int × Int} : ∀ n, reB F n = true ↔ Rise F n := by
  intro n
  induction n with
  | zero => exact ⟨fun _ j hj => by omega, fun _ => rfl⟩
  | succ n ih =>
    show (reB F n && decide (0 ≤ (F n).1 ∧ edN F n < (F n).1 ∧ (F n).1 < (F n).2)) = true ↔ _
    rw [Bool.and_eq_true, decide_eq_true_eq, ih]
    constructor
    · rintro ⟨h1, h2, h3, h4⟩ j hj
      by_cases e : j = n
      · subst e
        refine ⟨h2, h4, fun h0 => ?_⟩
        unfold edN at h3
        rw [if_neg (by omega)] at h3
        exact h3
      · exact h1 j (by omega)
    · intro h
      obtain ⟨k1, k2, k3⟩ := h n (by omega)
      refine ⟨rise_pre h, k1, ?_, k2⟩
      unfold edN
      by_cases e : n = 0
      · rw [if_pos e]; omega
      · rw [if_neg e]; exact k3 (by omega)
theorem rise_end {F : Nat → Int × Int} {n : Nat} (h : Rise F n) : ∀ d j, j + d < n → (F j).2 ≤ (F (j + d)).2 := by
  intro d
  induction d with
  | zero => intro j _; exact Int.le_refl _
  | succ d ih =>
    intro j hj
    have a := ih j (by omega)
    obtain ⟨k1, k2, k3⟩ := h (j + (d + 1)) hj
    have k3 : (F (j + d)).2 < _ := k3 (by omega)
    omega
theorem rise_rc {F : Nat → Int × Int} {n : Nat} (h : Rise F n) : 0 ≤ rcN F n ∧ ∀ j, j < n → (F j).2 ≤ rcN F n := by
  unfold rcN
  by_cases e : n = 0
  · rw [if_pos e]; exact ⟨Int.le_refl _, fun j hj => by omega⟩
  · rw [if_neg e]
    refine ⟨by have := h (n - 1) (by omega); omega, fun j hj => ?_⟩
    have := rise_end h (n - 1 - j) j (by omega)
    rw [show j + (n - 1 - j) = n - 1 by omega] at this
    exact this
theorem rsB_of {F : Nat → Int × Int} {s : Int} : ∀ n, Rise F n → (∀ j, j < n → (F j).2 ≤ s) → rsB F s n = true := by
  intro n
  induction n with
  | zero => intro _ _; rfl
  | succ n ih =>
    intro h hs
    obtain ⟨k1, k2, k3⟩ := h n (by omega)
    have k4 := hs n (by omega)
    show (rsB F s n && (spB (F n).1 (F n).2 s && (decide (n = 0) || decide ((F (n - 1)).2 < (F n).1)))) = true
    unfold spB
    simp only [Bool.and_eq_true, Bool.or_eq_true, decide_eq_true_eq]
    refine ⟨ih (rise_pre h) (fun j hj => hs j (by omega)), ⟨k1, k2, k4⟩, ?_⟩
    by_cases e : n = 0
    · exact .inl e
    · exact .inr (k3 (by omega))
/-- the code's check of spans is the document's -/
theorem rs_re {F : Nat → Int × Int} {s : Int} (hs : 0 ≤ s) (n : Nat) : rsB F s n = true ↔ Rise F n ∧ rcN F n ≤ s := by
  constructor
  · intro h
    obtain ⟨h1, h2⟩ := rsB_rise n h
    refine ⟨h1, ?_⟩
    unfold rcN
    by_cases e : n = 0
    · rw [if_pos e]; exact hs
    · rw [if_neg e]; exact h2 _ (by omega)
  · rintro ⟨h1, h2⟩
    exact rsB_of n h1 (fun j hj => Int.le_trans ((rise_rc h1).2 j hj) h2)
def dnB (st : Int) (kn : Bool) (nm : ByteArray) : Bool := decide ((st = 0 ∨ st = 3 ∨ st = 4) ∧ nm.size ≤ 32 ∧ (kn = true ↔ 0 < nm.size))
def dzB (kn : Bool) (si : Int) (en : Bool) (la su : Int) : Bool := decide ((kwB si 0 65536 = true ∧ kwB la 0 65536 = true ∧ kwB su 0 4294967295 = true) ∧ (kn = true ∨ si = 0) ∧ (en = true ∨ (la = 0 ∧ su = 0)))
def dvB (st : Int) (kn : Bool) (F : Nat → Int × Int) (si : Int) (m : Nat) : Bool := decide (st = 3 → kn = true ∧ (rwN (fun i => cvB F i m) false si.toNat).length = 0)
/-- may a taker be as it is, in the document's order -/
def dmB (id : Int) (kn : Bool) (nm : ByteArray) (si : Int) (en : Bool) (la su : Int) (F : Nat → Int × Int) (m : Nat) (L : List Nat) (st ti pa tr li : Int) : Bool :=
  decide (dsE id pa li = 0) && (dnB st kn nm && (dzB kn si en la su && (reB F m && (dvB st kn F si m && (decide ((L.length : Int) = rcN F m ∧ rcN F m ≤ 65536) && (byB L (fun i => cvB F i m) L.length && (kwB ti 0 (pa - 1) && kwB tr 0 li)))))))
theorem size_nil (s : ByteArray) : s = ⟨#[]⟩ ↔ s.size = 0 := by
  constructor
  · intro e; rw [e]; rfl
  · intro h
    exact bytes_nil (List.length_eq_zero_iff.1 (by rw [Array.length_toList]; exact h))
theorem tm_dm (id : Int) (kn : Bool) (nm : ByteArray) (si : Int) (en : Bool) (la su : Int) (F : Nat → Int × Int) (m : Nat) (L : List Nat) (st ti pa tr li : Int) :
    tmB id kn nm si en la su F m L st ti pa tr li = dmB id kn nm si en la su F m L st ti pa tr li := by
  rw [Bool.eq_iff_iff]
  unfold tmB dmB
  simp only [Bool.and_eq_true, decide_eq_true_eq, reB_rise, rs_re (show (0 : Int) ≤ 65536 by decide)]
  have hA : toA kn nm si = true ↔ ((kn = true ∧ 0 < nm.size ∧ nm.size ≤ 32) ∨ (kn = false ∧ nm.size = 0 ∧ si = 0)) := by
    unfold toA
    cases kn with
    | true => rw [if_pos rfl]; exact ⟨fun h => .inl ⟨rfl, by have := kwB_ok h; omega⟩, fun h => by rcases h with h | h; exact kwB_t (by omega); exact absurd h.1 (by decide)⟩
    | false => rw [if_neg (by decide), Bool.and_eq_true, decide_eq_true_eq, decide_eq_true_eq, size_nil]; exact ⟨fun h => .inr ⟨rfl, h⟩, fun h => by rcases h with h | h; exact absurd h.1 (by decide); exact h.2⟩
  have hE : toE en la su = true ↔ (en = true ∨ (la = 0 ∧ su = 0)) := by
    unfold toE
    cases en with
    | true => exact ⟨fun _ => .inl rfl, fun _ => rfl⟩
    | false => rw [if_neg (by decide), Bool.and_eq_true, decide_eq_true_eq, decide_eq_true_eq]; exact ⟨fun h => .inr h, fun h => by rcases h with h | h; exact absurd h (by decide); exact h⟩
  have hto : toB kn nm si en la su = true ↔ (kwB si 0 65536 = true ∧ kwB la 0 65536 = true ∧ kwB su 0 4294967295 = true) ∧ (en = true ∨ (la = 0 ∧ su = 0)) ∧ ((kn = true ∧ 0 < nm.size ∧ nm.size ≤ 32) ∨ (kn = false ∧ nm.size = 0 ∧ si = 0)) := by
    unfold toB
    rw [Bool.and_eq_true, Bool.and_eq_true, hA, hE]
    unfold toC
    rw [Bool.and_eq_true, Bool.and_eq_true]
    exact ⟨fun ⟨⟨a, b⟩, ⟨c, d⟩, e⟩ => ⟨⟨c, d, e⟩, b, a⟩, fun ⟨⟨c, d, e⟩, b, a⟩ => ⟨⟨a, b⟩, ⟨c, d⟩, e⟩⟩
  have hts : ∀ ha : Bool, tsB st kn ha = true ↔ (st = 0 ∨ st = 4) ∨ (st = 3 ∧ kn = true ∧ ha = true) := by
    intro ha
    unfold tsB
    by_cases h1 : st = 0 ∨ st = 4
    · rw [if_pos h1]; exact ⟨fun _ => .inl h1, fun _ => rfl⟩
    · rw [if_neg h1]
      by_cases h3 : st = 3
      · rw [if_pos h3, Bool.and_eq_true]; exact ⟨fun h => .inr ⟨h3, h⟩, fun h => by rcases h with h | h; exact absurd h h1; exact h.2⟩
      · rw [if_neg h3]; exact ⟨fun h => absurd h (by decide), fun h => by rcases h with h | h; exact absurd h h1; exact absurd h.1 h3⟩
  have hdn : dnB st kn nm = true ↔ (st = 0 ∨ st = 3 ∨ st = 4) ∧ nm.size ≤ 32 ∧ (kn = true ↔ 0 < nm.size) := by unfold dnB; rw [decide_eq_true_eq]
  have hdz : dzB kn si en la su = true ↔ (kwB si 0 65536 = true ∧ kwB la 0 65536 = true ∧ kwB su 0 4294967295 = true) ∧ (kn = true ∨ si = 0) ∧ (en = true ∨ (la = 0 ∧ su = 0)) := by unfold dzB; rw [decide_eq_true_eq]
  have hdv : dvB st kn F si m = true ↔ (st = 3 → kn = true ∧ (rwN (fun i => cvB F i m) false si.toNat).length = 0) := by unfold dvB; rw [decide_eq_true_eq]
  have hha : Rise F m → 0 ≤ si → (haB F si m = true ↔ (rwN (fun i => cvB F i m) false si.toNat).length = 0) := by
    intro hR h0
    unfold haB
    rw [decide_eq_true_eq, rows_un m hR, Int.toNat_of_nonneg h0]
  have hfi : Rise F m → (fiB L F m = true ↔ (L.length : Int) = rcN F m ∧ byB L (fun i => cvB F i m) L.length = true) := by
    intro hR
    rw [fi_by hR, Bool.and_eq_true, decide_eq_true_eq]
  rw [hto, hdn, hdz, hdv, hts]
  constructor
  · rintro ⟨a, ⟨b1, b2, b3⟩, ⟨c1, c2⟩, d, e, f⟩
    have g := (hfi c1).1 d
    refine ⟨a, ⟨by omega, by rcases b3 with b3 | b3 <;> omega, ?_⟩, ⟨b1, ?_, b2⟩, c1, ?_, ⟨g.1, c2⟩, g.2, f⟩
    · rcases b3 with b3 | b3
      · exact ⟨fun _ => b3.2.1, fun _ => b3.1⟩
      · exact ⟨fun h => (by rw [b3.1] at h; exact absurd h (by decide)), fun h => by omega⟩
    · rcases b3 with b3 | b3
      · exact .inl b3.1
      · exact .inr b3.2.2
    · intro h3
      rcases e with e | e
      · omega
      · exact ⟨e.2.1, (hha c1 (kwB_ok b1.1).1).1 e.2.2⟩
  · rintro ⟨a, ⟨n1, n2, n3⟩, ⟨z1, z2, z3⟩, c, v, ⟨g1, g2⟩, y, f⟩
    refine ⟨a, ⟨z1, z3, ?_⟩, ⟨c, g2⟩, (hfi c).2 ⟨g1, y⟩, ?_, f⟩
    · cases kn with
      | true => exact .inl ⟨rfl, n3.1 rfl, n2⟩
      | false =>
        refine .inr ⟨rfl, ?_, ?_⟩
        · by_cases e : 0 < nm.size
          · exact absurd (n3.2 e) (by decide)
          · omega
        · rcases z2 with z2 | z2
          · exact absurd z2 (by decide)
          · exact z2
    · by_cases h3 : st = 3
      · exact .inr ⟨h3, (v h3).1, (hha c (kwB_ok z1.1).1).2 (v h3).2⟩
      · exact .inl (by omega)
end

section
set_option maxHeartbeats 16000000 in
theorem tm_t26 {u0 u2 u3 u4 u5 u6 u7 u8 u9 u10 u11 u12 u13 u14 u15 u16 u17 u18 u19 u20 u21 u22 u23 u24 u25 u26 u27 u28 u29 u30 u31 u32 u33 u34 u35 u36 u37 u38 u39 u40 u41 u42 u43 u44 u45 u46 u47 u48 u49 u50 u51 u52 u53 u54 u55 u56 u57 u58 u59 u60 u61 u62 u63 u64 u65 u66 u67 u68 u69 u70 u71 u72 u73 u74 u75 u76 u77 u78 u79 u80 u81 u82 u83 u84 u85 u86 u87 u88 u89 u90 u91 u92 u93 u94 u95 u96 u97 u98 u99 u100 u101 u102 u103 u104 u105 u106 u107 u108 u109 u110 u111 u112 u113 u114 u115 u116 u117 u118 u119 u120 u121 u122 u123 u124 u125 u126 u127 u128 u129 u130 u131 u132 u133 u134 u135 u136 u137 u138 u139 u140 u141 u142 u143 u144 u145 u146 u147 u148 u149 u150 u151 u152 u153 u154 u155 u156 u157 u158 u159 u160 u161 u162 u163 u164 u165 u166 u167 u168 u169 u170 u171 u172 u173 u174 u175 u176 u177 u178 u179 u180 u181 u182 u183 u184 u185 u186 : Value} (P : Ending → World → Prop) (id : Int) (kn : Bool) (nm : ByteArray) (si : Int) (en : Bool) (la su : Int) (q : Option Addr) (m d : Nat) (a : Option Addr) (n c : Nat) (st ti pa tr li : Int) (w : World) (g1 : Nat) (b1 : BxS w g1 48 #[.int .i64 id, .bool kn, .string nm, .int .i64 si, .bool en, .int .i64 la, .int .i64 su, .slice q m d, .slice a n c, .int .i64 st, .int .i64 ti, .int .i64 pa, .int .i64 tr, .int .i64 li]) (hpa : 1 ≤ pa ∧ pa ≤ 1000) (hP : P (.returned (.bool (kwB ti 0 (pa - 1) && kwB tr 0 li))) w) :
    Code.wp Try.prog (tailR 26 (Try.f71.body.getD .skip)) (bodyPost Try.prog Try.f71 P) (Act.mk (List.toArray (u0 :: (.pointer (some ⟨g1, 0, none⟩)) :: u2 :: u3 :: u4 :: u5 :: u6 :: u7 :: u8 :: u9 :: u10 :: u11 :: u12 :: u13 :: u14 :: u15 :: u16 :: u17 :: u18 :: u19 :: u20 :: u21 :: u22 :: u23 :: u24 :: u25 :: u26 :: u27 :: u28 :: u29 :: u30 :: u31 :: u32 :: u33 :: u34 :: u35 :: u36 :: u37 :: u38 :: u39 :: u40 :: u41 :: u42 :: u43 :: u44 :: u45 :: u46 :: u47 :: u48 :: u49 :: u50 :: u51 :: u52 :: u53 :: u54 :: u55 :: u56 :: u57 :: u58 :: u59 :: u60 :: u61 :: u62 :: u63 :: u64 :: u65 :: u66 :: u67 :: u68 :: u69 :: u70 :: u71 :: u72 :: u73 :: u74 :: u75 :: u76 :: u77 :: u78 :: u79 :: u80 :: u81 :: u82 :: u83 :: u84 :: u85 :: u86 :: u87 :: u88 :: u89 :: u90 :: u91 :: u92 :: u93 :: u94 :: u95 :: u96 :: u97 :: u98 :: u99 :: u100 :: u101 :: u102 :: u103 :: u104 :: u105 :: u106 :: u107 :: u108 :: u109 :: u110 :: u111 :: u112 :: u113 :: u114 :: u115 :: u116 :: u117 :: u118 :: u119 :: u120 :: u121 :: u122 :: u123 :: u124 :: u125 :: u126 :: u127 :: u128 :: u129 :: u130 :: u131 :: u132 :: u133 :: u134 :: u135 :: u136 :: u137 :: u138 :: u139 :: u140 :: u141 :: u142 :: u143 :: u144 :: u145 :: u146 :: u147 :: u148 :: u149 :: u150 :: u151 :: u152 :: u153 :: u154 :: u155 :: u156 :: u157 :: u158 :: u159 :: u160 :: u161 :: u162 :: u163 :: u164 :: u165 :: u166 :: u167 :: u168 :: u169 :: u170 :: u171 :: u172 :: u173 :: u174 :: u175 :: u176 :: u177 :: u178 :: u179 :: u180 :: u181 :: u182 :: u183 :: u184 :: u185 :: u186 :: [])) []) w := by
  conv => enter [2]; whnf
  have HP : Hid _ := hP
  clear hP
  have k5 := fun wz => inRange_any ti 0 (pa - 1) wz
  have k6 := fun wz => inRange_any tr 0 li wz
  have hs : IntKind.i64.wrap (pa - 1) = pa - 1 := wrap_i64_in _ (by omega) (by omega)
  obtain ⟨e0, e1, e2, e3, e4, e5, e6, e7, e8, e9, e10, e11, e12, e13⟩ := (b1).cell14
  generalize kwB ti 0 (pa - 1) = B5 at k5 HP
  generalize kwB tr 0 li = B6 at k6 HP
  have s5 : True := trivial
  cases B5 <;>
  · go_wp2_with (first
      | (go_at_call 55; have _t := s5; clear s5; refine (k5 _).mono ?_; rintro e wx ⟨rfl, hwx⟩; have hwx := hwx.symm; subst hwx; have s6 : True := trivial)
      | (go_at_call 55; have _t := s6; clear s6; refine (k6 _).mono ?_; rintro e wx ⟨rfl, hwx⟩; have hwx := hwx.symm; subst hwx))
    try go_ret
    exact HP.out

set_option maxHeartbeats 32000000 in
theorem tm_t20 {u0 u2 u3 u4 u6 u7 u8 u9 u10 u11 u12 u13 u14 u15 u16 u17 u18 u19 u20 u21 u22 u23 u24 u25 u26 u27 u28 u29 u30 u31 u32 u33 u34 u35 u36 u37 u38 u39 u40 u41 u42 u43 u44 u45 u46 u47 u48 u49 u50 u51 u52 u53 u54 u55 u56 u57 u58 u59 u60 u61 u62 u63 u64 u65 u66 u67 u68 u69 u70 u71 u72 u73 u74 u75 u76 u77 u78 u79 u80 u81 u82 u83 u84 u85 u86 u87 u88 u89 u90 u91 u92 u93 u94 u95 u96 u97 u98 u99 u100 u101 u102 u103 u104 u105 u106 u107 u108 u109 u110 u111 u112 u113 u114 u115 u116 u117 u118 u119 u120 u121 u122 u123 u124 u125 u126 u127 u128 u129 u130 u131 u132 u133 u134 u135 u136 u137 u138 u139 u140 u141 u142 u143 u144 u145 u146 u147 u148 u149 u150 u151 u152 u153 u154 u155 u156 u157 u158 u159 u160 u161 u162 u163 u164 u165 u166 u167 u168 u169 u170 u171 u172 u173 u174 u175 u176 u177 u178 u179 u180 u181 u182 u183 u184 u185 u186 : Value} (P : Ending → World → Prop) (id : Int) (kn : Bool) (nm : ByteArray) (si : Int) (en : Bool) (la su : Int) (q : Option Addr) (m d : Nat) (a : Option Addr) (n c : Nat) (st ti pa tr li : Int) (F : Nat → Int × Int) (L : List Nat) (w : World) (g1 : Nat) (b1 : BxS w g1 48 #[.int .i64 id, .bool kn, .string nm, .int .i64 si, .bool en, .int .i64 la, .int .i64 su, .slice q m d, .slice a n c, .int .i64 st, .int .i64 ti, .int .i64 pa, .int .i64 tr, .int .i64 li]) (hL : Rd w a n c L) (hG : RdG w q m d F) (hR : Rise F m) (hm0 : m ≤ 8796093021952) (hn : n ≤ 65536) (hpa : 1 ≤ pa ∧ pa ≤ 1000)
    (hP : ∀ w', w.grownBy w' none → P (.returned (.bool (byB L (fun i => cvB F i m) n && (kwB ti 0 (pa - 1) && kwB tr 0 li)))) w') :
    Code.wp Try.prog (tailR 20 (Try.f71.body.getD .skip)) (bodyPost Try.prog Try.f71 P) (Act.mk (List.toArray (u0 :: (.pointer (some ⟨g1, 0, none⟩)) :: u2 :: u3 :: u4 :: (.int .i64 (n : Int)) :: u6 :: u7 :: u8 :: u9 :: u10 :: u11 :: u12 :: u13 :: u14 :: u15 :: u16 :: u17 :: u18 :: u19 :: u20 :: u21 :: u22 :: u23 :: u24 :: u25 :: u26 :: u27 :: u28 :: u29 :: u30 :: u31 :: u32 :: u33 :: u34 :: u35 :: u36 :: u37 :: u38 :: u39 :: u40 :: u41 :: u42 :: u43 :: u44 :: u45 :: u46 :: u47 :: u48 :: u49 :: u50 :: u51 :: u52 :: u53 :: u54 :: u55 :: u56 :: u57 :: u58 :: u59 :: u60 :: u61 :: u62 :: u63 :: u64 :: u65 :: u66 :: u67 :: u68 :: u69 :: u70 :: u71 :: u72 :: u73 :: u74 :: u75 :: u76 :: u77 :: u78 :: u79 :: u80 :: u81 :: u82 :: u83 :: u84 :: u85 :: u86 :: u87 :: u88 :: u89 :: u90 :: u91 :: u92 :: u93 :: u94 :: u95 :: u96 :: u97 :: u98 :: u99 :: u100 :: u101 :: u102 :: u103 :: u104 :: u105 :: u106 :: u107 :: u108 :: u109 :: u110 :: u111 :: u112 :: u113 :: u114 :: u115 :: u116 :: u117 :: u118 :: u119 :: u120 :: u121 :: u122 :: u123 :: u124 :: u125 :: u126 :: u127 :: u128 :: u129 :: u130 :: u131 :: u132 :: u133 :: u134 :: u135 :: u136 :: u137 :: u138 :: u139 :: u140 :: u141 :: u142 :: u143 :: u144 :: u145 :: u146 :: u147 :: u148 :: u149 :: u150 :: u151 :: u152 :: u153 :: u154 :: u155 :: u156 :: u157 :: u158 :: u159 :: u160 :: u161 :: u162 :: u163 :: u164 :: u165 :: u166 :: u167 :: u168 :: u169 :: u170 :: u171 :: u172 :: u173 :: u174 :: u175 :: u176 :: u177 :: u178 :: u179 :: u180 :: u181 :: u182 :: u183 :: u184 :: u185 :: u186 :: [])) []) w := by
  conv => enter [2]; whnf
  have HP : Hid _ := hP
  clear hP
  have HPA : Hid _ := hpa
  clear hpa
  obtain ⟨e0, e1, e2, e3, e4, e5, e6, e7, e8, e9, e10, e11, e12, e13⟩ := (b1).cell14
  have kH := has_any q m d n F w hG hR hm0 (by omega)
  have s0' : True := trivial
  refine wp_seq_k fun K1 hK1 => ?_
  have HK1 : Hid _ := hK1
  clear hK1
  go_wp2_with (go_at_call 75; have _t := s0'; clear s0'; refine Calls.mono kH ?_; rintro e w2 ⟨g8, rfl, hg8, hB, y2⟩)
  refine HK1.out _ _ ?_
  clear HK1
  clear kH e0 e1 e2 e3 e4 e5 e6 e7 e8 e9 e10 e11 e12 e13
  have b2 := b1.keep y2 (by simp)
  obtain ⟨f, hf⟩ : ∃ f : Nat → Bool, (fun i => cvB F i m) = f := ⟨_, rfl⟩
  rw [hf] at hB HP
  clear hf
  refine wp_seq_k fun K1 hK1 => ?_
  have HK1 : Hid _ := hK1
  clear hK1
  go_wp2
  go_loopw [9] (fun iv wr => ∃ i : Nat, i ≤ n ∧ iv = .int .i64 i ∧ Hid (byB L f i = true) ∧ w2.grownBy wr none) (fun iv _ => n - (intOf iv).toNat)
  case atStart => exact ⟨0, Nat.zero_le _, rfl, rfl, World.grownBy.refl _ _⟩
  case round =>
    obtain ⟨i, hi9, rfl, HBY, Gr⟩ := hrel
    have b3 := b2.keep Gr (by simp)
    by_cases hlt : i < n
    · have li' : (i : Int) < (n : Int) := by omega
      have HST : Hid (byB L f (i + 1) = (byB L f i && (f i || decide (nth L i = 0)))) := rfl
      have HNO : Hid ((f i || decide (nth L i = 0)) = false → byB L f n = false) := fun h9 => byB_no h9 n hlt
      have xb : wr.cell? ⟨g8, i, none⟩ = some (.bool (f i)) := (hB.keep Gr).cell hlt
      obtain ⟨ga, go, rfl, pk⟩ : ∃ ga go, a = some ⟨ga, go, none⟩ ∧ wr.cell? ⟨ga, go + i, none⟩ = some (.int .u8 (nth L i : Nat)) := by
        obtain ⟨b', off', e', _, hc'⟩ := ((hL.keep y2).keep Gr).at' (by omega)
        exact ⟨b', off', e', hc' i hlt⟩
      have x8 : wr.cell? ⟨g1, 8, none⟩ = some (.slice (some ⟨ga, go, none⟩) n c) := b3.cell 8 (by show 8 < 14; decide)
      obtain ⟨fb, hfb⟩ : ∃ fb, f i = fb := ⟨_, rfl⟩
      obtain ⟨bv, hbv⟩ : ∃ bv, nth L i = bv := ⟨_, rfl⟩
      rw [hfb] at xb HST HNO
      rw [hbv] at pk HST HNO
      clear hfb hbv
      cases fb with
      | true =>
        have HN : Hid (byB L f (i + 1) = true) := by show _ = _; rw [HST.out, HBY.out]; rfl
        clear HST HNO pk x8
        go_wp2
        go_roundw
        case rel => exact ⟨i + 1, by omega, by go_num, HN, Gr⟩
        case measure => simp [intOf] <;> omega
      | false =>
        by_cases hb0 : bv = 0
        · have HN : Hid (byB L f (i + 1) = true) := by show _ = _; rw [HST.out, HBY.out, decide_eq_true hb0]; rfl
          subst hb0
          clear HST HNO
          go_wp2
          go_roundw
          case rel => exact ⟨i + 1, by omega, by go_num, HN, Gr⟩
          case measure => simp [intOf] <;> omega
        · have HN : Hid (byB L f n = false) := HNO.out (by rw [decide_eq_false hb0]; rfl)
          clear HST HNO
          go_wp2
          try go_ret
          have := HP.out wr (grown_trans y2 Gr)
          rw [HN.out, Bool.false_and] at this
          exact this
    · obtain rfl : i = n := by omega
      have li' : ¬ (i : Int) < (i : Int) := by omega
      go_wp2
      try simp only [Exit.inBlock, Exit.then]
      refine HK1.out _ _ ?_
      clear HK1
      refine tm_t26 P id kn nm si en la su q m d a _ c st ti pa tr li wr g1 b3 HPA.out ?_
      have := HP.out wr (grown_trans y2 Gr)
      rw [HBY.out, Bool.true_and] at this
      exact this
end

section
set_option maxHeartbeats 16000000 in
theorem tm_t18 {u0 u2 u3 u4 u6 u7 u8 u9 u10 u11 u12 u13 u14 u15 u16 u17 u18 u19 u20 u21 u22 u23 u24 u25 u26 u27 u28 u29 u30 u31 u32 u33 u34 u35 u36 u37 u38 u39 u40 u41 u42 u43 u44 u45 u46 u47 u48 u49 u50 u51 u52 u53 u54 u55 u56 u57 u58 u59 u60 u61 u62 u63 u64 u65 u66 u67 u68 u69 u70 u71 u72 u73 u74 u75 u76 u77 u78 u79 u80 u81 u82 u83 u84 u85 u86 u87 u88 u89 u90 u91 u92 u93 u94 u95 u96 u97 u98 u99 u100 u101 u102 u103 u104 u105 u106 u107 u108 u109 u110 u111 u112 u113 u114 u115 u116 u117 u118 u119 u120 u121 u122 u123 u124 u125 u126 u127 u128 u129 u130 u131 u132 u133 u134 u135 u136 u137 u138 u139 u140 u141 u142 u143 u144 u145 u146 u147 u148 u149 u150 u151 u152 u153 u154 u155 u156 u157 u158 u159 u160 u161 u162 u163 u164 u165 u166 u167 u168 u169 u170 u171 u172 u173 u174 u175 u176 u177 u178 u179 u180 u181 u182 u183 u184 u185 u186 : Value} (P : Ending → World → Prop) (id : Int) (kn : Bool) (nm : ByteArray) (si : Int) (en : Bool) (la su : Int) (q : Option Addr) (m d : Nat) (a : Option Addr) (n c : Nat) (st ti pa tr li : Int) (F : Nat → Int × Int) (L : List Nat) (w : World) (g1 : Nat) (b1 : BxS w g1 48 #[.int .i64 id, .bool kn, .string nm, .int .i64 si, .bool en, .int .i64 la, .int .i64 su, .slice q m d, .slice a n c, .int .i64 st, .int .i64 ti, .int .i64 pa, .int .i64 tr, .int .i64 li]) (hL : Rd w a n c L) (hG : RdG w q m d F) (hR : Rise F m) (hm0 : m ≤ 8796093021952) (hpa : 1 ≤ pa ∧ pa ≤ 1000) (rc : Int)
    (hP : ∀ w', w.grownBy w' none → P (.returned (.bool (decide ((n : Int) = rc ∧ rc ≤ 65536) && (byB L (fun i => cvB F i m) n && (kwB ti 0 (pa - 1) && kwB tr 0 li))))) w') :
    Code.wp Try.prog (tailR 18 (Try.f71.body.getD .skip)) (bodyPost Try.prog Try.f71 P) (Act.mk (List.toArray (u0 :: (.pointer (some ⟨g1, 0, none⟩)) :: u2 :: u3 :: u4 :: (.int .i64 rc) :: u6 :: u7 :: u8 :: u9 :: u10 :: u11 :: u12 :: u13 :: u14 :: u15 :: u16 :: u17 :: u18 :: u19 :: u20 :: u21 :: u22 :: u23 :: u24 :: u25 :: u26 :: u27 :: u28 :: u29 :: u30 :: u31 :: u32 :: u33 :: u34 :: u35 :: u36 :: u37 :: u38 :: u39 :: u40 :: u41 :: u42 :: u43 :: u44 :: u45 :: u46 :: u47 :: u48 :: u49 :: u50 :: u51 :: u52 :: u53 :: u54 :: u55 :: u56 :: u57 :: u58 :: u59 :: u60 :: u61 :: u62 :: u63 :: u64 :: u65 :: u66 :: u67 :: u68 :: u69 :: u70 :: u71 :: u72 :: u73 :: u74 :: u75 :: u76 :: u77 :: u78 :: u79 :: u80 :: u81 :: u82 :: u83 :: u84 :: u85 :: u86 :: u87 :: u88 :: u89 :: u90 :: u91 :: u92 :: u93 :: u94 :: u95 :: u96 :: u97 :: u98 :: u99 :: u100 :: u101 :: u102 :: u103 :: u104 :: u105 :: u106 :: u107 :: u108 :: u109 :: u110 :: u111 :: u112 :: u113 :: u114 :: u115 :: u116 :: u117 :: u118 :: u119 :: u120 :: u121 :: u122 :: u123 :: u124 :: u125 :: u126 :: u127 :: u128 :: u129 :: u130 :: u131 :: u132 :: u133 :: u134 :: u135 :: u136 :: u137 :: u138 :: u139 :: u140 :: u141 :: u142 :: u143 :: u144 :: u145 :: u146 :: u147 :: u148 :: u149 :: u150 :: u151 :: u152 :: u153 :: u154 :: u155 :: u156 :: u157 :: u158 :: u159 :: u160 :: u161 :: u162 :: u163 :: u164 :: u165 :: u166 :: u167 :: u168 :: u169 :: u170 :: u171 :: u172 :: u173 :: u174 :: u175 :: u176 :: u177 :: u178 :: u179 :: u180 :: u181 :: u182 :: u183 :: u184 :: u185 :: u186 :: [])) []) w := by
  conv => enter [2]; whnf
  have HP : Hid _ := hP
  clear hP
  have HPA : Hid _ := hpa
  have HR : Hid _ := hR
  clear hpa hR
  have x8 : w.cell? ⟨g1, 8, none⟩ = some (.slice a n c) := b1.cell 8 (by show 8 < 14; decide)
  by_cases h1 : (n : Int) = rc
  · subst h1
    by_cases h2 : (n : Int) ≤ 65536
    · have h2' : ¬ (65536 : Int) < (n : Int) := by omega
      have HF : Hid (decide ((n : Int) = (n : Int) ∧ (n : Int) ≤ 65536) = true) := decide_eq_true ⟨rfl, h2⟩
      have HN : Hid (n ≤ 65536) := by show n ≤ 65536; omega
      refine wp_seq_k fun K1 hK1 => ?_
      have HK1 : Hid _ := hK1
      clear hK1
      go_wp2
      try simp only [Exit.then]
      refine HK1.out _ _ ?_
      clear HK1
      refine tm_t20 P id kn nm si en la su q m d a n c st ti pa tr li F L w g1 b1 hL hG HR.out hm0 HN.out HPA.out ?_
      intro w' g'
      have := HP.out w' g'
      rw [HF.out, Bool.true_and] at this
      exact this
    · have h2' : (65536 : Int) < (n : Int) := by omega
      have HF : Hid (decide ((n : Int) = (n : Int) ∧ (n : Int) ≤ 65536) = false) := decide_eq_false (fun h => h2 h.2)
      go_wp2
      try simp only [Exit.then]
      try go_ret
      have := HP.out w (World.grownBy.refl _ _)
      rw [HF.out, Bool.false_and] at this
      exact this
  · have HF : Hid (decide ((n : Int) = rc ∧ rc ≤ 65536) = false) := decide_eq_false (fun h => h1 h.1)
    have hb : ((n : Int) == rc) = false := beq_eq_false_iff_ne.2 h1
    have hb' : ((n : Int) != rc) = true := by simp [h1]
    go_wp2
    try simp only [Exit.then]
    try go_ret
    have := HP.out w (World.grownBy.refl _ _)
    rw [HF.out, Bool.false_and] at this
    exact this

set_option maxHeartbeats 32000000 in
theorem tm_t16 {u0 u2 u3 u4 u6 u7 u8 u9 u10 u11 u12 u13 u14 u15 u16 u17 u18 u19 u20 u21 u22 u23 u24 u25 u26 u27 u28 u29 u30 u31 u32 u33 u34 u35 u36 u37 u38 u39 u40 u41 u42 u43 u44 u45 u46 u47 u48 u49 u50 u51 u52 u53 u54 u55 u56 u57 u58 u59 u60 u61 u62 u63 u64 u65 u66 u67 u68 u69 u70 u71 u72 u73 u74 u75 u76 u77 u78 u79 u80 u81 u82 u83 u84 u85 u86 u87 u88 u89 u90 u91 u92 u93 u94 u95 u96 u97 u98 u99 u100 u101 u102 u103 u104 u105 u106 u107 u108 u109 u110 u111 u112 u113 u114 u115 u116 u117 u118 u119 u120 u121 u122 u123 u124 u125 u126 u127 u128 u129 u130 u131 u132 u133 u134 u135 u136 u137 u138 u139 u140 u141 u142 u143 u144 u145 u146 u147 u148 u149 u150 u151 u152 u153 u154 u155 u156 u157 u158 u159 u160 u161 u162 u163 u164 u165 u166 u167 u168 u169 u170 u171 u172 u173 u174 u175 u176 u177 u178 u179 u180 u181 u182 u183 u184 u185 u186 : Value} (P : Ending → World → Prop) (id : Int) (kn : Bool) (nm : ByteArray) (si : Int) (en : Bool) (la su : Int) (q : Option Addr) (m d : Nat) (a : Option Addr) (n c : Nat) (st ti pa tr li : Int) (F : Nat → Int × Int) (L : List Nat) (w : World) (g1 : Nat) (b1 : BxS w g1 48 #[.int .i64 id, .bool kn, .string nm, .int .i64 si, .bool en, .int .i64 la, .int .i64 su, .slice q m d, .slice a n c, .int .i64 st, .int .i64 ti, .int .i64 pa, .int .i64 tr, .int .i64 li]) (hL : Rd w a n c L) (hG : RdG w q m d F) (hR : Rise F m) (hm0 : m ≤ 8796093021952) (hpa : 1 ≤ pa ∧ pa ≤ 1000) (rc : Int) (hsi : 0 ≤ si ∧ si ≤ 65536)
    (hP : ∀ w', w.grownBy w' none → P (.returned (.bool (dvB st kn F si m && (decide ((n : Int) = rc ∧ rc ≤ 65536) && (byB L (fun i => cvB F i m) n && (kwB ti 0 (pa - 1) && kwB tr 0 li)))))) w') :
    Code.wp Try.prog (tailR 16 (Try.f71.body.getD .skip)) (bodyPost Try.prog Try.f71 P) (Act.mk (List.toArray (u0 :: (.pointer (some ⟨g1, 0, none⟩)) :: u2 :: u3 :: u4 :: (.int .i64 rc) :: u6 :: u7 :: u8 :: u9 :: u10 :: u11 :: u12 :: u13 :: u14 :: u15 :: u16 :: u17 :: u18 :: u19 :: u20 :: u21 :: u22 :: u23 :: u24 :: u25 :: u26 :: u27 :: u28 :: u29 :: u30 :: u31 :: u32 :: u33 :: u34 :: u35 :: u36 :: u37 :: u38 :: u39 :: u40 :: u41 :: u42 :: u43 :: u44 :: u45 :: u46 :: u47 :: u48 :: u49 :: u50 :: u51 :: u52 :: u53 :: u54 :: u55 :: u56 :: u57 :: u58 :: u59 :: u60 :: u61 :: u62 :: u63 :: u64 :: u65 :: u66 :: u67 :: u68 :: u69 :: u70 :: u71 :: u72 :: u73 :: u74 :: u75 :: u76 :: u77 :: u78 :: u79 :: u80 :: u81 :: u82 :: u83 :: u84 :: u85 :: u86 :: u87 :: u88 :: u89 :: u90 :: u91 :: u92 :: u93 :: u94 :: u95 :: u96 :: u97 :: u98 :: u99 :: u100 :: u101 :: u102 :: u103 :: u104 :: u105 :: u106 :: u107 :: u108 :: u109 :: u110 :: u111 :: u112 :: u113 :: u114 :: u115 :: u116 :: u117 :: u118 :: u119 :: u120 :: u121 :: u122 :: u123 :: u124 :: u125 :: u126 :: u127 :: u128 :: u129 :: u130 :: u131 :: u132 :: u133 :: u134 :: u135 :: u136 :: u137 :: u138 :: u139 :: u140 :: u141 :: u142 :: u143 :: u144 :: u145 :: u146 :: u147 :: u148 :: u149 :: u150 :: u151 :: u152 :: u153 :: u154 :: u155 :: u156 :: u157 :: u158 :: u159 :: u160 :: u161 :: u162 :: u163 :: u164 :: u165 :: u166 :: u167 :: u168 :: u169 :: u170 :: u171 :: u172 :: u173 :: u174 :: u175 :: u176 :: u177 :: u178 :: u179 :: u180 :: u181 :: u182 :: u183 :: u184 :: u185 :: u186 :: [])) []) w := by
  conv => enter [2]; whnf
  have HP : Hid _ := hP
  clear hP
  have HPA : Hid _ := hpa
  have HR : Hid _ := hR
  clear hpa
  obtain ⟨s, rfl⟩ : ∃ s : Nat, si = (s : Int) := ⟨si.toNat, by omega⟩
  have hs9 : s ≤ 65536 := by omega
  clear hsi
  obtain ⟨e0, e1, e2, e3, e4, e5, e6, e7, e8, e9, e10, e11, e12, e13⟩ := (b1).cell14
  by_cases h3 : st = 3
  · subst h3
    cases kn with
    | false =>
      have HF : Hid (dvB 3 false F (s : Int) m = false) := decide_eq_false (fun h => absurd (h rfl).1 (by decide))
      clear hR
      go_wp2
      try simp only [Exit.then]
      try go_ret
      have := HP.out w (World.grownBy.refl _ _)
      rw [HF.out, Bool.false_and] at this
      exact this
    | true =>
      have kH := has_any q m d s F w hG hR hm0 (by omega)
      have HV : Hid (dvB 3 true F (s : Int) m = decide ((rwN (fun i => cvB F i m) false s).length = 0)) := by
        show decide (_ → true = true ∧ (rwN (fun i => cvB F i m) false ((s : Int)).toNat).length = 0) = _
        rw [Int.toNat_natCast]
        exact decide_eq_decide.2 ⟨fun h => (h rfl).2, fun h _ => ⟨rfl, h⟩⟩
      clear hR
      have kR := fun g8 w2 (hB : BoR w2 g8 s (fun i => cvB F i m)) => rowsIn_any g8 s (fun i => cvB F i m) false w2 hB (by omega)
      obtain ⟨f, hf⟩ : ∃ f, f = (fun i => cvB F i m) := ⟨_, rfl⟩
      obtain ⟨l, hl⟩ : ∃ l, (rwN (fun i => cvB F i m) false s).length = l := ⟨_, rfl⟩
      rw [hl] at HV kR
      have HB : Hid _ := hf
      have HLL : Hid _ := hl
      clear hf hl
      have s0' : True := trivial
      by_cases hl0 : l = 0
      · have HF : Hid (dvB 3 true F (s : Int) m = true) := by show _ = _; rw [HV.out]; exact decide_eq_true hl0
        subst hl0
        refine wp_seq_k fun K1 hK1 => ?_
        have HK1 : Hid _ := hK1
        clear hK1
        go_wp2_with (first
          | (go_at_call 75; have _t := s0'; clear s0'; refine Calls.mono kH ?_; rintro e w2 ⟨g8, rfl, hg8, hB, y2⟩; have s1' : True := trivial)
          | (go_at_call 74; have _t := s1'; clear s1'; refine Calls.mono (kR g8 w2 hB) ?_; rintro e w3 ⟨q3, d3, rfl, hO3, y3⟩))
        try simp only [Exit.then]
        refine HK1.out _ _ ?_
        clear HK1
        have G3 := grown_trans y2 y3
        refine tm_t18 P id _ nm _ en la su q m d a n c _ ti pa tr li F L w3 g1 (b1.keep G3 (by simp)) (hL.keep G3) (hG.keep G3) HR.out hm0 HPA.out rc ?_
        intro w' g'
        have := HP.out w' (grown_trans G3 g')
        rw [HF.out, Bool.true_and] at this
        exact this
      · have HF : Hid (dvB 3 true F (s : Int) m = false) := by show _ = _; rw [HV.out]; exact decide_eq_false hl0
        have hl1 : (0 : Int) < (l : Int) := by omega
        go_wp2_with (first
          | (go_at_call 75; have _t := s0'; clear s0'; refine Calls.mono kH ?_; rintro e w2 ⟨g8, rfl, hg8, hB, y2⟩; have s1' : True := trivial)
          | (go_at_call 74; have _t := s1'; clear s1'; refine Calls.mono (kR g8 w2 hB) ?_; rintro e w3 ⟨q3, d3, rfl, hO3, y3⟩))
        try simp only [Exit.then]
        try go_ret
        have := HP.out w3 (grown_trans y2 y3)
        rw [HF.out, Bool.false_and] at this
        exact this
  · have HF : Hid (dvB st kn F (s : Int) m = true) := decide_eq_true (fun h => absurd h h3)
    have hb : (st == 3) = false := beq_eq_false_iff_ne.2 h3
    clear hR
    refine wp_seq_k fun K1 hK1 => ?_
    have HK1 : Hid _ := hK1
    clear hK1
    go_wp2
    try simp only [Exit.then]
    refine HK1.out _ _ ?_
    clear HK1
    refine tm_t18 P id kn nm _ en la su q m d a n c st ti pa tr li F L w g1 b1 hL hG HR.out hm0 HPA.out rc ?_
    intro w' g'
    have := HP.out w' g'
    rw [HF.out, Bool.true_and] at this
    exact this
end
end Go.Proofs.Ytnimehkfnpepfaa
