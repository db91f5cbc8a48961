import Derived.Test.YtpcejajijaphbaaPc4
import Derived.Test.YtpcejajijaphbaaPc9
import Derived.Test.YtpcejajijaphbaaPc8
namespace Go.Proofs.Ytpcejajijaphbaa
open Go.RowKit
set_option maxRecDepth 100000
set_option linter.unusedVariables false
set_option linter.unusedSimpArgs false

section
/-- some cells of a box are written -/
def setT (A : Array Value) : Nat → List Value → Array Value
  | _, [] => A
  | o, v :: r => setT (A.setIfInBounds o v) (o + 1) r
theorem box_setT {g : Nat} {t : TypeId} : ∀ (L : List Value) (o : Nat) (w : World) (A : Array Value), BxS w g t A → BxS (w.setCells g o L) g t (setT A o L) ∧ w.grownBy (w.setCells g o L) (some g) := by
  intro L
  induction L with
  | nil => intro o w A h; exact ⟨h, World.grownBy.refl _ _⟩
  | cons v L ih =>
    intro o w A h
    have h1 : BxS (w.setCell ⟨g, o, none⟩ v) g t (A.setIfInBounds o v) := by unfold BxS; rw [heap_setCell_same w g o _ _ _ h]
    obtain ⟨k1, k2⟩ := ih (o + 1) _ _ h1
    exact ⟨k1, grown_trans (grown_set w g o v) k2⟩
theorem setT_size : ∀ (L : List Value) (o : Nat) (A : Array Value), (setT A o L).size = A.size := by
  intro L
  induction L with
  | nil => intro o A; rfl
  | cons v L ih => intro o A; show (setT _ _ L).size = _; rw [ih, Array.size_setIfInBounds]
theorem setT_out : ∀ (L : List Value) (o : Nat) (A : Array Value) (j : Nat), (j < o ∨ o + L.length ≤ j) → (setT A o L)[j]? = A[j]? := by
  intro L
  induction L with
  | nil => intro o A j _; rfl
  | cons v L ih =>
    intro o A j h
    rw [List.length_cons] at h
    show (setT _ _ L)[j]? = _
    rw [ih (o + 1) _ j (by omega), Array.getElem?_setIfInBounds_ne (by omega)]
theorem setT_in : ∀ (L : List Value) (o : Nat) (A : Array Value) (j : Nat), j < L.length → o + L.length ≤ A.size → (setT A o L)[o + j]? = L[j]? := by
  intro L
  induction L with
  | nil => intro o A j h; cases h
  | cons v L ih =>
    intro o A j h hs
    rw [List.length_cons] at h hs
    show (setT _ _ L)[o + j]? = _
    cases j with
    | zero =>
      show (setT _ _ L)[o]? = _
      rw [setT_out L (o + 1) _ o (by omega), Array.getElem?_setIfInBounds_self_of_lt (by omega)]
      rfl
    | succ j =>
      rw [show o + (j + 1) = o + 1 + j by omega, ih (o + 1) _ j (by omega) (by rw [Array.size_setIfInBounds]; omega)]
      rfl
theorem wpList_stT {ops : Array Oper} {rest : List Oper} {o : Oper} {ac : Act} {Q : Exit → Act → World → Prop} {w : World} (hg : o.guard = none) (t : TypeId) (p x : Operand) (hop : o.op = Op.store t p x)
    (g i : Nat) (ty : TypeId) (A B : Array Value) (hp : ac.eval p = .pointer (some ⟨g, i, none⟩)) (hx : ac.eval x = .agg B) (hB : BxS w g ty A) (hin : (Try.prog.info? t).map (·.size) = some B.size) (hi : i + B.size ≤ A.size) (h1 : B.all (·.oneCell') = true)
    (hK : ∀ w', BxS w' g ty (setT A i B.toList) → w.grownBy w' (some g) → wpList Try.prog ops Q rest (ac.put o.dst undef) w') :
    wpList Try.prog ops Q (o :: rest) ac w := by
  obtain ⟨k1, k2⟩ := box_setT B.toList i w A hB
  refine wpList_store_mid hg t p x hop g i B hp hx (fun j hj => ⟨?_, frozen_of_row w g _ _ _ hB⟩) hin h1 (hK _ k1 k2)
  rw [cell_of_row _ _ _ _ _ _ hB, Array.getElem?_eq_getElem (by omega)]
  rfl
/-- places as cells -/
def ppL (L : List Nat) : List Value := L.map fun (p : Nat) => Value.int .i64 (p : Int)
def chC (r : Rv) (p : Option Addr) (c : Nat) : List Value := [.int .i64 r.2, .int .i64 (r.1.length : Int), .slice p r.1.length c]
def chA (r : Rv) (p : Option Addr) (c : Nat) : Array Value := #[.int .i64 r.2, .int .i64 (r.1.length : Int), .slice p r.1.length c]
/-- places in memory of the call's own -/
def Pl (w : World) (lo : Nat) (r : Rv) (p : Option Addr) (c : Nat) : Prop := AnsX 3 w lo p r.1.length c (ppL r.1)
section
variable {w w' : World} {lo gb gd n : Nat} {D : Nat → Bool} {R : Nat → Rv} {P : Nat → Option Addr} {C : Nat → Nat} {r : Rv} {p : Option Addr} {c : Nat}
theorem Pl.keep (h : Pl w lo r p c) (hg : w.grownBy w' none) : Pl w' lo r p c := AnsX.keep h hg
/-- a box of another type is written -/
theorem Pl.box {g : Nat} {t : TypeId} {cs : Array Value} (h : Pl w lo r p c) (b : BxS w g t cs) (ht : 3 ≠ t) (hg : w.grownBy w' (some g)) : Pl w' lo r p c :=
  AnsX.kept h hg (by
    have := AnsX.bxR h b ht
    cases e : (Value.slice p r.1.length c).ownBlock with
    | none => exact .inl rfl
    | some z => exact .inr (fun e2 => this (e.trans e2)))
theorem Pl.hd (h : Pl w lo r p c) : Hd1 w p r.1.length c (hdP r : Int) := by
  have hm := AnsX.max h
  refine ⟨hm.1, hm.2, fun h0 => ?_⟩
  obtain ⟨b, off, e, hb, hc⟩ := (AnsX.rd h).at' h0
  refine ⟨b, off, e, hb, ?_⟩
  have := hc 0 (.int .i64 (hdP r : Int)) (by
    unfold ppL hdP
    cases e2 : r.1 with
    | nil => rw [e2] at h0; cases h0
    | cons a l => rfl)
  exact this
theorem Pl.none (w : World) (lo : Nat) : Pl w lo ([], 0) none 0 := AnsX.nil0 _ _ _
/-- which are reckoned -/
structure TD (w : World) (lo gd n : Nat) (D : Nat → Bool) : Prop where
  lo' : lo ≤ gd
  bx : ∃ B, BxS w gd 4 B ∧ B.size = n ∧ ∀ i, i < n → B[i]? = some (.bool (D i))
theorem TD.keep (h : TD w lo gd n D) (hg : w.grownBy w' none) : TD w' lo gd n D := by
  obtain ⟨B, b, h2⟩ := h.bx
  exact ⟨h.lo', B, b.keep hg (by simp), h2⟩
theorem TD.box {g : Nat} {t : TypeId} {cs : Array Value} (h : TD w lo gd n D) (b : BxS w g t cs) (ht : 4 ≠ t) (hg : w.grownBy w' (some g)) : TD w' lo gd n D := by
  obtain ⟨B, k, h2⟩ := h.bx
  exact ⟨h.lo', B, k.keep hg (fun e => by have e := Option.some.inj e; exact BxS.apart k b ht e), h2⟩
theorem TD.cell (h : TD w lo gd n D) {i : Nat} (hi : i < n) : w.cell? ⟨gd, i, .none⟩ = some (.bool (D i)) := by
  obtain ⟨B, k, _, h2⟩ := h.bx
  rw [cell_of_row _ _ _ _ _ _ k]
  exact h2 i hi
/-- the table: the rows that are reckoned -/
structure TB (w : World) (lo gb n : Nat) (D : Nat → Bool) (R : Nat → Rv) (P : Nat → Option Addr) (C : Nat → Nat) : Prop where
  lo' : lo ≤ gb
  bx : ∃ A, BxS w gb 42 A ∧ A.size = n * 3 ∧ ∀ i, i < n → D i = true → ∀ j v, (chC (R i) (P i) (C i))[j]? = some v → A[i * 3 + j]? = some v
  pl : ∀ i, i < n → D i = true → Pl w lo (R i) (P i) (C i)
theorem TB.keep (h : TB w lo gb n D R P C) (hg : w.grownBy w' none) : TB w' lo gb n D R P C := by
  obtain ⟨A, b, h2⟩ := h.bx
  exact ⟨h.lo', ⟨A, b.keep hg (by simp), h2⟩, fun i hi hd => (h.pl i hi hd).keep hg⟩
theorem TB.box {g : Nat} {t : TypeId} {cs : Array Value} (h : TB w lo gb n D R P C) (b : BxS w g t cs) (ht : 3 ≠ t) (hne : g ≠ gb) (hg : w.grownBy w' (some g)) : TB w' lo gb n D R P C := by
  obtain ⟨A, k, h2⟩ := h.bx
  exact ⟨h.lo', ⟨A, k.keep hg (fun e => hne (Option.some.inj e).symm), h2⟩, fun i hi hd => (h.pl i hi hd).box b ht hg⟩
theorem TB.rg (h : TB w lo gb n D R P C) {i : Nat} (hi : i < n) (hd : D i = true) : w.rangeAt gb (i * 3) (chC (R i) (P i) (C i)) := by
  obtain ⟨A, k, _, h2⟩ := h.bx
  intro j v hv
  rw [cell_of_row _ _ _ _ _ _ k]
  exact h2 i hi hd j v hv
theorem TB.lt (h : TB w lo gb n D R P C) : gb < w.heap.size := by
  obtain ⟨A, k, _⟩ := h.bx
  exact k.lt
/-- a row is reckoned -/
theorem TB.put {A : Array Value} {k : Nat} (h : TB w lo gb n D R P C) (hk : k < n) (hp : Pl w lo r p c) (b : BxS w gb 42 A) (b' : BxS w' gb 42 (setT A (k * 3) (chA r p c).toList)) (hg : w.grownBy w' (some gb)) :
    TB w' lo gb n (setB D k) (setR R k r) (fun j => if j = k then p else P j) (fun j => if j = k then c else C j) := by
  obtain ⟨A', k1, hs, h2⟩ := h.bx
  have e : A = A' := by
    unfold BxS at b k1
    rw [b] at k1
    injection k1 with k1
    injection k1
  subst e
  have len : (chA r p c).toList.length = 3 := rfl
  refine ⟨h.lo', ⟨_, b', by rw [setT_size]; exact hs, fun i hi hd j v hv => ?_⟩, fun i hi hd => ?_⟩
  · by_cases e : i = k
    · subst e
      rw [show setR R i r i = r from if_pos rfl] at hv
      try dsimp only at hv
      rw [if_pos rfl, if_pos rfl] at hv
      have hj : j < 3 := (List.getElem?_eq_some_iff.1 hv).1
      rw [setT_in _ _ _ _ (by rw [len]; exact hj) (by rw [len]; omega)]
      exact hv
    · rw [show setR R k r i = R i from if_neg e] at hv
      try dsimp only at hv
      rw [if_neg e, if_neg e] at hv
      rw [show setB D k i = D i from if_neg e] at hd
      have hj : j < 3 := (List.getElem?_eq_some_iff.1 hv).1
      rw [setT_out _ _ _ _ (by rw [len]; omega)]
      exact h2 i hi hd j v hv
  · by_cases e : i = k
    · subst e
      rw [show setR R i r i = r from if_pos rfl]
      try dsimp only
      rw [if_pos rfl, if_pos rfl]
      exact hp.box b (by decide) hg
    · rw [show setR R k r i = R i from if_neg e]
      try dsimp only
      rw [if_neg e, if_neg e]
      rw [show setB D k i = D i from if_neg e] at hd
      exact (h.pl i hi hd).box b (by decide) hg
/-- a choice by itself -/
structure CB (w : World) (lo g : Nat) (r : Rv) (p : Option Addr) (c : Nat) : Prop where
  lo' : lo ≤ g
  bx : BxS w g 42 (chA r p c)
  pl : Pl w lo r p c
theorem CB.keep {g : Nat} (h : CB w lo g r p c) (hg : w.grownBy w' none) : CB w' lo g r p c := ⟨h.lo', h.bx.keep hg (by simp), h.pl.keep hg⟩
theorem CB.box {g g' : Nat} {t : TypeId} {cs : Array Value} (h : CB w lo g r p c) (b : BxS w g' t cs) (ht : 3 ≠ t) (hne : g' ≠ g) (hg : w.grownBy w' (some g')) : CB w' lo g r p c :=
  ⟨h.lo', h.bx.keep hg (fun e => hne (Option.some.inj e).symm), h.pl.box b ht hg⟩
/-- a box takes another choice -/
theorem CB.put {g : Nat} {r2 : Rv} {p2 : Option Addr} {c2 : Nat} (h : CB w lo g r p c) (hp : Pl w lo r2 p2 c2) (b : BxS w' g 42 (chA r2 p2 c2)) (hg : w.grownBy w' (some g)) : CB w' lo g r2 p2 c2 :=
  ⟨h.lo', b, hp.box h.bx (by decide) hg⟩
theorem TD.put {k : Nat} {B : Array Value} (h : TD w lo gd n D) (b : BxS w gd 4 B) (b' : BxS w' gd 4 (B.setIfInBounds k (.bool true))) : TD w' lo gd n (setB D k) := by
  obtain ⟨B', k1, hs, h2⟩ := h.bx
  have e : B = B' := by
    unfold BxS at b k1
    rw [b] at k1
    injection k1 with k1
    injection k1
  subst e
  refine ⟨h.lo', _, b', by rw [Array.size_setIfInBounds]; exact hs, fun i hi => ?_⟩
  by_cases e : i = k
  · subst e
    rw [Array.getElem?_setIfInBounds_self_of_lt (by omega), show setB D i i = true from if_pos rfl]
  · rw [Array.getElem?_setIfInBounds_ne (fun e2 => e e2.symm), show setB D k i = D i from if_neg e]
    exact h2 i hi
end
theorem Try.info_ch : (Try.prog.info? 42).map (fun i => i.size) = some 3 := by kernel_rfl
theorem Try.info_chF : (Try.prog.info? 42).map (fun i => (i.zero, i.size, i.bytes)) = some (some (.agg #[.int .i64 0, .int .i64 0, .slice none 0 0]), 3, 40) := by kernel_rfl
theorem wpList_mkCh (w : World) {ops : Array Oper} {rest : List Oper} {o : Oper} {a : Act} {Q : Exit → Act → World → Prop} (hg : o.guard = none) (l c : Operand)
    (hop : o.op = Op.makeSlice 40 l c) (n : Nat) (hl : a.eval l = .int .i64 (n : Int)) (hc' : a.eval c = .int .i64 (n : Int)) (hn : n ≤ 1000)
    (hK : ∀ w' A, BxS w' w.heap.size 42 A → A.size = n * 3 → w.grownBy w' none → wpList Try.prog ops Q rest (a.put o.dst (.slice (some ⟨w.heap.size, 0, none⟩) n n)) w') :
    wpList Try.prog ops Q (o :: rest) a w := by
  obtain ⟨i0, hi, hz0, hz1, hz2⟩ := info_parts Try.info_chF
  obtain ⟨w', hrun, r1, r2⟩ := run_make_full (P := Try.prog) w w.heap.size 40 42 i0 (.agg #[.int .i64 0, .int .i64 0, .slice none 0 0]) 3 Try.underlying40 hi hz0 hz1 .i64 .i64 n (by rw [hz2]; omega) (by unfold maxLen; omega) (Nat.le_refl _)
  refine wpList_plain hg fun K hK2 => ?_
  unfold Oper.wp
  simp [execOp, hop, hl, hc', hrun, Result.andThen]
  rcases r1.2 with ⟨h1, h2⟩ | ⟨g, cap, cur, h1, _, h3, h4, h5, h6, h7⟩
  · cases h1
  · injection h1 with e1 e2 e3
    injection e1 with e1
    injection e1 with e1
    subst e1
    subst e3
    exact hK2 _ _ (hK w' cur h3 h6 r2)
end

section
theorem range_lt {w : World} {b o : Nat} {p : Pa} (h : w.rangeAt b o p.cells) : b < w.heap.size := by
  have := h 0 _ rfl
  exact cell_ltR this
theorem range_kp {w w' : World} {b o : Nat} {p : Pa} (h : w.rangeAt b o p.cells) (hg : w.grownBy w' none) : w'.rangeAt b o p.cells := range_keep h (range_lt h) hg
end
end Go.Proofs.Ytpcejajijaphbaa
