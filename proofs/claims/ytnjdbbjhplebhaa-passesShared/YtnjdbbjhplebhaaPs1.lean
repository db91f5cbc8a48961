import Derived.Test.YtnjdbbjhplebhaaPs0
import Derived.Test.YtnjdbbjhplebhaaRows
import Derived.WalkKit
import Derived.WalkSpells
import Derived.WalkLawsBesides
import Derived.Laws.BitsAllLaws
import Derived.Outline
import Derived.Deep.QuietTactic
import Derived.BigQuiet
import Derived.Laws.CopyOwn
import Derived.Laws.AppendOwnNone
import Derived.Deep.RegionHeld3
import Derived.Laws.BytesArg
import Derived.ArgAppend
import Derived.Laws.Rows
import Derived.Laws.Tables
import Derived.Test.YtnjdbbjhplebhaaProg
namespace Go.Proofs.Ytnjdbbjhplebhaa
open Go.RowKit
set_option maxRecDepth 100000
set_option linter.unusedVariables false
set_option linter.unusedSimpArgs false

section
/-- one is laid in -/
def pushH {α : Type} (lt : α → α → Bool) (d : α) (H : List α) (x : α) : List α := upH lt d H.length (H ++ [x]) H.length
theorem getD_app {α : Type} (d x : α) (H : List α) (k : Nat) : (H ++ [x]).getD k d = if k = H.length then x else H.getD k d := by
  rw [List.getD_eq_getElem?_getD, List.getD_eq_getElem?_getD]
  by_cases h : k < H.length
  · rw [List.getElem?_append_left h, if_neg (by omega)]
  · by_cases e : k = H.length
    · subst e
      rw [if_pos rfl, List.getElem?_append_right (Nat.le_refl _), Nat.sub_self]
      rfl
    · rw [if_neg e, List.getElem?_eq_none (by simp; omega), List.getElem?_eq_none (by omega)]
theorem pushH_ok {α : Type} {lt : α → α → Bool} {d : α} (o : LtO lt) {H : List α} (h : HpO lt d H H.length) (x : α) : HpO lt d (pushH lt d H x) (H.length + 1) ∧ (pushH lt d H x).Perm (x :: H) := by
  have hl : (H ++ [x]).length = H.length + 1 := by simp
  have k := upH_ok (d := d) o H.length (H ++ [x]) H.length (Nat.le_refl _) (by omega) (by
    rw [hl]
    constructor
    · intro i hi hin hne
      rw [getD_app, getD_app, if_neg hne, if_neg (by omega)]
      exact h i hi (by omega)
    · intro i hi hin hp h0
      omega)
  rw [hl] at k
  refine ⟨k.1, k.2.trans ?_⟩
  exact List.perm_append_comm
/-- the first is taken out: what is left -/
def popH {α : Type} (lt : α → α → Bool) (d : α) (H : List α) : List α := (dnH lt d (H.length - 1) (H.length - 1) (swL d H 0 (H.length - 1)) 0).take (H.length - 1)
theorem dnH_len {α : Type} (lt : α → α → Bool) (d : α) (n : Nat) : ∀ (f : Nat) (H : List α) (i : Nat), (dnH lt d n f H i).length = H.length
  | 0, H, i => rfl
  | f + 1, H, i => by
    unfold dnH
    split
    · rfl
    · split
      · rw [dnH_len lt d n f, swL_len]
      · rfl
theorem popH_ok {α : Type} {lt : α → α → Bool} {d : α} (o : LtO lt) {H : List α} (h : HpO lt d H H.length) (h0 : 0 < H.length) :
    HpO lt d (popH lt d H) (popH lt d H).length ∧ (H.getD 0 d :: popH lt d H).Perm H ∧ (popH lt d H).length = H.length - 1 ∧ (dnH lt d (H.length - 1) (H.length - 1) (swL d H 0 (H.length - 1)) 0).getD (H.length - 1) d = H.getD 0 d := by
  obtain ⟨n, hn⟩ : ∃ n, n = H.length - 1 := ⟨_, rfl⟩
  have gt := fun k => swL_get d H 0 n k h0 (by omega)
  have k := dnH_ok (d := d) o n n (swL d H 0 n) 0 (by omega) (by rw [swL_len]; omega) (by rw [swL_len]; exact h0) (by
    constructor
    · intro k hk hkn hp
      rw [gt k, gt ((k - 1) / 2), if_neg (by omega), if_neg (by omega), if_neg (by omega), if_neg (by omega)]
      exact h k hk (by omega)
    · intro k _ _ _ h00
      omega)
  unfold popH
  rw [← hn]
  have hlen := dnH_len lt d n n (swL d H 0 n) 0
  rw [swL_len] at hlen
  have hlast : (dnH lt d n n (swL d H 0 n) 0).getD n d = H.getD 0 d := by
    rw [k.2.2 n (Nat.le_refl _), gt n, if_pos rfl]
  generalize dnH lt d n n (swL d H 0 n) 0 = X at k hlen hlast
  have htl : (X.take n).length = n := by rw [List.length_take]; omega
  have hget : ∀ i, i < n → (X.take n).getD i d = X.getD i d := fun i hi => by
    rw [List.getD_eq_getElem?_getD, List.getD_eq_getElem?_getD, List.getElem?_take, if_pos hi]
  refine ⟨fun i hi hil => ?_, ?_, htl, hlast⟩
  · rw [htl] at hil
    rw [hget i hil, hget _ (by omega)]
    exact k.1 i hi hil
  · have e : X = X.take n ++ [H.getD 0 d] := by
      have hx : X[n]? = some (H.getD 0 d) := by
        rw [List.getElem?_eq_getElem (by omega)]
        rw [List.getD_eq_getElem?_getD, List.getElem?_eq_getElem (by omega)] at hlast
        simpa using hlast
      have h1 : X.take (n + 1) = X := List.take_of_length_le (by omega)
      rw [List.take_add_one, hx] at h1
      exact h1.symm
    have p1 : (X.take n ++ [H.getD 0 d]).Perm H := by
      rw [← e]
      exact k.2.1.trans (swL_perm d H 0 n h0 (by omega))
    exact List.perm_append_comm.symm.trans p1
/-- a load: its place, from when, by when, what is left -/
structure Ld where
  pl : Nat
  fr : Nat
  by' : Nat
  lf : Nat
def ld0 : Ld := ⟨0, 0, 0, 0⟩
/-- which of two goes first -/
def ltQ (a b : Ld) : Bool := decide (a.by' < b.by') || (decide (a.by' = b.by') && decide (a.pl < b.pl))
theorem ltQ_iff (a b : Ld) : ltQ a b = true ↔ a.by' < b.by' ∨ (a.by' = b.by' ∧ a.pl < b.pl) := by
  unfold ltQ
  rw [Bool.or_eq_true, Bool.and_eq_true, decide_eq_true_iff, decide_eq_true_iff, decide_eq_true_iff]
theorem ltQ_no (a b : Ld) : ltQ a b = false ↔ ¬ (a.by' < b.by' ∨ (a.by' = b.by' ∧ a.pl < b.pl)) := by
  rw [← ltQ_iff]
  cases ltQ a b <;> simp
theorem ltQ_o : LtO ltQ :=
  ⟨fun a b h => by rw [ltQ_iff] at h; rw [ltQ_no]; omega, fun a b c h1 h2 => by rw [ltQ_no] at h1 h2 ⊢; omega⟩
/-- the queue: a heap of those jobs that are there (rel) and not yet gone -/
structure QS (J : Nat → Jb) (n : Nat) (rel : Nat → Prop) (L : Nat → Nat) (H : List Ld) : Prop where
  heap : HpO ltQ ld0 H H.length
  nd : (H.map Ld.pl).Nodup
  val : ∀ x, x ∈ H → x.pl < n ∧ rel x.pl ∧ x.fr = (J x.pl).fr ∧ x.by' = (J x.pl).by' ∧ x.lf = L x.pl ∧ 0 < x.lf
  all : ∀ i, i < n → 0 < L i → rel i → ∃ x, x ∈ H ∧ x.pl = i
theorem getD_mem {H : List Ld} {i : Nat} (hi : i < H.length) : H.getD i ld0 ∈ H := by
  rw [List.getD_eq_getElem?_getD, List.getElem?_eq_getElem hi]
  exact List.getElem_mem hi
theorem QS.none' {J : Nat → Jb} {n t : Nat} {L : Nat → Nat} (h : QS J n (fun i => (J i).fr ≤ t) L []) : nxt J t L n = none := by
  cases hn : nxt J t L n with
  | none => rfl
  | some k =>
    obtain ⟨hk, hw, _⟩ := nxt_some hn
    unfold wt at hw
    rw [Bool.and_eq_true, decide_eq_true_iff, decide_eq_true_iff] at hw
    obtain ⟨x, hx, _⟩ := h.all k hk hw.1 hw.2
    cases hx
/-- ITS FIRST IS THE ONE THAT GOES NEXT -/
theorem QS.nxt {J : Nat → Jb} {n t : Nat} {L : Nat → Nat} {H : List Ld} (h : QS J n (fun i => (J i).fr ≤ t) L H) (h0 : 0 < H.length) : nxt J t L n = some (H.getD 0 ld0).pl := by
  obtain ⟨v1, v2, v3, v4, v5, v6⟩ := h.val _ (getD_mem h0)
  refine nxt_is v1 (by unfold wt; rw [decide_eq_true (by omega), decide_eq_true v2]; rfl) (fun i hi hw => ?_)
  unfold wt at hw
  rw [Bool.and_eq_true, decide_eq_true_iff, decide_eq_true_iff] at hw
  obtain ⟨x, hx, rfl⟩ := h.all i hi hw.1 hw.2
  obtain ⟨k, hk, e⟩ := List.getElem_of_mem hx
  have hle := h.heap.least ltQ_o k hk
  rw [show H.getD k ld0 = x by rw [List.getD_eq_getElem?_getD, List.getElem?_eq_getElem hk]; exact e, ltQ_no] at hle
  have hb := (h.val x hx).2.2.2.1
  omega
theorem QS.perm {J : Nat → Jb} {n : Nat} {rel rel' : Nat → Prop} {L L' : Nat → Nat} {H H' : List Ld} (hh : HpO ltQ ld0 H' H'.length) (p : H'.Perm H) (nd : (H.map Ld.pl).Nodup)
    (val : ∀ x, x ∈ H → x.pl < n ∧ rel' x.pl ∧ x.fr = (J x.pl).fr ∧ x.by' = (J x.pl).by' ∧ x.lf = L' x.pl ∧ 0 < x.lf) (all : ∀ i, i < n → 0 < L' i → rel' i → ∃ x, x ∈ H ∧ x.pl = i) : QS J n rel' L' H' :=
  ⟨hh, (p.map Ld.pl).nodup_iff.2 nd, fun x hx => val x (p.mem_iff.1 hx), fun i h1 h2 h3 => by
    obtain ⟨x, hx, e⟩ := all i h1 h2 h3
    exact ⟨x, p.mem_iff.2 hx, e⟩⟩
/-- one more is there -/
theorem QS.push {J : Nat → Jb} {n : Nat} {rel : Nat → Prop} {L : Nat → Nat} {H : List Ld} (h : QS J n rel L H) (x : Ld) (hx : x.pl < n ∧ x.fr = (J x.pl).fr ∧ x.by' = (J x.pl).by' ∧ x.lf = L x.pl ∧ 0 < x.lf) (hn : ¬ rel x.pl) : QS J n (fun i => rel i ∨ i = x.pl) L (pushH ltQ ld0 H x) := by
  obtain ⟨h1, h2⟩ := pushH_ok ltQ_o h.heap x
  have hl : (pushH ltQ ld0 H x).length = H.length + 1 := by rw [h2.length_eq]; rfl
  refine QS.perm (rel := rel) (L := L) (H := x :: H) (by rw [hl]; exact h1) h2 ?_ ?_ ?_
  · rw [List.map_cons]
    refine List.nodup_cons.2 ⟨fun hm => ?_, h.nd⟩
    obtain ⟨y, hy, e⟩ := List.mem_map.1 hm
    exact hn (e ▸ (h.val y hy).2.1)
  · intro y hy
    rcases List.mem_cons.1 hy with rfl | hy
    · exact ⟨hx.1, .inr rfl, hx.2.1, hx.2.2.1, hx.2.2.2.1, hx.2.2.2.2⟩
    · obtain ⟨v1, v2, v3⟩ := h.val y hy
      exact ⟨v1, .inl v2, v3⟩
  · intro i hi hL hr
    rcases hr with hr | rfl
    · obtain ⟨y, hy, e⟩ := h.all i hi hL hr
      exact ⟨y, List.mem_cons_of_mem _ hy, e⟩
    · exact ⟨x, List.mem_cons_self .., rfl⟩
/-- of the first a part goes -/
theorem QS.part {J : Nat → Jb} {n m : Nat} {rel : Nat → Prop} {L : Nat → Nat} {x : Ld} {H : List Ld} (h : QS J n rel L (x :: H)) (hm : m < x.lf) : QS J n rel (less L x.pl m) ({ x with lf := x.lf - m } :: H) := by
  have hmap : ({ x with lf := x.lf - m } :: H).map Ld.pl = (x :: H).map Ld.pl := rfl
  have hg : ∀ i, ltQ (({ x with lf := x.lf - m } :: H).getD i ld0) (({ x with lf := x.lf - m } :: H).getD ((i - 1) / 2) ld0) = ltQ ((x :: H).getD i ld0) ((x :: H).getD ((i - 1) / 2) ld0) := by
    intro i
    have e : ∀ k, (({ x with lf := x.lf - m } :: H).getD k ld0).by' = ((x :: H).getD k ld0).by' ∧ (({ x with lf := x.lf - m } :: H).getD k ld0).pl = ((x :: H).getD k ld0).pl := by
      intro k
      cases k with
      | zero => exact ⟨rfl, rfl⟩
      | succ k => exact ⟨rfl, rfl⟩
    unfold ltQ
    rw [(e i).1, (e i).2, (e ((i - 1) / 2)).1, (e ((i - 1) / 2)).2]
  obtain ⟨n1, n2⟩ := List.nodup_cons.1 (show (x.pl :: H.map Ld.pl).Nodup from h.nd)
  refine ⟨fun i hi hl => by rw [hg]; exact h.heap i hi hl, by rw [hmap]; exact h.nd, fun y hy => ?_, fun i hi hL hr => ?_⟩
  · rcases List.mem_cons.1 hy with rfl | hy
    · obtain ⟨v1, v2, v3, v4, v5, v6⟩ := h.val x (List.mem_cons_self ..)
      refine ⟨v1, v2, v3, v4, ?_, by show 0 < x.lf - m; omega⟩
      show x.lf - m = less L x.pl m x.pl
      unfold less
      rw [if_pos rfl, v5]
    · obtain ⟨v1, v2, v3, v4, v5, v6⟩ := h.val y (List.mem_cons_of_mem _ hy)
      refine ⟨v1, v2, v3, v4, ?_, v6⟩
      unfold less
      rw [if_neg (fun e : y.pl = x.pl => n1 (e ▸ List.mem_map.2 ⟨y, hy, rfl⟩))]
      exact v5
  · have hL2 : 0 < L i := Nat.lt_of_lt_of_le hL (less_le L x.pl m i)
    obtain ⟨y, hy, e⟩ := h.all i hi hL2 hr
    rcases List.mem_cons.1 hy with rfl | hy
    · exact ⟨_, List.mem_cons_self .., e⟩
    · exact ⟨y, List.mem_cons_of_mem _ hy, e⟩
end

section
/-
  The field of 256 numbers, plainly: products by doubling, the document's product (all out, then the rest), inverses, powers of 2. No Go in sight.
-/
namespace Fld
/-- x times 2 -/
def dbl (a : Nat) : Nat := if a < 128 then 2 * a else (2 * a % 256) ^^^ 135
def dblN : Nat → Nat → Nat
  | 0, a => a
  | k + 1, a => dbl (dblN k a)
def mulS (a b : Nat) : Nat → Nat
  | 0 => 0
  | k + 1 => mulS a b k ^^^ (if b.testBit k then dblN k a else 0)
def mul (a b : Nat) : Nat := mulS a b 8

/-! two additive functions that agree at the bits agree -/
theorem mul_one_all : ∀ a, a < 256 → mul a 1 = a := by decide +kernel
theorem mul_one {a : Nat} (h : a < 256) : mul a 1 = a := mul_one_all a h
/-! powers and inverse -/
/-! the document's product: all out, then the rest -/
/-! logs -/
/-- the powers, one behind the other: does a come among the k from p on? -/
def comes (a : Nat) : Nat → Nat → Bool
  | 0, _ => false
  | k + 1, p => p == a || comes a k (dbl p)
end Fld

/-! the document's -/
/-! powers of 2 -/
/-! the contracts once more, over whole numbers: they fit whatever stands in a slot -/
end

section
/-! lists of bytes, and how they lie in memory -/
def nth (L : List Nat) (k : Nat) : Nat := L.getD k 0
def bys (L : List Nat) : List Value := L.map fun (n : Nat) => Value.int .u8 (n : Int)
def IsB (L : List Nat) : Prop := ∀ x, x ∈ L → x < 256
theorem IsB.nth {L : List Nat} (h : IsB L) (k : Nat) : nth L k < 256 := by
  unfold Go.Proofs.Ytnjdbbjhplebhaa.nth
  by_cases hk : k < L.length
  · rw [List.getD_eq_getElem?_getD, List.getElem?_eq_getElem hk]; exact h _ (List.getElem_mem hk)
  · rw [List.getD_eq_getElem?_getD, List.getElem?_eq_none (by omega)]; decide
/-- A slice of bytes as it is read: n of them, the numbers L. -/
structure Rd (w : World) (a : Option Addr) (n cap : Nat) (L : List Nat) : Prop where
  len : L.length = n
  le : n ≤ cap
  max : cap ≤ maxLen
  nil : a = none → cap = 0
  byte : IsB L
  at' : 0 < n → ∃ b off, a = some ⟨b, off, none⟩ ∧ b < w.heap.size ∧ ∀ i, i < n → w.cell? ⟨b, off + i, none⟩ = some (.int .u8 (nth L i : Nat))
/-- Block g is a row of bytes, the call's own: the numbers L. -/
def Blk (w : World) (g : Nat) (L : List Nat) : Prop := w.heap[g]? = some (.cells (bys L).toArray 5)
theorem nth_bys (L : List Nat) (i : Nat) (hi : i < L.length) : (bys L)[i]? = some (.int .u8 (nth L i : Nat)) := by
  unfold bys nth
  rw [List.getElem?_map, List.getElem?_eq_getElem hi, List.getD_eq_getElem?_getD, List.getElem?_eq_getElem hi]; rfl
theorem Blk.lt {w : World} {g : Nat} {L : List Nat} (h : Blk w g L) : g < w.heap.size := (Array.getElem?_eq_some_iff.1 h).1
theorem Blk.cell {w : World} {g : Nat} {L : List Nat} (h : Blk w g L) (i : Nat) (hi : i < L.length) : w.cell? ⟨g, i, none⟩ = some (.int .u8 (nth L i : Nat)) := by
  rw [cell_of_row w g i _ _ _ h]; simpa using nth_bys L i hi
theorem Blk.free {w : World} {g : Nat} {L : List Nat} (h : Blk w g L) (i : Nat) : w.frozen? ⟨g, i, none⟩ = false := frozen_of_row w g i _ _ h
theorem Blk.set {w : World} {g : Nat} {L : List Nat} (h : Blk w g L) (i x : Nat) : Blk (w.setCell ⟨g, i, none⟩ (.int .u8 (x : Int))) g (L.set i x) := by
  unfold Blk
  rw [heap_setCell_same w g i _ _ _ h]
  simp [bys, List.map_set]
theorem Blk.grown {w w' : World} {g : Nat} {L : List Nat} {r : Option Nat} (h : Blk w g L) (hg : w.grownBy w' r) (hne : some g ≠ r) : Blk w' g L := by
  unfold Blk; rw [hg.block g h.lt hne]; exact h
theorem Blk.below {w w' : World} {g B : Nat} {L : List Nat} (h : Blk w g L) (hb : Below B w w') (hl : g < B) : Blk w' g L := by
  unfold Blk; rw [hb.block g hl]; exact h
theorem grown_set (w : World) (g i : Nat) (v : Value) : w.grownBy (w.setCell ⟨g, i, none⟩ v) (some g) :=
  ⟨rfl, rfl, rfl, by simp [World.setCell], fun k _ hk => heap_setCell_other w _ k v (fun e => hk (by rw [e]))⟩
theorem grown_trans {a b c : World} {r : Option Nat} (h : a.grownBy b r) (k : b.grownBy c r) : a.grownBy c r :=
  ⟨k.os.trans h.os, k.tape.trans h.tape, k.output.trans h.output, Nat.le_trans h.size k.size, fun i hi hn => (k.block i (Nat.lt_of_lt_of_le hi h.size) hn).trans (h.block i hi hn)⟩
theorem grown_drew (w : World) (r : Option Nat) : w.grownBy w.drew r := ⟨rfl, rfl, rfl, Nat.le_refl _, fun _ _ _ => rfl⟩
theorem grown_weak {a b : World} (h : a.grownBy b none) (r : Option Nat) : a.grownBy b r := ⟨h.os, h.tape, h.output, h.size, fun k hk _ => h.block k hk (by simp)⟩
theorem Rd.grown {w w' : World} {a : Option Addr} {n cap : Nat} {L : List Nat} {r : Option Nat} (h : Rd w a n cap L) (hg : w.grownBy w' r) (hne : ∀ b off, a = some ⟨b, off, none⟩ → some b ≠ r) : Rd w' a n cap L := by
  refine ⟨h.len, h.le, h.max, h.nil, h.byte, fun h0 => ?_⟩
  obtain ⟨b, off, rfl, hb, hc⟩ := h.at' h0
  refine ⟨b, off, rfl, Nat.lt_of_lt_of_le hb hg.size, fun i hi => ?_⟩
  exact (World.cell?_of_block (w := w) (hg.block b hb (hne b off rfl))).trans (hc i hi)

theorem Rd.ne {w : World} {a : Option Addr} {n cap g : Nat} {L : List Nat} (h : Rd w a n cap L) (hg : w.heap.size ≤ g) : 0 < n → ∀ b off, a = some ⟨b, off, none⟩ → some b ≠ some g := by
  intro h0 b off e
  obtain ⟨b', off', e', hb, _⟩ := h.at' h0
  rw [e'] at e
  cases e
  simp; omega
theorem isB_set {L : List Nat} (h : IsB L) (i x : Nat) (hx : x < 256) : IsB (L.set i x) := by
  intro y hy
  rcases List.mem_or_eq_of_mem_set hy with h1 | h1
  · exact h y h1
  · rw [h1]; exact hx
theorem bys_length (L : List Nat) : (bys L).length = L.length := by simp [bys]

/-- a copy of L with marks in its spare room -/
structure Roomy (w : World) (g n : Nat) (L D : List Nat) : Prop where
  blk : Blk w g D
  len : D.length = n + 5
  byte : IsB D
  own : ∀ i, i < n → nth D i = nth L i
  mark : ∀ i, n ≤ i → i < n + 5 → nth D i = (90 + i) % 256
theorem grown_drewN (w : World) (n : Nat) (r : Option Nat) : w.grownBy (w.drewN n) r := ⟨rfl, rfl, rfl, Nat.le_refl _, fun _ _ _ => rfl⟩
theorem Roomy.grown {w w' : World} {g n : Nat} {L D : List Nat} {r : Option Nat} (h : Roomy w g n L D) (hg : w.grownBy w' r) (hne : some g ≠ r) : Roomy w' g n L D :=
  ⟨h.blk.grown hg hne, h.len, h.byte, h.own, h.mark⟩

theorem addr_add (b off j : Nat) : (⟨b, off, none⟩ : Addr).add j = ⟨b, off + j, none⟩ := by unfold Addr.add; split <;> simp_all

theorem own_set {w : World} {g n cap : Nat} {L : List Nat} (h : w.ownsRow 0 5 1 (.slice (some ⟨g, 0, none⟩) n cap) n (bys L)) (j x : Nat) :
    (w.setCell ⟨g, j, none⟩ (.int .u8 (x : Int))).ownsRow 0 5 1 (.slice (some ⟨g, 0, none⟩) n cap) n (bys (L.set j x)) := by
  have := (h.stored j (.int .u8 (x : Int))).1
  have e : (bys L).set j (.int .u8 (x : Int)) = bys (L.set j x) := by simp [bys, List.map_set]
  rw [e] at this; exact this
theorem grown_new {a b c : World} {g : Nat} {r : Option Nat} (h : a.grownBy b r) (k : b.grownBy c (some g)) (hg : r = some g ∨ a.heap.size ≤ g) : a.grownBy c r :=
  ⟨k.os.trans h.os, k.tape.trans h.tape, k.output.trans h.output, Nat.le_trans h.size k.size, fun i hi hn => (k.block i (Nat.lt_of_lt_of_le hi h.size) (by rcases hg with rfl | hg <;> simp_all <;> omega)).trans (h.block i hi hn)⟩
/-- An answer: the bytes L, in memory of its own, from block lo on. -/
structure Ans (w : World) (lo : Nat) (a : Option Addr) (n cap : Nat) (L : List Nat) : Prop where
  own : w.ownsRow 0 5 1 (.slice a n cap) n (bys L)
  byte : IsB L
  new : ∀ g, (Value.slice a n cap).ownBlock = some g → lo ≤ g
theorem Ans.len {w : World} {lo : Nat} {a : Option Addr} {n cap : Nat} {L : List Nat} (h : Ans w lo a n cap L) : L.length = n := by
  have := h.own.1; rw [bys_length] at this; omega
theorem Ans.cases {w : World} {lo : Nat} {a : Option Addr} {n cap : Nat} {L : List Nat} (h : Ans w lo a n cap L) :
    (a = none ∧ n = 0 ∧ cap = 0) ∨ ∃ g, a = some ⟨g, 0, none⟩ ∧ lo ≤ g ∧ g < w.heap.size := by
  rcases h.own.2 with ⟨h1, h2⟩ | ⟨g, cap', cur, h1, _, h3, _⟩
  · simp only [Value.slice.injEq] at h1; exact .inl h1
  · simp only [Value.slice.injEq] at h1
    obtain ⟨rfl, _, _⟩ := h1
    exact .inr ⟨g, rfl, h.new g rfl, (Array.getElem?_eq_some_iff.1 h3).1⟩
theorem Ans.max {w : World} {lo : Nat} {a : Option Addr} {n cap : Nat} {L : List Nat} (h : Ans w lo a n cap L) : n ≤ cap ∧ cap ≤ maxLen := by
  rcases h.own.2 with ⟨h1, h2⟩ | ⟨g, cap', cur, h1, _, h3, h4, h5, _⟩
  · simp only [Value.slice.injEq] at h1; obtain ⟨_, h6, h7⟩ := h1; subst h6; subst h7; exact ⟨Nat.le_refl _, Nat.zero_le _⟩
  · simp only [Value.slice.injEq] at h1; obtain ⟨_, _, h7⟩ := h1; subst h7; exact ⟨h4, h5⟩
theorem Ans.kept {w w' : World} {lo : Nat} {a : Option Addr} {n cap : Nat} {L : List Nat} {r : Option Nat} (h : Ans w lo a n cap L) (hg : w.grownBy w' r) (hne : (Value.slice a n cap).ownBlock = none ∨ (Value.slice a n cap).ownBlock ≠ r) : Ans w' lo a n cap L :=
  ⟨h.own.kept hg hne, h.byte, h.new⟩
end

section
theorem grown_far {a b c : World} {r : Option Nat} (h : a.grownBy b none) (k : b.grownBy c r) (hr : ∀ g, r = some g → a.heap.size ≤ g) : a.grownBy c none :=
  ⟨k.os.trans h.os, k.tape.trans h.tape, k.output.trans h.output, Nat.le_trans h.size k.size, fun i hi hn => (k.block i (Nat.lt_of_lt_of_le hi h.size) (fun e => by have := hr i e.symm; omega)).trans (h.block i hi hn)⟩
theorem Ans.far {wa : World} {lo : Nat} {a : Option Addr} {n cap : Nat} {L : List Nat} (ha : Ans wa lo a n cap L) (B : Nat) (h : B ≤ lo) : ∀ g, (Value.slice a n cap).ownBlock = some g → B ≤ g := fun g hg => Nat.le_trans h (ha.new g hg)
theorem Ans.keep {w w' : World} {lo : Nat} {a : Option Addr} {n cap : Nat} {L : List Nat} (h : Ans w lo a n cap L) (hg : w.grownBy w' none) : Ans w' lo a n cap L :=
  h.kept hg (by cases (Value.slice a n cap).ownBlock <;> simp)
theorem Rd.keep {w w' : World} {a : Option Addr} {n cap : Nat} {L : List Nat} (h : Rd w a n cap L) (hg : w.grownBy w' none) : Rd w' a n cap L := h.grown hg (fun _ _ _ => by simp)
theorem Roomy.keep {w w' : World} {g n : Nat} {L D : List Nat} (h : Roomy w g n L D) (hg : w.grownBy w' none) : Roomy w' g n L D := h.grown hg (by simp)
end

section
/-- a value of several cells in a box -/
def BxS (w : World) (g : Nat) (t : TypeId) (cs : Array Value) : Prop := w.heap[g]? = some (.cells cs t)
theorem BxS.lt {w : World} {g : Nat} {t : TypeId} {cs : Array Value} (h : BxS w g t cs) : g < w.heap.size := (Array.getElem?_eq_some_iff.1 h).1
theorem BxS.free {w : World} {g : Nat} {t : TypeId} {cs : Array Value} (h : BxS w g t cs) (i : Nat) : w.frozen? ⟨g, i, none⟩ = false := frozen_of_row w g i _ _ h
theorem BxS.cell {w : World} {g : Nat} {t : TypeId} {cs : Array Value} (h : BxS w g t cs) (i : Nat) (hi : i < cs.size) : w.cell? ⟨g, i, none⟩ = some cs[i] := by
  rw [cell_of_row w g i cs t (0, 0) h, Array.getElem?_eq_getElem hi]
theorem BxS.keep {w w' : World} {g : Nat} {t : TypeId} {cs : Array Value} {r : Option Nat} (h : BxS w g t cs) (hg : w.grownBy w' r) (hne : some g ≠ r) : BxS w' g t cs := (hg.block g h.lt hne).trans h
theorem BxS.new (w : World) (t : TypeId) (cs : Array Value) : BxS (w.alloc (.cells cs t)) w.heap.size t cs := heap_alloc_new w _
theorem BxS.set {w : World} {g : Nat} {t : TypeId} {cs : Array Value} (h : BxS w g t cs) (i : Nat) (v : Value) : BxS (w.setCell ⟨g, i, none⟩ v) g t (cs.set! i v) := by
  unfold BxS
  rw [setCell_eq_setRow w g i _ _ _ _ h]
  exact setRow_heap w g _ _ _ _ h
theorem BxS.row {w : World} {g : Nat} {t : TypeId} {cs : Array Value} (h : BxS w g t cs) (ds : Array Value) : BxS (w.setRow g ds) g t ds := setRow_heap w g _ _ _ _ h
theorem BxS.load {w : World} {g : Nat} {t : TypeId} {cs : Array Value} (h : BxS w g t cs) {fs : Array Field} (hu : Try.prog.underlying t = some (.struct fs)) (hi : (Try.prog.info? t).map (·.size) = some cs.size) :
    (loadVar t ⟨g, 0, none⟩).run Try.prog w = .ok (.agg cs) w := run_loadVar_row w g t t cs (0, 0) (.struct fs) h hu rfl hi
/-- one cell of a box is written -/
theorem wpList_stC (w : World) {ops : Array Oper} {rest : List Oper} {o : Oper} {a : Act} {Q : Exit → Act → World → Prop} (hg : o.guard = none) (t : TypeId) (p x : Operand) (hop : o.op = Op.store t p x)
    (g i : Nat) (ty : TypeId) (A A' : Array Value) (v : Value) (hp : a.eval p = .pointer (some ⟨g, i, none⟩)) (hx : a.eval x = v) (hB : BxS w g ty A)
    (hst : ∀ w' : World, (∃ u, w'.cell? ⟨g, i, none⟩ = some u) → w'.frozen? ⟨g, i, none⟩ = false → (Instr.storeAt t (.pointer (some ⟨g, i, none⟩)) v).run Try.prog w' = .ok () (w'.setCell ⟨g, i, none⟩ v)) (hi : i < A.size) (hA : A.setIfInBounds i v = A')
    (hK : ∀ w', BxS w' g ty A' → w.grownBy w' (some g) → wpList Try.prog ops Q rest (a.put o.dst undef) w') :
    wpList Try.prog ops Q (o :: rest) a w := by
  refine wpList_plain hg fun K hK' => ?_
  have hc : ∃ u, w.cell? ⟨g, i, none⟩ = some u := ⟨A[i], by rw [cell_of_row w g i _ _ _ hB]; simp [hi]⟩
  have hf := frozen_of_row w g i _ _ hB
  unfold Oper.wp
  simp [execOp, hop, hp, hx, hst w hc hf, Result.andThen]
  exact hK' _ _ (hK _ (by unfold BxS; rw [heap_setCell_same w g i _ _ _ hB, hA]) (grown_set w g i v))
theorem stc_int (g i : Nat) (n : Int) (w : World) (hc : ∃ u, w.cell? ⟨g, i, none⟩ = some u) (hf : w.frozen? ⟨g, i, none⟩ = false) : (Instr.storeAt 3 (.pointer (some ⟨g, i, none⟩)) (.int .i64 n)).run Try.prog w = .ok () (w.setCell ⟨g, i, none⟩ (.int .i64 n)) := by
  obtain ⟨u, hc⟩ := hc
  simp [go_sem, hc, hf]
end

section
section
variable {P : Program} {ops : Array Oper} {Q : Exit → Act → World → Prop} {md : Region.Mode} {S : World → Prop}
/-- those of C have not come up, and none of them can ahead of i -/
def waitZ (md : Region.Mode) (ops : Array Oper) (listed : Array Bool) (i : Nat) (C : List Nat) : Bool :=
  C.all fun c => !(listed.getD c true) && match ops[c]? with | some oc => oc.after.any (fun e => Region.binds md e && (e.on == i || C.contains e.on)) | none => false
theorem waitZ_no {listed : Array Bool} {i : Nat} {C : List Nat} (h : waitZ md ops listed i C = true) (hi : i ∈ Region.ready md ops listed) {j : Nat} (hj : j ∈ Region.ready md ops listed) : j ∉ C := by
  intro hc
  have h1 := List.all_eq_true.1 h j hc
  obtain ⟨hjun, oj, hoj, hall⟩ := mem_ready.1 hj
  simp only [hoj, Bool.and_eq_true, Bool.not_eq_true'] at h1
  obtain ⟨e, he, hb⟩ := Array.any_eq_true'.1 h1.2
  simp only [Bool.and_eq_true, Bool.or_eq_true, beq_iff_eq, List.contains_iff_mem] at hb
  have hd := hall e he hb.1
  have hun : listed.getD e.on true = false := by
    rcases hb.2 with h2 | h2
    · rw [h2]; exact (mem_ready.1 hi).1
    · have := List.all_eq_true.1 h e.on h2
      simp only [Bool.and_eq_true, Bool.not_eq_true'] at this
      exact this.1
  rcases Nat.lt_or_ge e.on listed.size with h' | h'
  · simp [h'] at hun hd; rw [hun] at hd; cases hd
  · simp [Array.getElem?_eq_none h'] at hun
theorem waitZ_step {listed : Array Bool} {i : Nat} {C : List Nat} (h : waitZ md ops listed i C = true) {j : Nat} (hj : j ∉ C) : waitZ md ops (listed.setIfInBounds j true) i C = true := by
  unfold waitZ at *
  rw [List.all_eq_true] at *
  intro c hc
  have h1 := h c hc
  have : j ≠ c := fun e => hj (e ▸ hc)
  rw [getD_set_ne true this]
  exact h1
end

section
variable {P : Program} {ops : Array Oper} {Q : Exit → Act → World → Prop} {md : Region.Mode} {S : World → Prop}
end
end

section
section
variable {P : Program} {ops : Array Oper} {Q : Exit → Act → World → Prop} {md : Region.Mode} {S : World → Prop}
/-- whatever order is picked from here on, and S holds behind every operation but those of Z, the last ones -/
def wpAnyY (P : Program) (md : Region.Mode) (ops : Array Oper) (Q : Exit → Act → World → Prop) (S : World → Prop) (Z : List Nat) : Nat → Array Bool → Act → World → Prop
  | 0, listed, a, w => Region.ready md ops listed = [] ∧ Q .normal a w
  | fuel + 1, listed, a, w =>
    (Region.ready md ops listed = [] → Q .normal a w) ∧
    ∀ i ∈ Region.ready md ops listed, wpOp P ops Q i (fun a' w' => (S w → i ∉ Z → S w') ∧ wpAnyY P md ops Q S Z fuel (listed.setIfInBounds i true) a' w') a w
theorem wpAny_of_Y (Z : List Nat) : ∀ (fuel : Nat) (listed : Array Bool) (a : Act) (w : World), wpAnyY P md ops Q S Z fuel listed a w → wpAny P md ops Q fuel listed a w
  | 0, _, _, _, h => h
  | fuel + 1, _, _, _, h => ⟨h.1, fun i hi => wpOp_mono (fun a' w' h' => wpAny_of_Y Z fuel _ a' w' h'.2) (h.2 i hi)⟩
theorem wpAnyY_first {Z C : List Nat} (hz : ∀ z, z ∈ Z → z ∈ C) {i : Nat} {oi : Oper} {v : Value} (hi : ops[i]? = some oi) (hsel : ∀ (j : Nat) (o : Oper) cs b, ops[j]? = some o → o.op ≠ .select cs b)
    (hQ : ∀ c a w, Q (.panic c) (a.put oi.dst v) w → Q (.panic c) a w) :
    ∀ (fuel : Nat) (listed : Array Bool) (a : Act) (w : World),
      (∀ j oj, ops[j]? = some oj → j ≠ i → listed.getD j true = false → (∀ e ∈ oj.after, Region.binds md e = true → e.on ≠ i) → oi.apart ops oj = true) →
      i ∈ Region.ready md ops listed → waitZ md ops listed i C = true → YieldsIf P ops S oi v a → S w →
      wpAnyY P md ops Q S Z fuel (listed.setIfInBounds i true) (a.put oi.dst v) w → wpAnyY P md ops Q S Z (fuel + 1) listed a w := by
  intro fuel
  induction fuel with
  | zero =>
    intro listed a w _ hr hW hy hS H
    refine ⟨fun h => (by rw [h] at hr; cases hr), fun j hj => ?_⟩
    by_cases hji : j = i
    · subst hji; exact hy.wpOp hi hS ⟨fun h _ => h, H⟩
    · have := ready_mono hj hji
      rw [H.1] at this
      cases this
  | succ fuel ih =>
    intro listed a w hfree hr hW hy hS H
    refine ⟨fun h => (by rw [h] at hr; cases hr), fun j hj => ?_⟩
    by_cases hji : j = i
    · subst hji; exact hy.wpOp hi hS ⟨fun h _ => h, H⟩
    · have hjC := waitZ_no hW hr hj
      have hjz : j ∉ Z := fun e => hjC (hz j e)
      have h1 := H.2 j (ready_mono hj hji)
      obtain ⟨hjun, oj, hoj, hall⟩ := mem_ready.1 hj
      have hnot : ∀ e ∈ oj.after, Region.binds md e = true → e.on ≠ i := fun e he hb heq => by
        have h1 := hall e he hb
        have h0 := (mem_ready.1 hr).1
        rw [heq] at h1
        rcases Nat.lt_or_ge i listed.size with h' | h'
        · simp [h'] at h0 h1; rw [h0] at h1; cases h1
        · simp [Array.getElem?_eq_none h'] at h1
      have h2 := wpOp_putIf hoj (hfree j oj hoj hji hjun hnot) (fun cs b => hsel i oi cs b hi) (fun cs b => hsel j oj cs b hoj) hQ hy h1
      have hfree' : ∀ k ok, ops[k]? = some ok → k ≠ i → (listed.setIfInBounds j true).getD k true = false →
          (∀ e ∈ ok.after, Region.binds md e = true → e.on ≠ i) → oi.apart ops ok = true := fun k ok hk hki hun hno => by
        refine hfree k ok hk hki ?_ hno
        by_cases hjk : j = k
        · subst hjk; exact hjun
        · rw [getD_set_ne true hjk] at hun; exact hun
      refine wpOp_mono (fun a' w' h3 => ⟨h3.2.1, ih (listed.setIfInBounds j true) a' w' hfree' (ready_mono hr (Ne.symm hji)) (waitZ_step hW hjC) h3.1 (h3.2.1 hS hjz) ?_⟩) h2
      rw [Array.setIfInBounds_comm _ _ hji]
      exact h3.2.2
/-- take number i first -/
theorem wpAnyY_take {Z : List Nat} (C : List Nat) (i : Nat) {oi : Oper} (v : Value) {fuel : Nat} {listed : Array Bool} {a : Act} {w : World} (hi : ops[i]? = some oi)
    (hs : ((Z.all fun z => C.contains z) && Region.noSelect ops && Region.free md ops listed i && (Region.ready md ops listed).contains i && waitZ md ops listed i C) = true)
    (hQ : ∀ c a w, Q (.panic c) (a.put oi.dst v) w → Q (.panic c) a w) (hS : S w) (hw : Region.wanted oi (yielded ops a.tmps) = true) (hy : ∀ w, S w → (execOp a.eval oi).run P w = .ok (.value v) w)
    (h : wpAnyY P md ops Q S Z fuel (listed.setIfInBounds i true) (a.put oi.dst v) w) : wpAnyY P md ops Q S Z (fuel + 1) listed a w := by
  simp only [Bool.and_eq_true, List.contains_iff_mem, List.all_eq_true] at hs
  exact wpAnyY_first hs.1.1.1.1 hi (Region.noSelect_spec hs.1.1.1.2) hQ fuel listed a w (Region.free_spec hi hs.1.1.2) hs.1.2 hs.2 (.inl ⟨hw, hy⟩) hS h
/-- one alone may come up -/
theorem wpAnyY_one {Z : List Nat} (i : Nat) {o : Oper} {fuel : Nat} {listed : Array Bool} {a : Act} {w : World} (ho : ops[i]? = some o) (hr : Region.ready md ops listed = [i])
    (h : ∀ K' : Act → World → Prop, (∀ a' w', (S w → i ∉ Z → S w') → wpAnyY P md ops Q S Z fuel (listed.setIfInBounds i true) a' w' → K' a' w') → if Region.wanted o (yielded ops a.tmps) = true then Oper.wp P o a w K' Q else K' (a.put o.dst undef) w) :
    wpAnyY P md ops Q S Z (fuel + 1) listed a w := by
  refine ⟨fun h0 => (by rw [hr] at h0; cases h0), fun j hj => ?_⟩
  rw [hr] at hj
  have e := List.mem_singleton.1 hj
  subst e
  exact wpOp_step ho (fun K' hK => h K' (fun a w hS hW => hK a w ⟨hS, hW⟩))
theorem wpAnyY_done {Z : List Nat} {listed : Array Bool} {a : Act} {w : World} (hr : Region.ready md ops listed = []) (h : Q .normal a w) : ∀ fuel, wpAnyY P md ops Q S Z fuel listed a w
  | 0 => ⟨hr, h⟩
  | _ + 1 => ⟨fun _ => h, by rw [hr]; simp⟩
theorem wp_regionY {id : Nat} {a : Act} {w : World} (S : World → Prop) (Z : List Nat) (hm : P.follows .mixedOrders = true)
    (h : wpAnyY P .any ops Q S Z ops.size (Array.replicate ops.size false) a w.drew) : (Code.region id ops true).wp P Q a w :=
  wp_region_any hm (wpAny_of_Y Z _ _ _ _ h)
end

section
variable {P : Program} {ops : Array Oper} {Q : Exit → Act → World → Prop} {md : Region.Mode} {S : World → Prop}
/-- what yields in whatever world may be taken first, whatever of Z comes up ahead of it -/
theorem wpAnyY_firstF {Z : List Nat} {i : Nat} {oi : Oper} {v : Value} (hi : ops[i]? = some oi) (hsel : ∀ (j : Nat) (o : Oper) cs b, ops[j]? = some o → o.op ≠ .select cs b)
    (hQ : ∀ c a w, Q (.panic c) (a.put oi.dst v) w → Q (.panic c) a w) :
    ∀ (fuel : Nat) (listed : Array Bool) (a : Act) (w : World),
      (∀ j oj, ops[j]? = some oj → j ≠ i → listed.getD j true = false → (∀ e ∈ oj.after, Region.binds md e = true → e.on ≠ i) → oi.apart ops oj = true) →
      i ∈ Region.ready md ops listed → YieldsIf P ops (fun _ => True) oi v a →
      wpAnyY P md ops Q S Z fuel (listed.setIfInBounds i true) (a.put oi.dst v) w → wpAnyY P md ops Q S Z (fuel + 1) listed a w := by
  intro fuel
  induction fuel with
  | zero =>
    intro listed a w _ hr hy H
    refine ⟨fun h => (by rw [h] at hr; cases hr), fun j hj => ?_⟩
    by_cases hji : j = i
    · subst hji; exact hy.wpOp hi trivial ⟨fun h _ => h, H⟩
    · have := ready_mono hj hji
      rw [H.1] at this
      cases this
  | succ fuel ih =>
    intro listed a w hfree hr hy H
    refine ⟨fun h => (by rw [h] at hr; cases hr), fun j hj => ?_⟩
    by_cases hji : j = i
    · subst hji; exact hy.wpOp hi trivial ⟨fun h _ => h, H⟩
    · have h1 := H.2 j (ready_mono hj hji)
      obtain ⟨hjun, oj, hoj, hall⟩ := mem_ready.1 hj
      have hnot : ∀ e ∈ oj.after, Region.binds md e = true → e.on ≠ i := fun e he hb heq => by
        have h1 := hall e he hb
        have h0 := (mem_ready.1 hr).1
        rw [heq] at h1
        rcases Nat.lt_or_ge i listed.size with h' | h'
        · simp [h'] at h0 h1; rw [h0] at h1; cases h1
        · simp [Array.getElem?_eq_none h'] at h1
      have h2 := wpOp_putIf hoj (hfree j oj hoj hji hjun hnot) (fun cs b => hsel i oi cs b hi) (fun cs b => hsel j oj cs b hoj) hQ hy h1
      have hfree' : ∀ k ok, ops[k]? = some ok → k ≠ i → (listed.setIfInBounds j true).getD k true = false →
          (∀ e ∈ ok.after, Region.binds md e = true → e.on ≠ i) → oi.apart ops ok = true := fun k ok hk hki hun hno => by
        refine hfree k ok hk hki ?_ hno
        by_cases hjk : j = k
        · subst hjk; exact hjun
        · rw [getD_set_ne true hjk] at hun; exact hun
      refine wpOp_mono (fun a' w' h3 => ⟨h3.2.1, ih (listed.setIfInBounds j true) a' w' hfree' (ready_mono hr (Ne.symm hji)) h3.1 ?_⟩) h2
      rw [Array.setIfInBounds_comm _ _ hji]
      exact h3.2.2
theorem wpAnyY_takeF {Z : List Nat} (i : Nat) {oi : Oper} (v : Value) {fuel : Nat} {listed : Array Bool} {a : Act} {w : World} (hi : ops[i]? = some oi)
    (hs : (Region.noSelect ops && Region.free md ops listed i && (Region.ready md ops listed).contains i) = true)
    (hQ : ∀ c a w, Q (.panic c) (a.put oi.dst v) w → Q (.panic c) a w) (hw : Region.wanted oi (yielded ops a.tmps) = true) (hy : ∀ w, (execOp a.eval oi).run P w = .ok (.value v) w)
    (h : wpAnyY P md ops Q S Z fuel (listed.setIfInBounds i true) (a.put oi.dst v) w) : wpAnyY P md ops Q S Z (fuel + 1) listed a w := by
  simp only [Bool.and_eq_true, List.contains_iff_mem] at hs
  exact wpAnyY_firstF hi (Region.noSelect_spec hs.1.1) hQ fuel listed a w (Region.free_spec hi hs.1.2) hs.2 (.inl ⟨hw, fun w _ => hy w⟩) h
end
theorem wp_regionM {P : Program} {ops : Array Oper} {Q : Exit → Act → World → Prop} {id : Nat} {a : Act} {w : World} (S : World → Prop) (Z : List Nat) (L0 : Array Bool) (hL : Array.replicate ops.size false = L0) (hm : P.follows .mixedOrders = true)
    (h : wpAnyY P .any ops Q S Z ops.size L0 a w.drew) : (Code.region id ops true).wp P Q a w := by
  subst hL
  exact wp_regionY S Z hm h
theorem wpAnyY_oneB {P : Program} {ops : Array Oper} {Q : Exit → Act → World → Prop} {md : Region.Mode} {S : World → Prop} {Z : List Nat} (i : Nat) {o : Oper} {fuel : Nat} {listed : Array Bool} {a : Act} {w : World} (ho : ops[i]? = some o) (hr : (Region.ready md ops listed == [i]) = true)
    (h : ∀ K' : Act → World → Prop, (∀ a' w', (S w → i ∉ Z → S w') → wpAnyY P md ops Q S Z fuel (listed.setIfInBounds i true) a' w' → K' a' w') → if Region.wanted o (yielded ops a.tmps) = true then Oper.wp P o a w K' Q else K' (a.put o.dst undef) w) :
    wpAnyY P md ops Q S Z (fuel + 1) listed a w := wpAnyY_one i ho (eq_of_beq hr) h
theorem wpAnyY_doneB {P : Program} {ops : Array Oper} {Q : Exit → Act → World → Prop} {md : Region.Mode} {S : World → Prop} {Z : List Nat} {listed : Array Bool} {a : Act} {w : World} (hr : (Region.ready md ops listed == []) = true) (h : Q .normal a w) (fuel : Nat) : wpAnyY P md ops Q S Z fuel listed a w := wpAnyY_done (eq_of_beq hr) h fuel
end

section
/-- the number of the first region of a piece of code (0: none; n + 1: region n) -/
def fstR : Code → Nat
  | .region id _ _ => id + 1
  | .seq a _ => fstR a
  | .block _ b => fstR b
  | .loop b => fstR b
  | _ => 0
/-- the piece of code that begins with region n, as long as can be -/
def tailR (n : Nat) : Code → Code
  | .seq a b => if fstR a = n + 1 then .seq a b else match tailR n a with
    | .skip => tailR n b
    | c => c
  | .cond _ t e => match tailR n t with
    | .skip => tailR n e
    | c => c
  | .block _ b => tailR n b
  | .loop b => tailR n b
  | .region id o d => if id = n then .region id o d else .skip
  | _ => .skip
end
end Go.Proofs.Ytnjdbbjhplebhaa
