import Derived.Test.YtgnicopijocnjaaDoorRows
import Derived.WalkKit
import Derived.WalkSpells
import Derived.WalkLawsBesides
import Derived.Laws.BitsAllLaws
import Derived.Outline
import Derived.Deep.QuietTactic
import Derived.BigQuiet
import Derived.Laws.CopyOwn
import Derived.Laws.AppendOwnNone
import Derived.Deep.RegionHeld3
import Derived.Laws.BytesArg
import Derived.ArgAppend
import Derived.LaidEql
import Derived.Stop.Asserts
import Derived.RowKitTokens
import Derived.Lib.IfaceEq
namespace Go.Proofs.YtgnicopijocnjaaDoor
open Go.RowKit
set_option maxRecDepth 100000
set_option linter.unusedVariables false
set_option linter.unusedSimpArgs false

section
/-
  The field of 256 numbers, plainly: products by doubling, the document's product (all out, then the rest), inverses, powers of 2. No Go in sight.
-/
namespace Fld
/-- x times 2 -/
def dbl (a : Nat) : Nat := if a < 128 then 2 * a else (2 * a % 256) ^^^ 135
def dblN : Nat → Nat → Nat
  | 0, a => a
  | k + 1, a => dbl (dblN k a)
def mulS (a b : Nat) : Nat → Nat
  | 0 => 0
  | k + 1 => mulS a b k ^^^ (if b.testBit k then dblN k a else 0)
def mul (a b : Nat) : Nat := mulS a b 8

theorem xor_lt {a b : Nat} (ha : a < 256) (hb : b < 256) : a ^^^ b < 256 := Nat.xor_lt_two_pow (n := 8) ha hb
theorem dbl_lt {a : Nat} (h : a < 256) : dbl a < 256 := by
  unfold dbl; split
  · omega
  · exact xor_lt (by omega) (by decide)
theorem dblN_lt {a : Nat} (k : Nat) (h : a < 256) : dblN k a < 256 := by
  induction k with
  | zero => exact h
  | succ k ih => exact dbl_lt ih
theorem xor4 (a b c d : Nat) : (a ^^^ b) ^^^ (c ^^^ d) = (a ^^^ c) ^^^ (b ^^^ d) := by
  rw [Nat.xor_assoc, Nat.xor_assoc, ← Nat.xor_assoc b, ← Nat.xor_assoc c, Nat.xor_comm b c]
theorem dbl_alt : ∀ a, a < 256 → dbl a = (a <<< 1) ^^^ (if a.testBit 7 then 391 else 0) := by decide +kernel
theorem dbl_xor {a b : Nat} (ha : a < 256) (hb : b < 256) : dbl (a ^^^ b) = dbl a ^^^ dbl b := by
  rw [dbl_alt _ (xor_lt ha hb), dbl_alt a ha, dbl_alt b hb, xor4, Nat.shiftLeft_xor_distrib, Nat.testBit_xor]
  congr 1
  cases a.testBit 7 <;> cases b.testBit 7 <;> simp
theorem dblN_xor {a b : Nat} (k : Nat) (ha : a < 256) (hb : b < 256) : dblN k (a ^^^ b) = dblN k a ^^^ dblN k b := by
  induction k with
  | zero => rfl
  | succ k ih => simp only [dblN]; rw [ih, dbl_xor (dblN_lt k ha) (dblN_lt k hb)]
theorem mulS_xor_left {a b : Nat} (c k : Nat) (ha : a < 256) (hb : b < 256) : mulS (a ^^^ b) c k = mulS a c k ^^^ mulS b c k := by
  induction k with
  | zero => simp [mulS]
  | succ k ih =>
    simp only [mulS]; rw [ih]
    by_cases h : c.testBit k
    · simp only [h, if_true]; rw [dblN_xor k ha hb, xor4]
    · simp only [h]; simp
theorem mulS_xor_right (a b c k : Nat) : mulS a (b ^^^ c) k = mulS a b k ^^^ mulS a c k := by
  induction k with
  | zero => simp [mulS]
  | succ k ih =>
    simp only [mulS, Nat.testBit_xor]; rw [ih, xor4]
    congr 1
    cases b.testBit k <;> cases c.testBit k <;> simp
theorem mul_xor_left {a b : Nat} (c : Nat) (ha : a < 256) (hb : b < 256) : mul (a ^^^ b) c = mul a c ^^^ mul b c := mulS_xor_left c 8 ha hb
theorem mul_xor_right (a b c : Nat) : mul a (b ^^^ c) = mul a b ^^^ mul a c := mulS_xor_right a b c 8

/-! two additive functions that agree at the bits agree -/
theorem low_all : ∀ a, a < 256 → a = 0 ∨ ∃ i, i < 8 ∧ 2 ^ i < 256 ∧ a ^^^ 2 ^ i < a := by decide +kernel
theorem add_ext (f g : Nat → Nat) (hf : ∀ a b, a < 256 → b < 256 → f (a ^^^ b) = f a ^^^ f b) (hg : ∀ a b, a < 256 → b < 256 → g (a ^^^ b) = g a ^^^ g b)
    (h : ∀ i, i < 8 → f (2 ^ i) = g (2 ^ i)) : ∀ a, a < 256 → f a = g a := by
  have z : ∀ f : Nat → Nat, (∀ a b, a < 256 → b < 256 → f (a ^^^ b) = f a ^^^ f b) → f 0 = 0 := by
    intro f hf
    have := hf 0 0 (by decide) (by decide)
    simpa using this
  intro a
  induction a using Nat.strongRecOn with
  | ind a ih =>
    intro ha
    rcases low_all a ha with rfl | ⟨i, hi, hp, hlt⟩
    · rw [z f hf, z g hg]
    · have e : a = 2 ^ i ^^^ (a ^^^ 2 ^ i) := by rw [Nat.xor_comm a, ← Nat.xor_assoc, Nat.xor_self, Nat.zero_xor]
      have hl : a ^^^ 2 ^ i < 256 := by omega
      rw [e, hf _ _ hp hl, hg _ _ hp hl, h i hi, ih _ hlt hl]
theorem comm_bit : ∀ i, i < 8 → ∀ b, b < 256 → mul (2 ^ i) b = mul b (2 ^ i) := by decide +kernel
theorem mul_comm {a b : Nat} (ha : a < 256) (hb : b < 256) : mul a b = mul b a :=
  add_ext (fun a => mul a b) (fun a => mul b a) (fun _ _ h1 h2 => mul_xor_left b h1 h2) (fun _ _ _ _ => mul_xor_right b _ _) (fun i hi => comm_bit i hi b hb) a ha
theorem mul_one_all : ∀ a, a < 256 → mul a 1 = a := by decide +kernel
theorem mul_one {a : Nat} (h : a < 256) : mul a 1 = a := mul_one_all a h
theorem one_mul {a : Nat} (h : a < 256) : mul 1 a = a := by rw [mul_comm (by decide) h, mul_one h]
/-! powers and inverse -/
/-! the document's product: all out, then the rest -/
/-! logs -/
/-- the powers, one behind the other: does a come among the k from p on? -/
def comes (a : Nat) : Nat → Nat → Bool
  | 0, _ => false
  | k + 1, p => p == a || comes a k (dbl p)
end Fld

theorem ret_int {k : IntKind} {a b : Int} (h : a = b) : Ending.returned (.int k a) = .returned (.int k b) := by rw [h]
theorem val_int {k : IntKind} {a b : Int} (h : a = b) : Value.int k a = .int k b := by rw [h]

/-! the document's -/
theorem wrap_i64_in (n : Int) (h1 : -9223372036854775808 ≤ n) (h2 : n ≤ 9223372036854775807) : IntKind.i64.wrap n = n := by
  rw [IntKind.wrap_i64]; omega
theorem ofInt_i64 (a : Nat) (ha : a < 2 ^ 63) : (BitVec.ofInt 64 (a : Int)).toNat = a := by
  rw [BitVec.ofInt_natCast, BitVec.toNat_ofNat]; exact Nat.mod_eq_of_lt (by omega)
theorem i64_xor_nat (a b : Nat) (ha : a < 2 ^ 63) (hb : b < 2 ^ 63) : bits .xor .i64 (a : Int) (b : Int) = ((a ^^^ b : Nat) : Int) := by
  have hx : a ^^^ b < 2 ^ 63 := Nat.xor_lt_two_pow (by omega) (by omega)
  show IntKind.i64.wrap ((BitVec.ofInt 64 (a : Int) ^^^ BitVec.ofInt 64 (b : Int)).toNat : Int) = _
  rw [BitVec.toNat_xor, ofInt_i64 a ha, ofInt_i64 b hb, wrap_i64_in _ (by omega) (by omega)]
theorem i64_and_nat (a b : Nat) (ha : a < 2 ^ 63) (hb : b < 2 ^ 63) : bits .and .i64 (a : Int) (b : Int) = ((a &&& b : Nat) : Int) := by
  have hx : a &&& b < 2 ^ 63 := Nat.and_lt_two_pow _ (by omega)
  show IntKind.i64.wrap ((BitVec.ofInt 64 (a : Int) &&& BitVec.ofInt 64 (b : Int)).toNat : Int) = _
  rw [BitVec.toNat_and, ofInt_i64 a ha, ofInt_i64 b hb, wrap_i64_in _ (by omega) (by omega)]
theorem bit_i64 (b k : Nat) (hb : b < 2 ^ 63) : (bits .and .i64 ((b : Int) / 2 ^ k) 1 == 1) = b.testBit k := by
  have e : ((b : Int) / 2 ^ k) = ((b / 2 ^ k : Nat) : Int) := by simp
  have hl : b / 2 ^ k < 2 ^ 63 := Nat.lt_of_le_of_lt (Nat.div_le_self _ _) hb
  have := i64_and_nat (b / 2 ^ k) 1 hl (by decide)
  rw [e]; simp only [Int.natCast_one] at this; rw [this, Nat.testBit_eq_decide_div_mod_eq, Nat.and_one_is_mod]
  by_cases h : b / 2 ^ k % 2 = 1
  · rw [h]; rfl
  · have h0 : b / 2 ^ k % 2 = 0 := by omega
    rw [h0]; rfl
/-! powers of 2 -/
/-! the contracts once more, over whole numbers: they fit whatever stands in a slot -/
end

section
/-! lists of bytes, and how they lie in memory -/
def nth (L : List Nat) (k : Nat) : Nat := L.getD k 0
def bys (L : List Nat) : List Value := L.map fun (n : Nat) => Value.int .u8 (n : Int)
def IsB (L : List Nat) : Prop := ∀ x, x ∈ L → x < 256
theorem IsB.nth {L : List Nat} (h : IsB L) (k : Nat) : nth L k < 256 := by
  unfold Go.Proofs.YtgnicopijocnjaaDoor.nth
  by_cases hk : k < L.length
  · rw [List.getD_eq_getElem?_getD, List.getElem?_eq_getElem hk]; exact h _ (List.getElem_mem hk)
  · rw [List.getD_eq_getElem?_getD, List.getElem?_eq_none (by omega)]; decide
/-- A slice of bytes as it is read: n of them, the numbers L. -/
structure Rd (w : World) (a : Option Addr) (n cap : Nat) (L : List Nat) : Prop where
  len : L.length = n
  le : n ≤ cap
  max : cap ≤ maxLen
  nil : a = none → cap = 0
  byte : IsB L
  at' : 0 < n → ∃ b off, a = some ⟨b, off, none⟩ ∧ b < w.heap.size ∧ ∀ i, i < n → w.cell? ⟨b, off + i, none⟩ = some (.int .u8 (nth L i : Nat))
/-- Block g is a row of bytes, the call's own: the numbers L. -/
def Blk (w : World) (g : Nat) (L : List Nat) : Prop := w.heap[g]? = some (.cells (bys L).toArray 5)
theorem nth_bys (L : List Nat) (i : Nat) (hi : i < L.length) : (bys L)[i]? = some (.int .u8 (nth L i : Nat)) := by
  unfold bys nth
  rw [List.getElem?_map, List.getElem?_eq_getElem hi, List.getD_eq_getElem?_getD, List.getElem?_eq_getElem hi]; rfl
theorem Blk.lt {w : World} {g : Nat} {L : List Nat} (h : Blk w g L) : g < w.heap.size := (Array.getElem?_eq_some_iff.1 h).1
theorem Blk.cell {w : World} {g : Nat} {L : List Nat} (h : Blk w g L) (i : Nat) (hi : i < L.length) : w.cell? ⟨g, i, none⟩ = some (.int .u8 (nth L i : Nat)) := by
  rw [cell_of_row w g i _ _ _ h]; simpa using nth_bys L i hi
theorem Blk.free {w : World} {g : Nat} {L : List Nat} (h : Blk w g L) (i : Nat) : w.frozen? ⟨g, i, none⟩ = false := frozen_of_row w g i _ _ h
theorem Blk.set {w : World} {g : Nat} {L : List Nat} (h : Blk w g L) (i x : Nat) : Blk (w.setCell ⟨g, i, none⟩ (.int .u8 (x : Int))) g (L.set i x) := by
  unfold Blk
  rw [heap_setCell_same w g i _ _ _ h]
  simp [bys, List.map_set]
theorem Blk.grown {w w' : World} {g : Nat} {L : List Nat} {r : Option Nat} (h : Blk w g L) (hg : w.grownBy w' r) (hne : some g ≠ r) : Blk w' g L := by
  unfold Blk; rw [hg.block g h.lt hne]; exact h
theorem grown_set (w : World) (g i : Nat) (v : Value) : w.grownBy (w.setCell ⟨g, i, none⟩ v) (some g) :=
  ⟨rfl, rfl, rfl, by simp [World.setCell], fun k _ hk => heap_setCell_other w _ k v (fun e => hk (by rw [e]))⟩
theorem grown_trans {a b c : World} {r : Option Nat} (h : a.grownBy b r) (k : b.grownBy c r) : a.grownBy c r :=
  ⟨k.os.trans h.os, k.tape.trans h.tape, k.output.trans h.output, Nat.le_trans h.size k.size, fun i hi hn => (k.block i (Nat.lt_of_lt_of_le hi h.size) hn).trans (h.block i hi hn)⟩
theorem grown_drew (w : World) (r : Option Nat) : w.grownBy w.drew r := ⟨rfl, rfl, rfl, Nat.le_refl _, fun _ _ _ => rfl⟩
theorem grown_weak {a b : World} (h : a.grownBy b none) (r : Option Nat) : a.grownBy b r := ⟨h.os, h.tape, h.output, h.size, fun k hk _ => h.block k hk (by simp)⟩
theorem Rd.grown {w w' : World} {a : Option Addr} {n cap : Nat} {L : List Nat} {r : Option Nat} (h : Rd w a n cap L) (hg : w.grownBy w' r) (hne : ∀ b off, a = some ⟨b, off, none⟩ → some b ≠ r) : Rd w' a n cap L := by
  refine ⟨h.len, h.le, h.max, h.nil, h.byte, fun h0 => ?_⟩
  obtain ⟨b, off, rfl, hb, hc⟩ := h.at' h0
  refine ⟨b, off, rfl, Nat.lt_of_lt_of_le hb hg.size, fun i hi => ?_⟩
  exact (World.cell?_of_block (w := w) (hg.block b hb (hne b off rfl))).trans (hc i hi)

theorem Rd.ne {w : World} {a : Option Addr} {n cap g : Nat} {L : List Nat} (h : Rd w a n cap L) (hg : w.heap.size ≤ g) : 0 < n → ∀ b off, a = some ⟨b, off, none⟩ → some b ≠ some g := by
  intro h0 b off e
  obtain ⟨b', off', e', hb, _⟩ := h.at' h0
  rw [e'] at e
  cases e
  simp; omega
theorem isB_set {L : List Nat} (h : IsB L) (i x : Nat) (hx : x < 256) : IsB (L.set i x) := by
  intro y hy
  rcases List.mem_or_eq_of_mem_set hy with h1 | h1
  · exact h y h1
  · rw [h1]; exact hx
theorem bys_length (L : List Nat) : (bys L).length = L.length := by simp [bys]

theorem nth_set (D : List Nat) (i x j : Nat) (hi : i < D.length) : nth (D.set i x) j = if i = j then x else nth D j := by
  unfold nth
  rw [List.getD_eq_getElem?_getD, List.getD_eq_getElem?_getD, List.getElem?_set]
  by_cases h : i = j
  · subst h; simp [hi]
  · simp [h]
theorem isB_take {A : List Nat} (h : IsB A) (n : Nat) : IsB (A.take n) := fun x hx => h x (List.mem_of_mem_take hx)

/-- a copy of L with marks in its spare room -/
structure Roomy (w : World) (g n : Nat) (L D : List Nat) : Prop where
  blk : Blk w g D
  len : D.length = n + 5
  byte : IsB D
  own : ∀ i, i < n → nth D i = nth L i
  mark : ∀ i, n ≤ i → i < n + 5 → nth D i = (90 + i) % 256
theorem grown_drewN (w : World) (n : Nat) (r : Option Nat) : w.grownBy (w.drewN n) r := ⟨rfl, rfl, rfl, Nat.le_refl _, fun _ _ _ => rfl⟩
theorem Roomy.grown {w w' : World} {g n : Nat} {L D : List Nat} {r : Option Nat} (h : Roomy w g n L D) (hg : w.grownBy w' r) (hne : some g ≠ r) : Roomy w' g n L D :=
  ⟨h.blk.grown hg hne, h.len, h.byte, h.own, h.mark⟩

theorem addr_add (b off j : Nat) : (⟨b, off, none⟩ : Addr).add j = ⟨b, off + j, none⟩ := by unfold Addr.add; split <;> simp_all

theorem own_cell {w : World} {g n cap : Nat} {L : List Nat} (h : w.ownsRow 0 5 1 (.slice (some ⟨g, 0, none⟩) n cap) n (bys L)) (j : Nat) (hj : j < n) : w.cell? ⟨g, j, none⟩ = some (.int .u8 (nth L j : Nat)) := by
  have hl : L.length = n := by have := h.1; rw [bys_length] at this; omega
  rw [h.cellAt j (by omega)]
  exact nth_bys L j (by omega)
theorem own_set {w : World} {g n cap : Nat} {L : List Nat} (h : w.ownsRow 0 5 1 (.slice (some ⟨g, 0, none⟩) n cap) n (bys L)) (j x : Nat) :
    (w.setCell ⟨g, j, none⟩ (.int .u8 (x : Int))).ownsRow 0 5 1 (.slice (some ⟨g, 0, none⟩) n cap) n (bys (L.set j x)) := by
  have := (h.stored j (.int .u8 (x : Int))).1
  have e : (bys L).set j (.int .u8 (x : Int)) = bys (L.set j x) := by simp [bys, List.map_set]
  rw [e] at this; exact this
/-- An answer: the bytes L, in memory of its own, from block lo on. -/
structure Ans (w : World) (lo : Nat) (a : Option Addr) (n cap : Nat) (L : List Nat) : Prop where
  own : w.ownsRow 0 5 1 (.slice a n cap) n (bys L)
  byte : IsB L
  new : ∀ g, (Value.slice a n cap).ownBlock = some g → lo ≤ g
theorem Ans.len {w : World} {lo : Nat} {a : Option Addr} {n cap : Nat} {L : List Nat} (h : Ans w lo a n cap L) : L.length = n := by
  have := h.own.1; rw [bys_length] at this; omega
theorem Ans.cases {w : World} {lo : Nat} {a : Option Addr} {n cap : Nat} {L : List Nat} (h : Ans w lo a n cap L) :
    (a = none ∧ n = 0 ∧ cap = 0) ∨ ∃ g, a = some ⟨g, 0, none⟩ ∧ lo ≤ g ∧ g < w.heap.size := by
  rcases h.own.2 with ⟨h1, h2⟩ | ⟨g, cap', cur, h1, _, h3, _⟩
  · simp only [Value.slice.injEq] at h1; exact .inl h1
  · simp only [Value.slice.injEq] at h1
    obtain ⟨rfl, _, _⟩ := h1
    exact .inr ⟨g, rfl, h.new g rfl, (Array.getElem?_eq_some_iff.1 h3).1⟩
theorem Ans.max {w : World} {lo : Nat} {a : Option Addr} {n cap : Nat} {L : List Nat} (h : Ans w lo a n cap L) : n ≤ cap ∧ cap ≤ maxLen := by
  rcases h.own.2 with ⟨h1, h2⟩ | ⟨g, cap', cur, h1, _, h3, h4, h5, _⟩
  · simp only [Value.slice.injEq] at h1; obtain ⟨_, h6, h7⟩ := h1; subst h6; subst h7; exact ⟨Nat.le_refl _, Nat.zero_le _⟩
  · simp only [Value.slice.injEq] at h1; obtain ⟨_, _, h7⟩ := h1; subst h7; exact ⟨h4, h5⟩
theorem Ans.rd {w : World} {lo : Nat} {a : Option Addr} {n cap : Nat} {L : List Nat} (h : Ans w lo a n cap L) : Rd w a n cap L := by
  refine ⟨h.len, h.max.1, h.max.2, fun h0 => ?_, h.byte, fun h0 => ?_⟩
  · rcases h.cases with ⟨_, _, h3⟩ | ⟨g, h1, _⟩
    · exact h3
    · rw [h0] at h1; cases h1
  · rcases h.cases with ⟨_, h2, _⟩ | ⟨g, rfl, _, hl⟩
    · omega
    · exact ⟨g, 0, rfl, hl, fun i hi => by rw [Nat.zero_add]; exact own_cell h.own i hi⟩
theorem Ans.kept {w w' : World} {lo : Nat} {a : Option Addr} {n cap : Nat} {L : List Nat} {r : Option Nat} (h : Ans w lo a n cap L) (hg : w.grownBy w' r) (hne : (Value.slice a n cap).ownBlock = none ∨ (Value.slice a n cap).ownBlock ≠ r) : Ans w' lo a n cap L :=
  ⟨h.own.kept hg hne, h.byte, h.new⟩
theorem Blk.ans {w : World} {g n lo : Nat} {D : List Nat} (h : Blk w g D) (hB : IsB D) (hn : n ≤ D.length) (hm : D.length ≤ maxLen) (hlo : lo ≤ g) : Ans w lo (some ⟨g, 0, none⟩) n D.length (D.take n) := by
  refine ⟨⟨by rw [bys_length, List.length_take]; omega, .inr ⟨g, D.length, _, rfl, Nat.zero_le _, h, hn, hm, by simp [bys], ?_⟩⟩, isB_take hB _, ?_⟩
  · simp [bys, List.map_take]
  · intro g' hg'; simp [Value.ownBlock] at hg'; omega
theorem Blk.rd {w : World} {g n : Nat} {D : List Nat} (h : Blk w g D) (hB : IsB D) (hl : D.length = n) (hm : n ≤ maxLen) : Rd w (some ⟨g, 0, none⟩) n n D :=
  ⟨hl, Nat.le_refl _, hm, (fun h => by cases h), hB, fun _ => ⟨g, 0, rfl, h.lt, fun i hi => by rw [Nat.zero_add]; exact h.cell i (by omega)⟩⟩
end

section
open Go.RowKit Go.Extern.Stop Go.Stop Go.Extern

theorem Tryd.isTypeOf (v : Value) (w : World) : (Extern.ReflectliteType.typeOf #[.iface 24 v]).run Tryd.prog w = .ok (.iface 84 (.agg #[.pointer (some ⟨1, 24, none⟩)])) w := by kernel_rfl
theorem Tryd.lsTypeOf (v : Value) (w : World) : (Extern.ReflectliteType.typeOf #[.iface 52 v]).run Tryd.prog w = .ok (.iface 84 (.agg #[.pointer (some ⟨1, 52, none⟩)])) w := by kernel_rfl
theorem Tryd.cmpEx : ∃ f : Array Value → Sem Value, find Tryd.f66 = some f ∧ ∀ w, (f #[.agg #[.pointer (some ⟨1, 24, none⟩)]]).run Tryd.prog w = .ok (.bool true) w := by
  have hs : (find Tryd.f66).isSome = true := by kernel_rfl
  have hr : ∀ w, (((find Tryd.f66).getD (fun _ => pure undef)) #[.agg #[.pointer (some ⟨1, 24, none⟩)]]).run Tryd.prog w = .ok (.bool true) w := fun w => by kernel_rfl
  cases h : find Tryd.f66 with
  | none => rw [h] at hs; cases hs
  | some f => exact ⟨f, rfl, fun w => by have := hr w; rw [h] at this; exact this⟩
theorem Tryd.isMethod (v : Value) (w : World) : (Go.method 231 84 v "Comparable").run Tryd.prog w = .ok (66, v) w := by kernel_rfl
theorem Tryd.noIs (v : Value) (xT : TypeId) (w : World) : (Instr.typeAssert (.iface 24 v) xT 96 true).run Tryd.prog w = .ok (.tuple #[.nilIface, .bool false]) w := run_typeAssert_lacksB Tryd.underlying96 (by kernel_rfl) (by kernel_rfl) v xT w
theorem Tryd.noUnwrap (v : Value) (xT : TypeId) (w : World) : (Instr.typeAssert (.iface 24 v) xT 91 true).run Tryd.prog w = .ok (.tuple #[.nilIface, .bool false]) w := run_typeAssert_lacksB Tryd.underlying91 (by kernel_rfl) (by kernel_rfl) v xT w
theorem Tryd.noUnwraps (v : Value) (xT : TypeId) (w : World) : (Instr.typeAssert (.iface 24 v) xT 93 true).run Tryd.prog w = .ok (.tuple #[.nilIface, .bool false]) w := run_typeAssert_lacksB Tryd.underlying93 (by kernel_rfl) (by kernel_rfl) v xT w
theorem Tryd.noAs (v : Value) (xT : TypeId) (w : World) : (Instr.typeAssert (.iface 24 v) xT 88 true).run Tryd.prog w = .ok (.tuple #[.nilIface, .bool false]) w := run_typeAssert_lacksB Tryd.underlying88 (by kernel_rfl) (by kernel_rfl) v xT w
theorem Tryd.lnoIs (v : Value) (xT : TypeId) (w : World) : (Instr.typeAssert (.iface 52 v) xT 96 true).run Tryd.prog w = .ok (.tuple #[.nilIface, .bool false]) w := run_typeAssert_lacksB Tryd.underlying96 (by kernel_rfl) (by kernel_rfl) v xT w
theorem Tryd.errComp : (Tryd.prog.info? 24).map (·.comparable) = some true := by kernel_rfl
theorem is_errno (x y : Int) (w : World) : Calls Tryd.prog 18 #[.iface 24 (.int .i64 x), .iface 24 (.int .i64 y)] w fun e w' => e = .returned (.bool (decide (x = y))) ∧ w' = w := by
  have h8 := @run_callFunc_extern Tryd.prog 30 _ Extern.ReflectliteType.typeOf Tryd.func30 (by kernel_rfl) (by kernel_rfl) (by kernel_rfl) (by kernel_rfl)
  obtain ⟨cmpX, hcf, cT⟩ := Tryd.cmpEx
  have h32 := @run_callFunc_extern Tryd.prog 66 _ cmpX Tryd.func66 (by kernel_rfl) (by kernel_rfl) (by kernel_rfl) hcf
  have tT := Tryd.isTypeOf
  have mR := Tryd.isMethod
  have nE := Tryd.noIs
  have uE := Tryd.noUnwrap
  have vE := Tryd.noUnwraps
  have heq := fun w => Lib.run_eql_iface_int (P := Tryd.prog) w (t := 40) (tx := 24) (k := .i64) (q := .i64) x y Tryd.underlying40 Tryd.errComp Tryd.underlying24
  go_enter Tryd.func18, Tryd.ntmps18
  go_wp2
  refine wp_loop_rounds 1 ?_
  rw [rounds_succ]
  by_cases hxy : x = y
  · subst hxy
    go_wp2
    go_ret
    exact ⟨by simp, rfl⟩
  · have hne : (x == y) = false := by simp [hxy]
    go_wp2
    go_ret
    exact ⟨by simp [hxy], rfl⟩
/-- Tell of a number -/
theorem tellE_any (x : Nat) (h1 : 1 ≤ x) (h2 : x ≤ 20) (w : World) : Calls Tryd.prog 10 #[.iface 24 (.int .i64 x)] w fun e w' => e = .returned (.int .i64 x) ∧ w' = w := by
  go_enter Tryd.func10, Tryd.ntmps10
  go_wp2
  go_loop [3] (fun u => ∃ k : Nat, 1 ≤ k ∧ k ≤ x ∧ u = .int .i64 k) (fun u => x + 1 - (intOf u).toNat)
  case atStart => exact ⟨1, by omega, by omega, rfl⟩
  case round =>
    obtain ⟨k, hk1, hk2, rfl⟩ := hrel
    have H := fun w' => is_errno (x : Int) (k : Int) w'
    have hk20 : (k : Int) ≤ 20 := by omega
    by_cases hx : k = x
    · subst hx
      have hd : decide ((k : Int) = (k : Int)) = true := by simp
      rw [hd] at H
      go_wp2_with (go_at_call 18; refine (H _).mono ?_; rintro e w1 ⟨rfl, hw⟩; have hw := hw.symm; subst hw)
      go_ret
      exact ⟨rfl, rfl⟩
    · have hd : decide ((x : Int) = (k : Int)) = false := by simp; omega
      rw [hd] at H
      go_wp2_with (go_at_call 18; refine (H _).mono ?_; rintro e w1 ⟨rfl, hw⟩; have hw := hw.symm; subst hw)
      go_round
      case rel => exact ⟨k + 1, by omega, by omega, by go_num⟩
      case measure => simp [intOf]; omega

theorem Tryd.lhasUnwrap (v : Value) (xT : TypeId) (w : World) : (Instr.typeAssert (.iface 52 v) xT 91 true).run Tryd.prog w = .ok (.tuple #[.iface 52 v, .bool true]) w := run_typeAssert_hasB Tryd.underlying91 (by kernel_rfl) v xT w
theorem Tryd.unwMethod (v : Value) (w : World) : (Go.method 231 52 v "Unwrap").run Tryd.prog w = .ok (60, v) w := by kernel_rfl
theorem Tryd.eqlTypes (v u : Value) (w : World) : (binOp .eql 40 (.iface 52 v) (.iface 24 u)).run Tryd.prog w = .ok (.bool false) w := by kernel_rfl
theorem unwrap_any (g : Nat) (w : World) : Calls Tryd.prog 60 #[.pointer (some ⟨g, 0, none⟩)] w fun e w' => e = .returned (.iface 24 (.int .i64 18)) ∧ w' = w := by
  go_enter Tryd.func60, Tryd.ntmps60
  go_wp2
  go_ret
  exact ⟨rfl, rfl⟩
theorem is_lost (g : Nat) (y : Int) (w : World) : Calls Tryd.prog 18 #[.iface 52 (.pointer (some ⟨g, 0, none⟩)), .iface 24 (.int .i64 y)] w fun e w' => e = .returned (.bool (decide (18 = y))) ∧ w' = w := by
  have h8 := @run_callFunc_extern Tryd.prog 30 _ Extern.ReflectliteType.typeOf Tryd.func30 (by kernel_rfl) (by kernel_rfl) (by kernel_rfl) (by kernel_rfl)
  obtain ⟨cmpX, hcf, cT⟩ := Tryd.cmpEx
  have h32 := @run_callFunc_extern Tryd.prog 66 _ cmpX Tryd.func66 (by kernel_rfl) (by kernel_rfl) (by kernel_rfl) hcf
  have tT := Tryd.isTypeOf
  have mR := Tryd.isMethod
  have nE := Tryd.noIs
  have uE := Tryd.noUnwrap
  have vE := Tryd.noUnwraps
  have nL := Tryd.lnoIs
  have uL := Tryd.lhasUnwrap
  have mU := Tryd.unwMethod
  have eT := Tryd.eqlTypes
  have heq := fun w => Lib.run_eql_iface_int (P := Tryd.prog) w (t := 40) (tx := 24) (k := .i64) (q := .i64) 18 y Tryd.underlying40 Tryd.errComp Tryd.underlying24
  go_enter Tryd.func18, Tryd.ntmps18
  go_wp2
  refine wp_loop_rounds 2 ?_
  rw [rounds_succ]
  go_wp2_with (go_at_call 60; refine (unwrap_any g _).mono ?_; rintro e w1 ⟨rfl, hw⟩; have hw := hw.symm; subst hw)
  rw [rounds_succ]
  by_cases hxy : 18 = y
  · subst hxy
    go_wp2
    go_ret
    exact ⟨by simp, rfl⟩
  · have hne : ((18 : Int) == y) = false := by simp [hxy]
    go_wp2
    go_ret
    exact ⟨by simp [hxy], rfl⟩
/-- Tell of a word that is lost -/
theorem tell_lost (g : Nat) (w : World) : Calls Tryd.prog 10 #[.iface 52 (.pointer (some ⟨g, 0, none⟩))] w fun e w' => e = .returned (.int .i64 18) ∧ w' = w := by
  go_enter Tryd.func10, Tryd.ntmps10
  go_wp2
  go_loop [3] (fun u => ∃ k : Nat, 1 ≤ k ∧ k ≤ 18 ∧ u = .int .i64 k) (fun u => 18 + 1 - (intOf u).toNat)
  case atStart => exact ⟨1, by omega, by omega, rfl⟩
  case round =>
    obtain ⟨k, hk1, hk2, rfl⟩ := hrel
    have H := fun w' => is_lost g (k : Int) w'
    have hk20 : (k : Int) ≤ 20 := by omega
    by_cases hx : k = 18
    · subst hx
      have hd : decide ((18 : Int) = ((18 : Nat) : Int)) = true := by simp
      rw [hd] at H
      go_wp2_with (go_at_call 18; refine (H _).mono ?_; rintro e w1 ⟨rfl, hw⟩; have hw := hw.symm; subst hw)
      go_ret
      exact ⟨rfl, rfl⟩
    · have hd : decide ((18 : Int) = (k : Int)) = false := by simp; omega
      rw [hd] at H
      go_wp2_with (go_at_call 18; refine (H _).mono ?_; rintro e w1 ⟨rfl, hw⟩; have hw := hw.symm; subst hw)
      go_round
      case rel => exact ⟨k + 1, by omega, by omega, by go_num⟩
      case measure => simp [intOf]; omega
end

section
open Go.RowKit Go.Extern.Stop Go.Stop Go.Extern

theorem Tryd.aValueOf : ∃ f : Array Value → Sem Value, find Tryd.f26 = some f ∧ (∀ (p : Option Addr) (w : World), (f #[.iface 54 (.pointer p)]).run Tryd.prog w = .ok (.agg #[.pointer (some ⟨1, 54, none⟩), .pointer (some ⟨w.heap.size, 0, none⟩), .int .u64 150]) (w.alloc (.cells #[.pointer p] 54))) ∧ (∀ (p : Option Addr) (w : World), (f #[.iface 52 (.pointer p)]).run Tryd.prog w = .ok (.agg #[.pointer (some ⟨1, 52, none⟩), .pointer (some ⟨w.heap.size, 0, none⟩), .int .u64 150]) (w.alloc (.cells #[.pointer p] 52))) := by
  have hs : (find Tryd.f26).isSome = true := by kernel_rfl
  have h0 : ∀ (p : Option Addr) (w : World), (((find Tryd.f26).getD (fun _ => pure undef)) #[.iface 54 (.pointer p)]).run Tryd.prog w = .ok (.agg #[.pointer (some ⟨1, 54, none⟩), .pointer (some ⟨w.heap.size, 0, none⟩), .int .u64 150]) (w.alloc (.cells #[.pointer p] 54)) := by intros; kernel_rfl
  have h1 : ∀ (p : Option Addr) (w : World), (((find Tryd.f26).getD (fun _ => pure undef)) #[.iface 52 (.pointer p)]).run Tryd.prog w = .ok (.agg #[.pointer (some ⟨1, 52, none⟩), .pointer (some ⟨w.heap.size, 0, none⟩), .int .u64 150]) (w.alloc (.cells #[.pointer p] 52)) := by intros; kernel_rfl
  cases h : find Tryd.f26 with
  | none => rw [h] at hs; cases hs
  | some f =>
    rw [h] at h0 h1
    exact ⟨f, rfl, h0, h1⟩
theorem Tryd.aType : ∃ f : Array Value → Sem Value, find Tryd.f27 = some f ∧ (∀ (a : Addr) (w : World), (f #[.agg #[.pointer (some ⟨1, 54, none⟩), .pointer (some a), .int .u64 150]]).run Tryd.prog w = .ok (.iface 84 (.agg #[.pointer (some ⟨1, 54, none⟩)])) w) := by
  have hs : (find Tryd.f27).isSome = true := by kernel_rfl
  have h0 : ∀ (a : Addr) (w : World), (((find Tryd.f27).getD (fun _ => pure undef)) #[.agg #[.pointer (some ⟨1, 54, none⟩), .pointer (some a), .int .u64 150]]).run Tryd.prog w = .ok (.iface 84 (.agg #[.pointer (some ⟨1, 54, none⟩)])) w := by intros; kernel_rfl
  cases h : find Tryd.f27 with
  | none => rw [h] at hs; cases hs
  | some f =>
    rw [h] at h0
    exact ⟨f, rfl, h0⟩
theorem Tryd.aIsNil : ∃ f : Array Value → Sem Value, find Tryd.f28 = some f ∧ (∀ (p a : Addr) (w : World), w.cell? a = some (.pointer (some p)) → (f #[.agg #[.pointer (some ⟨1, 54, none⟩), .pointer (some a), .int .u64 150]]).run Tryd.prog w = .ok (.bool false) w) := by
  have hs : (find Tryd.f28).isSome = true := by kernel_rfl
  have h0 : ∀ (p a : Addr) (w : World), w.cell? a = some (.pointer (some p)) → (((find Tryd.f28).getD (fun _ => pure undef)) #[.agg #[.pointer (some ⟨1, 54, none⟩), .pointer (some a), .int .u64 150]]).run Tryd.prog w = .ok (.bool false) w := by
    intro p a w hc
    have h : (((find Tryd.f28).getD (fun _ => pure undef)) #[.agg #[.pointer (some ⟨1, 54, none⟩), .pointer (some a), .int .u64 150]]).run Tryd.prog w = (Go.Extern.ReflectliteValue.isNil 54 a 150 22).run Tryd.prog w := by kernel_rfl
    rw [h]
    have hl : (loadVar 54 a).run Tryd.prog w = .ok (.pointer (some p)) w := by
      have : (loadVar 54 a).run Tryd.prog w = (Go.load a).run Tryd.prog w := by kernel_rfl
      rw [this]
      simp [go_sem, hc]
    simp [Go.Extern.ReflectliteValue.isNil, hl, Sem.run_bind]
  cases h : find Tryd.f28 with
  | none => rw [h] at hs; cases hs
  | some f =>
    rw [h] at h0
    exact ⟨f, rfl, h0⟩
theorem Tryd.aElemV : ∃ f : Array Value → Sem Value, find Tryd.f36 = some f ∧ (∀ (p a : Addr) (w : World), w.cell? a = some (.pointer (some p)) → (f #[.agg #[.pointer (some ⟨1, 54, none⟩), .pointer (some a), .int .u64 150]]).run Tryd.prog w = .ok (.agg #[.pointer (some ⟨1, 52, none⟩), .pointer (some p), .int .u64 406]) w) := by
  have hs : (find Tryd.f36).isSome = true := by kernel_rfl
  have h0 : ∀ (p a : Addr) (w : World), w.cell? a = some (.pointer (some p)) → (((find Tryd.f36).getD (fun _ => pure undef)) #[.agg #[.pointer (some ⟨1, 54, none⟩), .pointer (some a), .int .u64 150]]).run Tryd.prog w = .ok (.agg #[.pointer (some ⟨1, 52, none⟩), .pointer (some p), .int .u64 406]) w := by
    intro p a w hc
    have h : (((find Tryd.f36).getD (fun _ => pure undef)) #[.agg #[.pointer (some ⟨1, 54, none⟩), .pointer (some a), .int .u64 150]]).run Tryd.prog w = (Go.Extern.ReflectliteValue.elem 54 a 150 22).run Tryd.prog w := by kernel_rfl
    rw [h]
    have hl : (loadVar 54 a).run Tryd.prog w = .ok (.pointer (some p)) w := by
      have : (loadVar 54 a).run Tryd.prog w = (Go.load a).run Tryd.prog w := by kernel_rfl
      rw [this]
      simp [go_sem, hc]
    have he : (Go.Extern.Rtype.elem? 54).run Tryd.prog w = .ok (some 52) w := by kernel_rfl
    have hm : (Go.Extern.ReflectliteValue.mk 52 p 256).run Tryd.prog w = .ok (.agg #[.pointer (some ⟨1, 52, none⟩), .pointer (some p), .int .u64 406]) w := by kernel_rfl
    simp [Go.Extern.ReflectliteValue.elem, hl, he, hm, Go.Extern.ReflectliteValue.flagAddr, Sem.run_bind]
  cases h : find Tryd.f36 with
  | none => rw [h] at hs; cases hs
  | some f =>
    rw [h] at h0
    exact ⟨f, rfl, h0⟩
theorem Tryd.aElem : ∃ f : Array Value → Sem Value, find Tryd.f67 = some f ∧ (∀ (w : World), (f #[.agg #[.pointer (some ⟨1, 54, none⟩)]]).run Tryd.prog w = .ok (.iface 84 (.agg #[.pointer (some ⟨1, 52, none⟩)])) w) := by
  have hs : (find Tryd.f67).isSome = true := by kernel_rfl
  have h0 : ∀ (w : World), (((find Tryd.f67).getD (fun _ => pure undef)) #[.agg #[.pointer (some ⟨1, 54, none⟩)]]).run Tryd.prog w = .ok (.iface 84 (.agg #[.pointer (some ⟨1, 52, none⟩)])) w := by intros; kernel_rfl
  cases h : find Tryd.f67 with
  | none => rw [h] at hs; cases hs
  | some f =>
    rw [h] at h0
    exact ⟨f, rfl, h0⟩
theorem Tryd.aImpl : ∃ f : Array Value → Sem Value, find Tryd.f68 = some f ∧ (∀ (w : World), (f #[.agg #[.pointer (some ⟨1, 52, none⟩)], .iface 84 (.agg #[.pointer (some ⟨1, 40, none⟩)])]).run Tryd.prog w = .ok (.bool true) w) := by
  have hs : (find Tryd.f68).isSome = true := by kernel_rfl
  have h0 : ∀ (w : World), (((find Tryd.f68).getD (fun _ => pure undef)) #[.agg #[.pointer (some ⟨1, 52, none⟩)], .iface 84 (.agg #[.pointer (some ⟨1, 40, none⟩)])]).run Tryd.prog w = .ok (.bool true) w := by intros; kernel_rfl
  cases h : find Tryd.f68 with
  | none => rw [h] at hs; cases hs
  | some f =>
    rw [h] at h0
    exact ⟨f, rfl, h0⟩
theorem Tryd.aAss : ∃ f : Array Value → Sem Value, find Tryd.f65 = some f ∧ (∀ (w : World), (f #[.agg #[.pointer (some ⟨1, 52, none⟩)], .iface 84 (.agg #[.pointer (some ⟨1, 52, none⟩)])]).run Tryd.prog w = .ok (.bool true) w) ∧ (∀ (w : World), (f #[.agg #[.pointer (some ⟨1, 24, none⟩)], .iface 84 (.agg #[.pointer (some ⟨1, 52, none⟩)])]).run Tryd.prog w = .ok (.bool false) w) := by
  have hs : (find Tryd.f65).isSome = true := by kernel_rfl
  have h0 : ∀ (w : World), (((find Tryd.f65).getD (fun _ => pure undef)) #[.agg #[.pointer (some ⟨1, 52, none⟩)], .iface 84 (.agg #[.pointer (some ⟨1, 52, none⟩)])]).run Tryd.prog w = .ok (.bool true) w := by intros; kernel_rfl
  have h1 : ∀ (w : World), (((find Tryd.f65).getD (fun _ => pure undef)) #[.agg #[.pointer (some ⟨1, 24, none⟩)], .iface 84 (.agg #[.pointer (some ⟨1, 52, none⟩)])]).run Tryd.prog w = .ok (.bool false) w := by intros; kernel_rfl
  cases h : find Tryd.f65 with
  | none => rw [h] at hs; cases hs
  | some f =>
    rw [h] at h0 h1
    exact ⟨f, rfl, h0, h1⟩
theorem Tryd.aKind : ∃ f : Array Value → Sem Value, find Tryd.f55 = some f ∧ (∀ (w : World), (f #[.pointer (some ⟨1, 54, none⟩)]).run Tryd.prog w = .ok (.int .u8 22) w) ∧ (∀ (w : World), (f #[.pointer (some ⟨1, 52, none⟩)]).run Tryd.prog w = .ok (.int .u8 22) w) := by
  have hs : (find Tryd.f55).isSome = true := by kernel_rfl
  have h0 : ∀ (w : World), (((find Tryd.f55).getD (fun _ => pure undef)) #[.pointer (some ⟨1, 54, none⟩)]).run Tryd.prog w = .ok (.int .u8 22) w := by intros; kernel_rfl
  have h1 : ∀ (w : World), (((find Tryd.f55).getD (fun _ => pure undef)) #[.pointer (some ⟨1, 52, none⟩)]).run Tryd.prog w = .ok (.int .u8 22) w := by intros; kernel_rfl
  cases h : find Tryd.f55 with
  | none => rw [h] at hs; cases hs
  | some f =>
    rw [h] at h0 h1
    exact ⟨f, rfl, h0, h1⟩
theorem Tryd.aSet : ∃ f : Array Value → Sem Value, find Tryd.f37 = some f ∧ (∀ (p b : Addr) (q : Option Addr) (u : Value) (w : World), w.cell? b = some (.pointer q) → w.cell? p = some u → w.frozen? p = false → (f #[.agg #[.pointer (some ⟨1, 52, none⟩), .pointer (some p), .int .u64 406], .agg #[.pointer (some ⟨1, 52, none⟩), .pointer (some b), .int .u64 150]]).run Tryd.prog w = .ok (.tuple #[]) (w.setCell p (.pointer q))) := by
  have hs : (find Tryd.f37).isSome = true := by kernel_rfl
  have h0 : ∀ (p b : Addr) (q : Option Addr) (u : Value) (w : World), w.cell? b = some (.pointer q) → w.cell? p = some u → w.frozen? p = false → (((find Tryd.f37).getD (fun _ => pure undef)) #[.agg #[.pointer (some ⟨1, 52, none⟩), .pointer (some p), .int .u64 406], .agg #[.pointer (some ⟨1, 52, none⟩), .pointer (some b), .int .u64 150]]).run Tryd.prog w = .ok (.tuple #[]) (w.setCell p (.pointer q)) := by
    intro p b q u w hb hp hf
    have hl : (loadVar 52 b).run Tryd.prog w = .ok (.pointer q) w := by
      have : (loadVar 52 b).run Tryd.prog w = (Go.load b).run Tryd.prog w := by kernel_rfl
      rw [this]
      simp [go_sem, hb]
    have hs : (storeVar 52 p (.pointer q)).run Tryd.prog w = .ok () (w.setCell p (.pointer q)) := by
      have : (storeVar 52 p (.pointer q)).run Tryd.prog w = (Go.storeCells p [.pointer q]).run Tryd.prog w := by kernel_rfl
      rw [this]
      simp [go_sem, hp, hf]
    have h : (((find Tryd.f37).getD (fun _ => pure undef)) #[.agg #[.pointer (some ⟨1, 52, none⟩), .pointer (some p), .int .u64 406], .agg #[.pointer (some ⟨1, 52, none⟩), .pointer (some b), .int .u64 150]]).run Tryd.prog w = (do let v ← loadVar 52 b; storeVar 52 p v; pure (Value.tuple #[]) : Sem Value).run Tryd.prog w := by kernel_rfl
    rw [h]
    simp [Sem.run_bind, hl, hs, Result.andThen]
  cases h : find Tryd.f37 with
  | none => rw [h] at hs; cases hs
  | some f =>
    rw [h] at h0
    exact ⟨f, rfl, h0⟩
theorem Tryd.mElem (v : Value) (w : World) : (Go.method 231 84 v "Elem").run Tryd.prog w = .ok (67, v) w := by kernel_rfl
theorem Tryd.mImplements (v : Value) (w : World) : (Go.method 231 84 v "Implements").run Tryd.prog w = .ok (68, v) w := by kernel_rfl
theorem Tryd.mAssignableTo (v : Value) (w : World) : (Go.method 231 84 v "AssignableTo").run Tryd.prog w = .ok (65, v) w := by kernel_rfl
theorem Tryd.mKind (v : Value) (w : World) : (Go.method 231 84 (.agg #[v]) "Kind").run Tryd.prog w = .ok (55, v) w := by kernel_rfl
end
end Go.Proofs.YtgnicopijocnjaaDoor
