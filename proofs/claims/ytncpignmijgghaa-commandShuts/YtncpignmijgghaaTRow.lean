import Derived.Test.YtncpignmijgghaaTMth
namespace Go.Proofs.Ytncpignmijgghaa
open Go.RowKit
set_option maxRecDepth 100000
set_option linter.unusedVariables false
set_option linter.unusedSimpArgs false

theorem next_fact : ∀ y : Nat, y < 256 → bits BinOp.or IntKind.u8 ((y : Int) * 2 % 256) (bits BinOp.and IntKind.i64 (pop8 (y &&& 149) : Nat) 1 % 256) = (stpN y : Int) := by decide +kernel
/-! lists that are told by their places -/
def tab (n : Nat) (f : Nat → Nat) : List Nat := (List.range n).map f
theorem tab_len (n : Nat) (f : Nat → Nat) : (tab n f).length = n := by simp [tab]
theorem tab_nth (n : Nat) (f : Nat → Nat) (i : Nat) (h : i < n) : nth (tab n f) i = f i := by
  unfold tab nth; rw [List.getD_eq_getElem?_getD, List.getElem?_map, List.getElem?_range h]; rfl
theorem tab_isB (n : Nat) (f : Nat → Nat) (h : ∀ i, f i < 256) : IsB (tab n f) := by
  intro x hx
  obtain ⟨i, _, rfl⟩ := List.mem_map.1 hx
  exact h i
theorem tab_succ (n : Nat) (f : Nat → Nat) : tab (n + 1) f = tab n f ++ [f n] := by simp [tab, List.range_succ]
theorem tab_ext (n : Nat) (f g : Nat → Nat) (h : ∀ i, i < n → f i = g i) : tab n f = tab n g :=
  list_ext (by rw [tab_len, tab_len]) (fun i hi => by rw [tab_len] at hi; rw [tab_nth _ _ _ hi, tab_nth _ _ _ hi, h i hi])
theorem tab_set (n : Nat) (f g : Nat → Nat) (k x : Nat) (hk : k < n) (h1 : g k = x) (h2 : ∀ i, i < n → i ≠ k → g i = f i) : (tab n f).set k x = tab n g := by
  refine list_ext (by rw [List.length_set, tab_len, tab_len]) fun i hi => ?_
  rw [List.length_set, tab_len] at hi
  rw [nth_set _ _ _ _ (by rw [tab_len]; exact hk)]
  by_cases e : k = i
  · subst e; rw [if_pos rfl, tab_nth _ _ _ hi, h1]
  · rw [if_neg e, tab_nth _ _ _ hi, tab_nth _ _ _ hi, h2 i hi (Ne.symm e)]
theorem tab_zero (n : Nat) (f : Nat → Nat) (h : ∀ i, i < n → f i = 0) : List.replicate n 0 = tab n f := by
  refine list_ext (by rw [List.length_replicate, tab_len]) fun i hi => ?_
  rw [List.length_replicate] at hi
  rw [tab_nth _ _ _ hi, h i hi]; unfold nth; simp [List.getD_eq_getElem?_getD, hi]
/-- bytes by the row -/
def scrL (L : List Nat) : List Nat := tab L.length (fun i => nth L i ^^^ rowN i)
theorem scrL_len (L : List Nat) : (scrL L).length = L.length := tab_len _ _
theorem scr_lt {L : List Nat} (h : IsB L) (i : Nat) : nth L i ^^^ rowN i < 256 := Fld.xor_lt (h.nth i) (rowN_lt i)
theorem scrL_isB {L : List Nat} (h : IsB L) : IsB (scrL L) := tab_isB _ _ (scr_lt h)
theorem cell_one (w : World) (v : Value) (j : Nat) (u : Value) (h : [v][j]? = some u) : (w.alloc (.cells #[v] 5)).cell? ((⟨w.heap.size, 0, none⟩ : Addr).add j) = some u := by
  rw [addr_add, cell_of_row _ _ _ _ _ _ (heap_alloc_new w _)]
  simpa using h
theorem bys_add (A : List Nat) (v : Nat) : bys A ++ [Value.int .u8 (v : Int)] = bys (A ++ [v]) := by simp [bys]
theorem isB_single (v : Nat) (h : v < 256) : IsB [v] := fun y hy => by cases hy with | head => exact h | tail _ h2 => cases h2
theorem own_nil (w : World) (lo g c : Nat) (h : w.ownsRow lo 5 1 (.slice (some ⟨g, 0, none⟩) 0 c) 0 []) (hg : lo ≤ g) : Ans w lo (some ⟨g, 0, none⟩) 0 c [] :=
  ⟨own_base h, (fun x hx => by cases hx), fun g' h' => by simp [Value.ownBlock] at h'; omega⟩
/-- the block that an answer may be written into: the one that it had at first, or a new one -/
def Mine (w0 : World) (r : Option Nat) (ao : Option Addr) (m co : Nat) : Prop := ∀ g, (Value.slice ao m co).ownBlock = some g → r = some g ∨ w0.heap.size ≤ g
theorem grown_mine {a b c : World} {r s : Option Nat} (h : a.grownBy b r) (k : b.grownBy c s) (hs : ∀ g, s = some g → r = some g ∨ a.heap.size ≤ g) : a.grownBy c r :=
  ⟨k.os.trans h.os, k.tape.trans h.tape, k.output.trans h.output, Nat.le_trans h.size k.size, fun i hi hn => (k.block i (Nat.lt_of_lt_of_le hi h.size) (fun e => by
    rcases hs i e.symm with h1 | h1
    · exact hn h1.symm
    · omega)).trans (h.block i hi hn)⟩
/-- 'out = append(out, v)' -/
theorem wpList_push2 (w0 w : World) {ops : Array Oper} {rest : List Oper} {o : Oper} {a : Act} {Q : Exit → Act → World → Prop} (hg : o.guard = none) (s x : Operand)
    (hop : o.op = Op.call { callee := .builtin .append, args := #[s, x], argTypes := #[38, 38] }) (ao : Option Addr) (m co v lo : Nat) (r : Option Nat) (D : List Nat) (hs : a.eval s = .slice ao m co)
    (hA : Ans w lo ao m co D) (hG : w0.grownBy w r) (hM : Mine w0 r ao m co) (hlo : lo ≤ w0.heap.size) (hv : v < 256) (hx : a.eval x = .slice (some ⟨w.heap.size, 0, none⟩) 1 1) (hb : m + 1 ≤ 140737488355328)
    (hK : ∀ gx cx w', Ans w' lo (some ⟨gx, 0, none⟩) (m + 1) cx (D ++ [v]) → w0.grownBy w' r → Mine w0 r (some ⟨gx, 0, none⟩) (m + 1) cx → wpList Try.prog ops Q rest (a.put o.dst (.slice (some ⟨gx, 0, none⟩) (m + 1) cx)) w') :
    wpList Try.prog ops Q (o :: rest) a (w.alloc (.cells #[.int .u8 (v : Int)] 5)) := by
  refine wpList_apB _ hg s x hop (.slice ao m co) m (bys D) hs (hA.own.alloc _) ⟨w.heap.size, 0, none⟩ 1 1 [.int .u8 (v : Int)] hx rfl (cell_one w _) (by simp [Value.oneCell']) (by decide) hb ?_
  intro gx cx w2 hgx hgr2 hown2
  rw [bys_add] at hown2
  have gA := grown_trans hG (World.grownBy_alloc w (.cells #[.int .u8 (v : Int)] 5) r)
  have hG2 := grown_mine gA hgr2 hM
  have hsz := gA.size
  refine hK gx cx w2 ⟨hown2, isB_append hA.byte (isB_single v hv), fun g h => ?_⟩ hG2 (fun g h => ?_)
  · have e : gx = g := Option.some.inj h
    subst e
    rcases hgx with h | h
    · exact hA.new gx h
    · exact Nat.le_trans hlo (Nat.le_trans hsz h)
  · have e : gx = g := Option.some.inj h
    subst e
    rcases hgx with h | h
    · exact hM gx h
    · exact .inr (Nat.le_trans hsz h)
/-- the bits of bytes -/
def bN (L : List Nat) (j : Nat) : Nat := nth L (j / 8) / 2 ^ (7 - j % 8) % 2
def bitL (L : List Nat) : List Nat := tab (8 * L.length) (bN L)
theorem bN_lt (L : List Nat) (j : Nat) : bN L j < 2 := Nat.mod_lt _ (by decide)
theorem bitL_isB (L : List Nat) (n : Nat) : IsB (tab n (bN L)) := tab_isB _ _ (fun i => by have := bN_lt L i; omega)
theorem bit_fact : ∀ x : Nat, x < 256 → ∀ p : Nat, p < 8 → bits .and .u8 ((x : Int) / (2 : Int) ^ p) 1 = ((x / 2 ^ p % 2 : Nat) : Int) := by decide +kernel
end Go.Proofs.Ytncpignmijgghaa
