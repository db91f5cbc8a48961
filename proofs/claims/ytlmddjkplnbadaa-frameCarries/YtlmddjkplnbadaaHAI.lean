import Derived.Lib.AppendZerosOnto
import Derived.Test.YtlmddjkplnbadaaXAG
import Derived.Test.YtlmddjkplnbadaaNHe
import Derived.Test.YtlmddjkplnbadaaZR
import Derived.Test.YtlmddjkplnbadaaZRs
import Derived.Test.YtlmddjkplnbadaaZSub
import Derived.Test.YtlmddjkplnbadaaNUn3
namespace Go.Proofs.Ytlmddjkplnbadaa
open Go.RowKit
set_option maxRecDepth 100000
set_option linter.unusedVariables false
set_option linter.unusedSimpArgs false

/-- a thing of some cells, one of which tells bytes: its cells, and the bytes -/
structure Th where
  cs : List Value
  r : Rw
def th0 : Th := ⟨[], kr0⟩
def flT (ts : List Th) : List Value := ts.flatMap Th.cs
def SzT (k : Nat) (ts : List Th) : Prop := ∀ x, x ∈ ts → x.cs.length = k
theorem flT_app (ts ls : List Th) : flT (ts ++ ls) = flT ts ++ flT ls := by simp [flT]
theorem flT_at {k : Nat} {ts : List Th} (hz : SzT k ts) (i : Nat) (x : Th) (h : ts[i]? = some x) (j : Nat) (hj : j < k) : (flT ts)[i * k + j]? = x.cs[j]? := by
  induction ts generalizing i with
  | nil => cases h
  | cons a ts ih =>
    have ha := hz a List.mem_cons_self
    cases i with
    | zero =>
      have h : some a = some x := h
      have h := Option.some.inj h
      subst h
      show (a.cs ++ flT ts)[0 * k + j]? = _
      rw [List.getElem?_append_left (by rw [ha, Nat.zero_mul, Nat.zero_add]; exact hj), Nat.zero_mul, Nat.zero_add]
    | succ i =>
      have h : ts[i]? = some x := h
      show (a.cs ++ flT ts)[(i + 1) * k + j]? = _
      have e : (i + 1) * k + j = i * k + j + k := by rw [Nat.succ_mul]; omega
      rw [e, List.getElem?_append_right (by rw [ha]; omega), ha, Nat.add_sub_cancel]
      exact ih (fun y hy => hz y (List.mem_cons_of_mem _ hy)) i h
theorem flT_take {k : Nat} {ts : List Th} (hz : SzT k ts) (m : Nat) : (flT ts).take (m * k) = flT (ts.take m) := by
  induction ts generalizing m with
  | nil => simp [flT]
  | cons x ts ih =>
    have hx := hz x List.mem_cons_self
    cases m with
    | zero => simp [flT]
    | succ m =>
      show (x.cs ++ flT ts).take ((m + 1) * k) = x.cs ++ flT (ts.take m)
      rw [← ih (fun y hy => hz y (List.mem_cons_of_mem _ hy)) m, List.take_append, List.take_of_length_le (by rw [hx, Nat.succ_mul]; omega)]
      congr 2
      rw [hx, Nat.succ_mul]; omega
theorem flT_drop {k : Nat} {ts : List Th} (hz : SzT k ts) (m : Nat) : (flT ts).drop (m * k) = flT (ts.drop m) := by
  induction ts generalizing m with
  | nil => simp [flT]
  | cons x ts ih =>
    have hx := hz x List.mem_cons_self
    cases m with
    | zero => simp [flT]
    | succ m =>
      show (x.cs ++ flT ts).drop ((m + 1) * k) = flT (ts.drop m)
      rw [← ih (fun y hy => hz y (List.mem_cons_of_mem _ hy)) m, List.drop_append, List.drop_of_length_le (by rw [hx, Nat.succ_mul]; omega), List.nil_append]
      congr 1
      rw [hx, Nat.succ_mul]; omega
/-- a row of things in memory of the call's own -/
structure OwT (t : TypeId) (k : Nat) (w : World) (lo : Nat) (a : Option Addr) (n c : Nat) (ts : List Th) : Prop where
  own : w.ownsRow 0 t k (.slice a n c) n (flT ts)
  len : ts.length = n
  sz : SzT k ts
  new : ∀ g, (Value.slice a n c).ownBlock = some g → lo ≤ g
  each : ∀ x, x ∈ ts → Ans w lo x.r.a x.r.n x.r.c x.r.D
  apart : ts.Pairwise fun x y => ∀ g, x.r.v.ownBlock = some g → y.r.v.ownBlock ≠ some g
/-- the blocks that they own -/
def Tbl (v : Value) (ts : List Th) (g : Nat) : Prop := v.ownBlock = some g ∨ ∃ x, x ∈ ts ∧ x.r.v.ownBlock = some g
section
variable {t : TypeId} {k : Nat} {w w' : World} {lo lo' : Nat} {a : Option Addr} {n c : Nat} {ts : List Th}
theorem OwT.nil (t : TypeId) (k : Nat) (w : World) (lo : Nat) : OwT t k w lo none 0 0 [] := ⟨World.ownsRow_nil _ _ _ _, rfl, (fun x h => by cases h), (fun g h => by simp [Value.ownBlock] at h), (fun k h => by cases h), List.Pairwise.nil⟩
theorem OwT.max (h : OwT t k w lo a n c ts) : n ≤ c ∧ c ≤ maxLen := by
  rcases h.own.2 with ⟨h1, h2⟩ | ⟨g, cap', cur, h1, _, h3, h4, h5, _⟩
  · simp only [Value.slice.injEq] at h1; obtain ⟨_, h6, h7⟩ := h1; subst h6; subst h7; exact ⟨Nat.le_refl _, Nat.zero_le _⟩
  · simp only [Value.slice.injEq] at h1; obtain ⟨_, _, h7⟩ := h1; subst h7; exact ⟨h4, h5⟩
theorem OwT.someT (h : OwT t k w lo a n c ts) (h0 : 0 < n) : ∃ g, a = some ⟨g, 0, none⟩ := by
  rcases h.own.2 with ⟨h1, h2⟩ | ⟨g, cap', cur, h1, _⟩
  · omega
  · simp only [Value.slice.injEq] at h1; exact ⟨g, h1.1⟩
theorem OwT.cell {g : Nat} (h : OwT t k w lo (some ⟨g, 0, none⟩) n c ts) {i : Nat} {x : Th} (hi : ts[i]? = some x) (j : Nat) (hj : j < k) : w.cell? ⟨g, i * k + j, none⟩ = x.cs[j]? := by
  have hl := h.sz x (List.mem_of_getElem? hi)
  have hf := flT_at h.sz i x hi j hj
  have hu : x.cs[j]? = some (x.cs[j]'(by omega)) := List.getElem?_eq_getElem (by omega)
  rw [hu] at hf ⊢
  have := h.own.cells (g := g) rfl (i * k + j) _ hf
  rw [addr_add', Nat.zero_add] at this
  exact this
theorem OwT.free {g : Nat} (h : OwT t k w lo (some ⟨g, 0, none⟩) n c ts) (i : Nat) : w.frozen? ⟨g, i, none⟩ = false := h.own.frozenAt i
theorem OwT.keep (h : OwT t k w lo a n c ts) (hg : w.grownBy w' none) : OwT t k w' lo a n c ts :=
  ⟨h.own.kept hg (by cases (Value.slice a n c).ownBlock <;> simp), h.len, h.sz, h.new, fun k hk => (h.each k hk).keep hg, h.apart⟩
theorem OwT.wide (h : OwT t k w lo a n c ts) (hl : lo' ≤ lo) : OwT t k w lo' a n c ts :=
  ⟨h.own, h.len, h.sz, fun g hg => Nat.le_trans hl (h.new g hg), fun k hk => (h.each k hk).wide hl, h.apart⟩
theorem OwT.row {g : Nat} (h : OwT t k w lo (some ⟨g, 0, none⟩) n c ts) : ∃ cs, BxS w g t cs := by
  rcases h.own.2 with ⟨h1, _⟩ | ⟨y, cap', cur, h1, _, hh, _⟩
  · simp at h1
  · simp only [Value.slice.injEq, Option.some.injEq, Addr.mk.injEq] at h1
    obtain ⟨⟨rfl, _⟩, _, rfl⟩ := h1
    exact ⟨_, hh⟩
theorem OwT.rowO (h : OwT t k w lo a n c ts) {g : Nat} (e : (Value.slice a n c).ownBlock = some g) : ∃ cs, BxS w g t cs := by
  rcases h.own.2 with ⟨h1, _⟩ | ⟨y, cap', cur, h1, _, hh, _⟩
  · rw [h1] at e; simp [Value.ownBlock] at e
  · rw [h1] at e
    have e : y = g := Option.some.inj e
    subst e
    exact ⟨_, hh⟩
theorem OwT.hi (h : OwT t k w lo a n c ts) {x : Nat} (hx : Tbl (.slice a n c) ts x) : x < w.heap.size ∧ lo ≤ x := by
  rcases hx with hx | ⟨y, hy, hx⟩
  · obtain ⟨cs, hb⟩ := h.rowO hx
    exact ⟨hb.lt, h.new x hx⟩
  · exact ⟨(h.each y hy).ltB hx, (h.each y hy).new x hx⟩
theorem OwT.fz {p : Nat → Prop} (h : OwT t k w lo a n c ts) (hF : Fz p w w') (hn : ∀ x, Tbl (.slice a n c) ts x → ¬ p x) : OwT t k w' lo a n c ts := by
  refine ⟨⟨h.own.1, ?_⟩, h.len, h.sz, h.new, fun y hy => (h.each y hy).fz hF (fun x e => hn x (.inr ⟨y, hy, e⟩)), h.apart⟩
  rcases h.own.2 with h1 | ⟨g, cap', cur, h1, h2, h3, h4⟩
  · exact .inl h1
  · refine .inr ⟨g, cap', cur, h1, h2, ?_, h4⟩
    rw [hF.block g (Array.getElem?_eq_some_iff.1 h3).1 (hn g (.inl (by rw [h1]; rfl)))]
    exact h3
theorem OwT.far {x : Nat} (h : OwT t k w lo a n c ts) (hg : w.grownBy w' (some x)) (hx : x < lo) : OwT t k w' lo a n c ts :=
  h.fz (Fz.of1 hg) (fun y hy e => by have := (h.hi hy).2; have e : y = x := e; omega)
/-- no box of another type -/
theorem OwT.box {g : Nat} {u : TypeId} {cs : Array Value} (h : OwT t k w lo a n c ts) (b : BxS w g u cs) (h0 : t ≠ u) (h2 : 5 ≠ u) : ¬ Tbl (.slice a n c) ts g := by
  rintro (e | ⟨q, hq, e⟩)
  · obtain ⟨cs', hb⟩ := h.rowO e
    exact BxS.apart hb b h0 rfl
  · exact (h.each q hq).apart b h2 e
theorem OwT.bx {g : Nat} {u : TypeId} {cs : Array Value} (h : OwT t k w lo a n c ts) (b : BxS w g u cs) (h0 : t ≠ u) (h2 : 5 ≠ u) (v : w.grownBy w' (some g)) : OwT t k w' lo a n c ts :=
  h.fz (Fz.of1 v) (fun x hx e => by rw [e] at hx; exact h.box b h0 h2 hx)
theorem OwT.getD (h : OwT t k w lo a n c ts) {i : Nat} (hi : i < n) : ts[i]? = some (ts.getD i th0) ∧ ts.getD i th0 ∈ ts := by
  have hl := h.len
  have e : ts[i]? = some (ts.getD i th0) := by rw [List.getD_eq_getElem?_getD, List.getElem?_eq_getElem (by omega)]; rfl
  exact ⟨e, List.mem_of_getElem? e⟩
/-- a thing is written into its row -/
theorem OwT.set {g i : Nat} {x' : Th} (h : OwT t k w lo (some ⟨g, 0, none⟩) n c ts) (ht : 5 ≠ t) (ho : w'.ownsRow 0 t k (.slice (some ⟨g, 0, none⟩) n c) n (flT (ts.set i x'))) (u : w.grownBy w' (some g)) (hs : x'.cs.length = k)
    (hq : Ans w lo x'.r.a x'.r.n x'.r.c x'.r.D) (hap : ∀ j y, j ≠ i → ts[j]? = some y → ∀ b, y.r.v.ownBlock = some b → x'.r.v.ownBlock ≠ some b) : OwT t k w' lo (some ⟨g, 0, none⟩) n c (ts.set i x') := by
  have hl := h.len
  have hpw := List.pairwise_iff_getElem.1 h.apart
  obtain ⟨cs, hb⟩ := h.row
  have hk : ∀ r : Rw, Ans w lo r.a r.n r.c r.D → Ans w' lo r.a r.n r.c r.D := fun r hr => hr.kept u (by
    cases e : (Value.slice r.a r.n r.c).ownBlock with
    | none => exact .inl rfl
    | some y => exact .inr (fun e2 => by rw [e2] at e; exact hr.apart hb ht e))
  refine ⟨ho, by rw [List.length_set]; exact hl, fun y hy => ?_, h.new, fun y hy => ?_, List.pairwise_iff_getElem.2 (fun p j hkl hjl hkj b hx e => ?_)⟩
  · rcases List.mem_or_eq_of_mem_set hy with hy | rfl
    · exact h.sz y hy
    · exact hs
  · rcases List.mem_or_eq_of_mem_set hy with hy | rfl
    · exact hk y.r (h.each y hy)
    · exact hk _ hq
  · have hkl' := hkl
    have hjl' := hjl
    rw [List.length_set] at hkl' hjl'
    by_cases hki : p = i
    · subst hki
      rw [List.getElem_set_self] at hx
      rw [List.getElem_set_ne (by omega)] at e
      exact hap j _ (by omega) (List.getElem?_eq_getElem hjl') b e hx
    · rw [List.getElem_set_ne (fun e => hki e.symm)] at hx
      by_cases hji : j = i
      · subst hji
        rw [List.getElem_set_self] at e
        exact hap p _ hki (List.getElem?_eq_getElem hkl') b hx e
      · rw [List.getElem_set_ne (fun e => hji e.symm)] at e
        exact hpw p j hkl' hjl' hkj b hx e
/-- a thing more -/
theorem OwT.push (h : OwT t k w lo a n c ts) (ht : 5 ≠ t) (hlo : lo ≤ w.heap.size) {g cap : Nat} (hgx : (Value.slice a n c).ownBlock = some g ∨ w.heap.size ≤ g)
    (hg : w.grownBy w' (Value.slice a n c).ownBlock) {x : Th} (hs : x.cs.length = k) (hx : Ans w lo x.r.a x.r.n x.r.c x.r.D) (hap : ∀ y, y ∈ ts → ∀ b, y.r.v.ownBlock = some b → x.r.v.ownBlock ≠ some b)
    (hown : w'.ownsRow 0 t k (.slice (some ⟨g, 0, none⟩) (n + 1) cap) (n + 1) (flT ts ++ x.cs)) : OwT t k w' lo (some ⟨g, 0, none⟩) (n + 1) cap (ts ++ [x]) := by
  have hty : ∀ r : Rw, Ans w lo r.a r.n r.c r.D → Ans w' lo r.a r.n r.c r.D := fun r hr => hr.kept hg (by
    cases e : (Value.slice r.a r.n r.c).ownBlock with
    | none => exact .inl rfl
    | some y => exact .inr (fun e2 => by
        obtain ⟨cs, hb⟩ := h.rowO e2.symm
        exact hr.apart hb ht e))
  refine ⟨by rw [flT_app]; simpa [flT] using hown, by simp [h.len], fun y hy => ?_, fun y hy => ?_, fun q hq => ?_, List.pairwise_append.2 ⟨h.apart, List.pairwise_singleton _ _, fun r hr s hs => by rw [List.mem_singleton.1 hs]; exact hap r hr⟩⟩
  · rcases List.mem_append.1 hy with hy | hy
    · exact h.sz y hy
    · rw [List.mem_singleton.1 hy]; exact hs
  · have e : g = y := Option.some.inj hy
    subst e
    rcases hgx with h1 | h1
    · exact h.new g h1
    · omega
  · rcases List.mem_append.1 hq with hq | hq
    · exact hty q.r (h.each q hq)
    · have hq := List.mem_singleton.1 hq
      subst hq
      exact hty q.r hx
end
theorem cells_row (t : TypeId) (w : World) (L : List Value) : ∀ j u, L[j]? = some u → (w.alloc (.cells L.toArray t)).cell? ((⟨w.heap.size, 0, none⟩ : Addr).add j) = some u := by
  intro j u hu
  rw [addr_add', Nat.zero_add]
  have b := BxS.new w t L.toArray
  have hj : j < L.length := (List.getElem?_eq_some_iff.1 hu).1
  rw [b.cell j (by simpa using hj)]
  rw [← hu]
  simp
/-- 'append(v, x)' -/
theorem wpList_psT (ty t : TypeId) (k by' : Nat) (z : Value) (hu : Try.prog.underlying ty = some (.slice t)) (hinf : (Try.prog.info? t).map (fun i => (i.zero, i.size, i.bytes)) = some (some z, k, by')) (hzs : z.cells.size = k) (hk0 : 0 < k) (ht : 5 ≠ t)
    (w : World) (lo : Nat) (e : Th) {ops : Array Oper} {rest : List Oper} {o : Oper} {a : Act} {Q : Exit → Act → World → Prop} (hg : o.guard = none) (s x : Operand)
    (hop : o.op = Op.call { callee := .builtin .append, args := #[s, x], argTypes := #[ty, ty] }) (ao : Option Addr) (m co : Nat) (ts : List Th) (hs : a.eval s = .slice ao m co)
    (hA : OwT t k w lo ao m co ts) (hlo : lo ≤ w.heap.size) (hx : a.eval x = .slice (some ⟨w.heap.size, 0, none⟩) 1 1) (hb : (m + 1) * by' ≤ 140737488355328) (hb1 : m + 1 ≤ maxLen) (cs : Array Value) (hcs : cs = e.cs.toArray) (hes : e.cs.length = k) (he1 : ∀ u, u ∈ e.cs → u.oneCell' = true) (he : Ans w lo e.r.a e.r.n e.r.c e.r.D) (hap : ∀ y, y ∈ ts → ∀ b, y.r.v.ownBlock = some b → e.r.v.ownBlock ≠ some b)
    (hK : ∀ gx cx w', OwT t k w' lo (some ⟨gx, 0, none⟩) (m + 1) cx (ts ++ [e]) → w.grownBy w' (Value.slice ao m co).ownBlock → ((Value.slice ao m co).ownBlock = some gx ∨ w.heap.size ≤ gx) → wpList Try.prog ops Q rest (a.put o.dst (.slice (some ⟨gx, 0, none⟩) (m + 1) cx)) w') :
    wpList Try.prog ops Q (o :: rest) a (w.alloc (.cells cs t)) := by
  subst hcs
  obtain ⟨i0, hi, hz0, hz1, hz2⟩ := info_parts hinf
  have gA := World.grownBy_alloc w (.cells e.cs.toArray t) none
  refine wpList_apS _ hg s x ty t i0 _ k by' hu hi hz0 hz1 hz2 hzs hk0 hop (.slice ao m co) m (flT ts) hs (hA.own.alloc _) ⟨w.heap.size, 0, none⟩ 1 1 e.cs hx (by rw [hes, Nat.one_mul]) (cells_row t w e.cs) he1 (by decide) hb1 hb ?_
  intro gx cx w' hgx hgr hown
  have hsz := gA.size
  have hor : (Value.slice ao m co).ownBlock = some gx ∨ w.heap.size ≤ gx := by
    rcases hgx with h | h
    · exact .inl h
    · exact .inr (by omega)
  have hgr' := grown_trans (grown_weak gA (Value.slice ao m co).ownBlock) hgr
  exact hK gx cx w' (hA.push ht hlo hor hgr' hes he hap hown) hgr' hor
theorem setCells_ownT {t : TypeId} {k g n cap : Nat} {ts : List Th} {w : World} (h : w.ownsRow 0 t k (.slice (some ⟨g, 0, none⟩) n cap) n (flT ts)) (hz : SzT k ts) (hl : ts.length = n) (i : Nat) (hi : i < n) (x : Th) (hx : x.cs.length = k) : (w.setCells g (i * k) x.cs).ownsRow 0 t k (.slice (some ⟨g, 0, none⟩) n cap) n (flT (ts.set i x)) ∧ w.grownBy (w.setCells g (i * k) x.cs) (some g) := by
  have hsp : ∀ (vs : List Value) (o : Nat) (w : World) (X : List Value), w.ownsRow 0 t k (.slice (some ⟨g, 0, none⟩) n cap) n X → o + vs.length ≤ n * k → (w.setCells g o vs).ownsRow 0 t k (.slice (some ⟨g, 0, none⟩) n cap) n (X.take o ++ vs ++ X.drop (o + vs.length)) ∧ w.grownBy (w.setCells g o vs) (some g) := by
    intro vs
    induction vs with
    | nil =>
      intro o w X h ho
      refine ⟨?_, World.grownBy.refl _ _⟩
      rw [List.append_nil, List.length_nil, Nat.add_zero, List.take_append_drop]
      exact h
    | cons v vs ih =>
      intro o w X h ho
      rw [List.length_cons] at ho
      have hX := h.1
      have h1 : (w.setCell ⟨g, o, none⟩ v).ownsRow 0 t k (.slice (some ⟨g, 0, none⟩) n cap) n (X.set o v) := by
        refine ⟨by rw [List.length_set]; exact h.1, ?_⟩
        rcases h.2 with ⟨h1, _⟩ | ⟨g', cap', cur, h1, h2, h3, h4, h5, h6, h7⟩
        · simp at h1
        · simp only [Value.slice.injEq, Option.some.injEq, Addr.mk.injEq] at h1
          obtain ⟨⟨rfl, _⟩, _, rfl⟩ := h1
          refine .inr ⟨g, cap, cur.setIfInBounds o v, rfl, h2, heap_setCell_same w g o _ _ _ h3, h4, h5, by simpa using h6, ?_⟩
          rw [← h7, Array.toList_setIfInBounds, List.take_set]
      obtain ⟨k1, k2⟩ := ih (o + 1) _ _ h1 (by omega)
      refine ⟨?_, grown_trans (grown_set w g o v) k2⟩
      have e : (X.set o v).take (o + 1) ++ vs ++ (X.set o v).drop (o + 1 + vs.length) = X.take o ++ (v :: vs) ++ X.drop (o + (v :: vs).length) := by
        rw [List.drop_set_of_lt (by omega), List.take_add_one, List.take_set_of_le (Nat.le_refl _), List.getElem?_set_self (by omega), List.length_cons, show o + 1 + vs.length = o + (vs.length + 1) by omega]
        simp
      rw [← e]
      exact k1
  have hik : i * k + k ≤ n * k := by rw [← Nat.succ_mul]; exact Nat.mul_le_mul_right k hi
  obtain ⟨k1, k2⟩ := hsp x.cs (i * k) w _ h (by rw [hx]; exact hik)
  refine ⟨?_, k2⟩
  have e : flT (ts.set i x) = (flT ts).take (i * k) ++ x.cs ++ (flT ts).drop (i * k + x.cs.length) := by
    rw [flT_take hz, show i * k + x.cs.length = (i + 1) * k by rw [hx, Nat.succ_mul], flT_drop hz, List.set_eq_take_append_cons_drop, if_pos (by omega), flT_app]
    show flT (ts.take i) ++ (x.cs ++ flT (ts.drop (i + 1))) = _
    rw [List.append_assoc]
  rw [e]
  exact k1
theorem run_stT {t : TypeId} {k : Nat} (hinf : (Try.prog.info? t).map (fun i => i.size) = some k) (w : World) (g o : Nat) (L : List Value) (hL : L.length = k) (h1 : ∀ v, v ∈ L → v.oneCell' = true) (hc : ∀ j, j < k → (w.cell? ⟨g, o + j, none⟩).isSome = true) (hf : ∀ j, j < k → w.frozen? ⟨g, o + j, none⟩ = false) :
    (Instr.storeAt t (.pointer (some ⟨g, o, none⟩)) (.agg L.toArray)).run Try.prog w = .ok () (w.setCells g o L) := by
  have hst := run_storeCells_cells (P := Try.prog) g o L 0 w (by simpa [hL] using hc) (by simpa [hL] using hf) h1
  simp only [Nat.add_zero] at hst
  cases hq : Try.prog.info? t with
  | none => simp [hq] at hinf
  | some i =>
    have hs : k = i.size := by simp [hq] at hinf; omega
    simp [Instr.storeAt, Instr.sureAddr, storeVar, sizeOf, typeInfo, hq, Value.cells, ← hs, hL, hst]
/-- a thing is stored into a row of them -/
theorem wpList_stTh {t : TypeId} {k : Nat} (hinf : (Try.prog.info? t).map (fun i => i.size) = some k) (w : World) {ops : Array Oper} {rest : List Oper} {o : Oper} {a : Act} {Q : Exit → Act → World → Prop} (hg : o.guard = none) (p x : Operand) (hop : o.op = Op.store t p x)
    (g i n cap off : Nat) (ts : List Th) (e : Th) (hoff : off = i * k) (hp : a.eval p = .pointer (some ⟨g, off, none⟩)) (vs : Array Value) (hx : a.eval x = .agg vs) (hvs : vs = e.cs.toArray) (hes : e.cs.length = k) (he1 : ∀ u, u ∈ e.cs → u.oneCell' = true) (h : w.ownsRow 0 t k (.slice (some ⟨g, 0, none⟩) n cap) n (flT ts)) (hz : SzT k ts) (hl : ts.length = n) (hi : i < n)
    (hK : ∀ w', w'.ownsRow 0 t k (.slice (some ⟨g, 0, none⟩) n cap) n (flT (ts.set i e)) → w.grownBy w' (some g) → wpList Try.prog ops Q rest (a.put o.dst undef) w') :
    wpList Try.prog ops Q (o :: rest) a w := by
  subst hvs
  subst hoff
  refine wpList_plain hg fun K hK' => ?_
  obtain ⟨k1, k2⟩ := setCells_ownT h hz hl i hi e hes
  have hik : i * k + k ≤ n * k := by rw [← Nat.succ_mul]; exact Nat.mul_le_mul_right k hi
  have hst : (Instr.storeAt t (.pointer (some ⟨g, i * k, none⟩)) (.agg e.cs.toArray)).run Try.prog w = .ok () (w.setCells g (i * k) e.cs) := by
    rcases h.2 with ⟨h1, _⟩ | ⟨g', cap', cur, h1, _, h3, h4, _, h6, _⟩
    · simp at h1
    · simp only [Value.slice.injEq, Option.some.injEq, Addr.mk.injEq] at h1
      obtain ⟨⟨rfl, _⟩, _, rfl⟩ := h1
      have hnk : n * k ≤ cap * k := Nat.mul_le_mul_right k h4
      refine run_stT hinf w g (i * k) e.cs hes he1 (fun j hj => ?_) (fun j hj => frozen_of_row w g _ _ _ h3)
      rw [cell_of_row _ _ _ _ _ _ h3, Array.getElem?_eq_getElem (by omega)]
      rfl
  unfold Oper.wp
  simp [execOp, hop, hp, hx, hst, Result.andThen]
  exact hK' _ _ (hK _ k1 k2)

/-- an ear as data -/
structure Ed where
  x : Int
  D : List Nat
def ed0 : Ed := ⟨0, []⟩
def Er.d (e : Er) : Ed := ⟨e.x, e.r.D⟩
def Er.th (e : Er) : Th := ⟨[.int .i64 e.x, .slice e.r.a e.r.n e.r.c], e.r⟩
def er00 : Er := ⟨0, kr0⟩
structure RdL (w : World) (a : Option Addr) (n c : Nat) (Es : List Ed) : Prop where
  len : Es.length = n
  ex : ∃ F : Nat → Er, RdE w a n c F ∧ ∀ i, i < n → (F i).x = (Es.getD i ed0).x ∧ (F i).r.D = (Es.getD i ed0).D
/-- ears in memory of the call's own -/
structure OwL (w : World) (lo : Nat) (a : Option Addr) (n c : Nat) (es : List Er) (Es : List Ed) : Prop where
  o : OwT 68 2 w lo a n c (es.map Er.th)
  d : es.map Er.d = Es
theorem RdL.keep {w w' : World} {a : Option Addr} {n c : Nat} {Es : List Ed} (h : RdL w a n c Es) (hg : w.grownBy w' none) : RdL w' a n c Es := by
  obtain ⟨F, h1, h2⟩ := h.ex
  exact ⟨h.len, F, h1.keep hg, h2⟩
section
variable {w w' : World} {lo lo' : Nat} {a : Option Addr} {n c : Nat} {es : List Er} {Es : List Ed}
theorem OwL.keep (h : OwL w lo a n c es Es) (hg : w.grownBy w' none) : OwL w' lo a n c es Es := ⟨h.o.keep hg, h.d⟩
theorem OwL.wide (h : OwL w lo a n c es Es) (hl : lo' ≤ lo) : OwL w lo' a n c es Es := ⟨h.o.wide hl, h.d⟩
theorem OwL.fz {p : Nat → Prop} (h : OwL w lo a n c es Es) (hF : Fz p w w') (hn : ∀ x, Tbl (.slice a n c) (es.map Er.th) x → ¬ p x) : OwL w' lo a n c es Es := ⟨h.o.fz hF hn, h.d⟩
theorem OwL.far {x : Nat} (h : OwL w lo a n c es Es) (hg : w.grownBy w' (some x)) (hx : x < lo) : OwL w' lo a n c es Es := ⟨h.o.far hg hx, h.d⟩
theorem OwL.bx {g : Nat} {u : TypeId} {cs : Array Value} (h : OwL w lo a n c es Es) (b : BxS w g u cs) (h0 : 68 ≠ u) (h2 : 5 ≠ u) (v : w.grownBy w' (some g)) : OwL w' lo a n c es Es := ⟨h.o.bx b h0 h2 v, h.d⟩
theorem OwL.lenE (h : OwL w lo a n c es Es) : es.length = n := by have := h.o.len; rw [List.length_map] at this; exact this
theorem OwL.len (h : OwL w lo a n c es Es) : Es.length = n := by rw [← h.d, List.length_map]; exact h.lenE
theorem OwL.cell {g : Nat} (h : OwL w lo (some ⟨g, 0, none⟩) n c es Es) {i : Nat} {e : Er} (hi : es[i]? = some e) : w.cell? ⟨g, i * 2, none⟩ = some (.int .i64 e.x) ∧ w.cell? ⟨g, i * 2 + 1, none⟩ = some (.slice e.r.a e.r.n e.r.c) := by
  have hi' : (es.map Er.th)[i]? = some e.th := by rw [List.getElem?_map, hi]; rfl
  exact ⟨h.o.cell hi' 0 (by decide), h.o.cell hi' 1 (by decide)⟩
theorem OwL.at (h : OwL w lo a n c es Es) {i : Nat} (hi : i < n) : es[i]? = some (es.getD i er00) ∧ Es[i]? = some (es.getD i er00).d ∧ (es.getD i er00).th ∈ es.map Er.th := by
  have hl := h.lenE
  have e : es[i]? = some (es.getD i er00) := by rw [List.getD_eq_getElem?_getD, List.getElem?_eq_getElem (by omega)]; rfl
  refine ⟨e, ?_, List.mem_map_of_mem (List.mem_of_getElem? e)⟩
  rw [← h.d, List.getElem?_map, e]; rfl
theorem OwL.rd (h : OwL w lo a n c es Es) : RdL w a n c Es := by
  have hm := h.o.max
  refine ⟨h.len, fun i => es.getD i er00, ⟨hm.1, hm.2, fun h0 => ?_, fun i hi => ?_⟩, fun i hi => ?_⟩
  · obtain ⟨g, rfl⟩ := h.o.someT h0
    have hb := (h.o.hi (x := g) (.inl rfl)).1
    refine ⟨g, 0, rfl, hb, fun i hi => ?_⟩
    rw [Nat.zero_add]
    exact h.cell (h.at hi).1
  · exact (h.o.each _ (h.at hi).2.2).rd
  · have := (h.at hi).2.1
    have e : Es.getD i ed0 = (es.getD i er00).d := by rw [List.getD_eq_getElem?_getD, this]; rfl
    rw [e]
    exact ⟨rfl, rfl⟩
end
theorem RdL.nil (w : World) : RdL w none 0 0 [] := ⟨rfl, fun _ => er00, ⟨Nat.le_refl _, Nat.zero_le _, fun h => by omega, fun i h => by omega⟩, fun i h => by omega⟩
theorem OwL.nil (w : World) (lo : Nat) : OwL w lo none 0 0 [] [] := ⟨OwT.nil _ _ _ _, rfl⟩
/-- which listeners may be, as data -/
def erD (e : Ed) : Bool := exB e.x && decide (e.D.length ≤ 65541) && !(decide (e.x = -1) && decide (0 < e.D.length))
def leD (cr sz ma : Int) (Es : List Ed) : Bool := decide (opE cr sz = 0) && exB ma && decide (Es.length = 7) && Es.all erD
theorem alE_eq (F : Nat → Er) (Es : List Ed) (n : Nat) (hn : n ≤ Es.length) (h : ∀ j, j < n → erB (F j) = erD (Es.getD j ed0)) : alE F n = (Es.take n).all erD := by
  induction n with
  | zero => rfl
  | succ n ih =>
    show (alE F n && erB (F n)) = _
    rw [ih (by omega) (fun j hj => h j (by omega)), h n (by omega), List.take_add_one, List.all_append, List.getD_eq_getElem?_getD]
    rw [List.getElem?_eq_getElem (by omega)]
    simp
theorem leB_leD {w : World} {a : Option Addr} {n c : Nat} {F : Nat → Er} {Es : List Ed} (cr sz ma : Int) (hl : Es.length = n) (h1 : RdE w a n c F) (h2 : ∀ i, i < n → (F i).x = (Es.getD i ed0).x ∧ (F i).r.D = (Es.getD i ed0).D) : leB cr sz ma n F = leD cr sz ma Es := by
  unfold leB leD
  rw [alE_eq F Es n (by omega) (fun j hj => ?_), List.take_of_length_le (by omega), hl]
  unfold erB erD
  have hn := (h1.data j hj).len
  rw [← hn, (h2 j hj).1, (h2 j hj).2]
theorem listenerMay2_any (cr sz ma : Int) (a : Option Addr) (n cap : Nat) (Es : List Ed) (w : World) (h : RdL w a n cap Es) :
    Calls Try.prog 65 #[.agg (liA cr sz ma a n cap)] w fun e w' => e = .returned (.bool (leD cr sz ma Es)) ∧ w.grownBy w' none := by
  obtain ⟨F, h1, h2⟩ := h.ex
  rw [← leB_leD cr sz ma h.len h1 h2]
  exact listenerMay_any cr sz ma a n cap F w h1
theorem leD_ok {cr sz ma : Int} {Es : List Ed} (h : leD cr sz ma Es = true) : (0 ≤ cr ∧ cr ≤ 1023) ∧ (13 ≤ sz ∧ sz ≤ 2048) ∧ (-1 ≤ ma ∧ ma ≤ 255) ∧ Es.length = 7 ∧ ∀ e, e ∈ Es → (-1 ≤ e.x ∧ e.x ≤ 255) ∧ e.D.length ≤ 65541 ∧ (e.x = -1 → e.D = []) := by
  unfold leD exB at h
  simp only [Bool.and_eq_true, decide_eq_true_eq, List.all_eq_true] at h
  obtain ⟨⟨⟨h1, h2⟩, h3⟩, h4⟩ := h
  unfold opE at h1
  split at h1
  · rename_i q1
    split at h1
    · rename_i q2
      refine ⟨of_decide_eq_true q1, of_decide_eq_true q2, h2, h3, fun e he => ?_⟩
      have := h4 e he
      unfold erD exB at this
      simp only [Bool.and_eq_true, decide_eq_true_eq, Bool.not_eq_true', Bool.and_eq_false_iff, decide_eq_false_iff_not] at this
      obtain ⟨⟨t1, t2⟩, t3⟩ := this
      refine ⟨t1, t2, fun ex => ?_⟩
      rcases t3 with t3 | t3
      · exact absurd ex t3
      · exact List.eq_nil_of_length_eq_zero (by omega)
    · cases h1
  · cases h1
theorem Try.info_ea3 : (Try.prog.info? 68).map (fun i => (i.zero, i.size, i.bytes)) = some (some (.agg #[.int .i64 0, .slice none 0 0]), 2, 32) := by kernel_rfl
theorem Try.info_ea2 : (Try.prog.info? 68).map (fun i => i.size) = some 2 := by kernel_rfl
theorem made_ef : (madeCells (Value.agg #[.int .i64 0, .slice none 0 0]).cells (7 * 2)).toList = flT ((List.replicate 7 er00).map Er.th) := by kernel_rfl
theorem OwT.zerosE {w : World} {lo g : Nat} (h : w.ownsRow 0 68 2 (.slice (some ⟨g, 0, none⟩) 7 7) 7 (flT ((List.replicate 7 er00).map Er.th))) (hl : lo ≤ g) : OwT 68 2 w lo (some ⟨g, 0, none⟩) 7 7 ((List.replicate 7 er00).map Er.th) := by
  rw [List.map_replicate] at h ⊢
  refine ⟨h, List.length_replicate, fun x hx => by rw [(List.mem_replicate.1 hx).2]; rfl, fun x e => by have e : g = x := Option.some.inj e; omega, fun r hr => ?_, ?_⟩
  · rw [(List.mem_replicate.1 hr).2]; exact ans_nil _ _
  · refine List.pairwise_iff_getElem.2 (fun i j hi hj _ y e => ?_)
    rw [List.getElem_replicate] at e
    simp [Er.th, er00, kr0, Rw.v, Value.ownBlock] at e
/-- a thing is stored into a row of them, in a region that draws -/
theorem step_stTh {t : TypeId} {k : Nat} (hinf : (Try.prog.info? t).map (fun i => i.size) = some k) (w : World) {ops : Array Oper} {o : Oper} {a : Act} {K : Act → World → Prop} {Q : Exit → Act → World → Prop} {E : Prop} (hg : o.guard = none) (p x : Operand) (hop : o.op = Op.store t p x)
    (g i n cap off : Nat) (ts : List Th) (e : Th) (hoff : off = i * k) (hp : a.eval p = .pointer (some ⟨g, off, none⟩)) (vs : Array Value) (hx : a.eval x = .agg vs) (hvs : vs = e.cs.toArray) (hes : e.cs.length = k) (he1 : ∀ u, u ∈ e.cs → u.oneCell' = true) (h : w.ownsRow 0 t k (.slice (some ⟨g, 0, none⟩) n cap) n (flT ts)) (hz : SzT k ts) (hl : ts.length = n) (hi : i < n)
    (hK : ∀ w', w'.ownsRow 0 t k (.slice (some ⟨g, 0, none⟩) n cap) n (flT (ts.set i e)) → w.grownBy w' (some g) → K (a.put o.dst undef) w') :
    if Region.wanted o (yielded ops a.tmps) = true then Oper.wp Try.prog o a w K Q else E := by
  subst hvs
  subst hoff
  have hw : Region.wanted o (yielded ops a.tmps) = true := by simp [Region.wanted, hg]
  rw [if_pos hw]
  obtain ⟨k1, k2⟩ := setCells_ownT h hz hl i hi e hes
  have hik : i * k + k ≤ n * k := by rw [← Nat.succ_mul]; exact Nat.mul_le_mul_right k hi
  have hst : (Instr.storeAt t (.pointer (some ⟨g, i * k, none⟩)) (.agg e.cs.toArray)).run Try.prog w = .ok () (w.setCells g (i * k) e.cs) := by
    rcases h.2 with ⟨h1, _⟩ | ⟨g', cap', cur, h1, _, h3, h4, _, h6, _⟩
    · simp at h1
    · simp only [Value.slice.injEq, Option.some.injEq, Addr.mk.injEq] at h1
      obtain ⟨⟨rfl, _⟩, _, rfl⟩ := h1
      have hnk : n * k ≤ cap * k := Nat.mul_le_mul_right k h4
      refine run_stT hinf w g (i * k) e.cs hes he1 (fun j hj => ?_) (fun j hj => frozen_of_row w g _ _ _ h3)
      rw [cell_of_row _ _ _ _ _ _ h3, Array.getElem?_eq_getElem (by omega)]
      rfl
  have hfin := hK _ k1 k2
  unfold Oper.wp
  simp [execOp, hop, hp, hx, hst, Result.andThen, Oper.upon]
  exact hfin
theorem stc_ears (g i : Nat) (p : Option Addr) (l c : Nat) (w : World) (hc : ∃ u, w.cell? ⟨g, i, none⟩ = some u) (hf : w.frozen? ⟨g, i, none⟩ = false) : (Instr.storeAt 41 (.pointer (some ⟨g, i, none⟩)) (.slice p l c)).run Try.prog w = .ok () (w.setCell ⟨g, i, none⟩ (.slice p l c)) := by
  obtain ⟨u, hc⟩ := hc
  simp [go_sem, hc, hf]
theorem hclone_any (a : Option Addr) (n cap : Nat) (D : List Nat) (w : World) (hp : Rd w a n cap D) (hn : n ≤ 140737488355328) :
    Calls Try.prog 49 #[.slice a n cap] w fun e w' => ∃ a' c', e = .returned (.slice a' n c') ∧ Ans w' w.heap.size a' n c' D ∧ w.grownBy w' none := by
  cases a with
  | none =>
    have hc0 : cap = 0 := hp.nil rfl
    have hn0 : n = 0 := by have := hp.le; omega
    subst hc0 hn0
    have e : D = [] := List.eq_nil_of_length_eq_zero hp.len
    subst e
    have heq := fun w => Lib.run_eql_slice_nil (P := Try.prog) w 22 5 none 0 0 0 0 Try.underlying22
    go_enter Try.func49, Try.ntmps49
    go_wp2
    go_ret
    exact ⟨none, 0, rfl, ans_nil _ _, World.grownBy.refl _ _⟩
  | some ad =>
    have gA := World.grownBy_alloc w (.cells #[] 5) none
    have hA := heap_alloc_new w (.cells #[] 5)
    have hown : Ans (w.alloc (.cells #[] 5)) w.heap.size (some ⟨w.heap.size, 0, none⟩) 0 0 [] := ⟨⟨rfl, .inr ⟨w.heap.size, 0, #[], rfl, Nat.zero_le _, hA, Nat.le_refl _, Nat.zero_le _, rfl, rfl⟩⟩, (fun x h => by cases h), fun g h => by have e : w.heap.size = g := Option.some.inj h; omega⟩
    have hpA := hp.keep gA
    have heq := fun w => Lib.run_eql_slice_nil (P := Try.prog) w 22 5 (some ad) n cap 0 0 Try.underlying22
    go_enter Try.func49, Try.ntmps49
    go_wp2_with (at_builtin; refine wpList_joinZ rfl _ _ rfl _ 0 0 w.heap.size [] rfl hown (by simp) _ n cap D rfl hpA (by omega) ?_; intro a' c' w2 hA2 hg2)
    go_ret
    rw [Nat.zero_add] at *
    exact ⟨a', c', rfl, hA2, grown_far gA hg2 (fun x hx => by have e : w.heap.size = x := Option.some.inj hx; omega)⟩

set_option maxHeartbeats 32000000 in
theorem copyListener_any (cr sz ma : Int) (a : Option Addr) (c : Nat) (Es : List Ed) (w : World) (h : RdL w a 7 c Es) (hF : ∀ e, e ∈ Es → e.D.length ≤ 100000) :
    Calls Try.prog 66 #[.agg #[.int .i64 cr, .int .i64 sz, .int .i64 ma, .slice a 7 c]] w fun e w' => ∃ (g' : Nat) (es' : List Er), e = .returned (.agg #[.int .i64 cr, .int .i64 sz, .int .i64 ma, .slice (some ⟨g', 0, none⟩) 7 7]) ∧ OwL w' w.heap.size (some ⟨g', 0, none⟩) 7 7 es' Es ∧ w.grownBy w' none := by
  have hlQ := h.len
  obtain ⟨F, hF1, hF2⟩ := h.ex
  have HF2 : Hid _ := hF2
  clear hF2
  have b0 := BxS.new w 43 #[.int .i64 cr, .int .i64 sz, .int .i64 ma, .slice a 7 c]
  have g0 := World.grownBy_alloc w (.cells #[.int .i64 cr, .int .i64 sz, .int .i64 ma, .slice a 7 c] 43) none
  generalize hw0 : w.alloc (.cells #[.int .i64 cr, .int .i64 sz, .int .i64 ma, .slice a 7 c] 43) = w0 at b0 g0
  have hz0 : w0.heap.size = w.heap.size + 1 := by rw [← hw0]; simp
  have b1 := BxS.new w0 43 #[.int .i64 0, .int .i64 0, .int .i64 0, .slice none 0 0]
  have g1 := World.grownBy_alloc w0 (.cells #[.int .i64 0, .int .i64 0, .int .i64 0, .slice none 0 0] 43) none
  generalize hw1 : w0.alloc (.cells #[.int .i64 0, .int .i64 0, .int .i64 0, .slice none 0 0] 43) = w1 at b1 g1
  rw [hz0] at b1
  have sz1 : w.heap.size + 2 ≤ w1.heap.size := by rw [← hw1]; simp [hz0]
  have p0 := b0.keep g1 (by simp)
  have G1 := grown_trans g0 g1
  obtain ⟨i0, hi, hq0, hq1, hq2⟩ := info_parts Try.info_ea3
  have i4 := Try.info_li
  have i2 := Try.info_ea2
  obtain ⟨ba, oa, rfl, hba, _⟩ := hF1.at' (by decide)
  obtain ⟨x0, x1, x2, x3⟩ := BxS.cell4 p0
  go_enter Try.func66, Try.ntmps66
  refine wp_seq_k fun K0 hK0 => ?_
  have HK0 : Hid _ := hK0
  clear hK0
  go_wp2
  refine HK0.out _ _ ?_
  clear HK0
  refine wp_seq_k fun K1 hK1 => ?_
  have HK1 : Hid _ := hK1
  clear hK1
  go_wp2_with (at_make; refine wpList_make_full _ rfl _ _ 41 rfl w1.heap.size 68 i0 _ 2 Try.underlying41 hi hq0 hq1 .i64 .i64 7 7 7 rfl rfl rfl rfl (by rw [hq2]; omega) (by decide) (Nat.le_refl _) ?_; intro w2 hown g2)
  rw [made_ef] at hown
  have hO2 := OwT.zerosE (lo := w1.heap.size) (own_baseG hown) (Nat.le_refl _)
  have z2 := g2.size
  have p02 := p0.keep g2 (by simp)
  have b12 := b1.keep g2 (by simp)
  have hgl := (hO2.hi (x := w1.heap.size) (.inl rfl)).1
  clear hown x0 x1 x2 x3
  obtain ⟨x0, x1, x2, x3⟩ := BxS.cell4 p02
  refine HK1.out _ _ ?_
  clear HK1
  refine wp_seq_k fun K2 hK2 => ?_
  have HK2 : Hid _ := hK2
  clear hK2
  go_wp2
  go_loopw [13] (fun iv wr => ∃ (k : Nat) (es : List Er), iv = .int .i64 k ∧ k ≤ 7 ∧ OwT 68 2 wr w1.heap.size (some ⟨w1.heap.size, 0, none⟩) 7 7 (es.map Er.th) ∧ es.length = 7 ∧ (∀ i, i < k → (es.getD i er00).d = Es.getD i ed0) ∧ w1.grownBy wr none) (fun iv _ => 7 - (intOf iv).toNat)
  case atStart => exact ⟨0, _, by go_num, Nat.zero_le _, hO2, rfl, (fun i h => absurd h (by omega)), g2⟩
  case round =>
    obtain ⟨k, es, rfl, hk, hO, hle, hd, hgr⟩ := hrel
    have HD : Hid _ := hd
    clear hd
    have Gr := grown_trans G1 hgr
    have zr := hgr.size
    have hgw := (hO.hi (x := w1.heap.size) (.inl rfl)).1
    by_cases hlk : k < 7
    · have l1 : (k : Int) < 7 := by omega
      have h2 := hF1.keep Gr
      obtain ⟨_, _, ee, _, ca⟩ := h2.at' (by decide)
      cases ee
      obtain ⟨y0, y1⟩ := ca k hlk
      have hrk := h2.data k hlk
      obtain ⟨e1, e2⟩ := HF2.out k hlk
      have hm : Es.getD k ed0 ∈ Es := by rw [List.getD_eq_getElem?_getD, List.getElem?_eq_getElem (by omega)]; exact List.getElem_mem _
      have f1 := hF _ hm
      rw [← e2, hrk.len] at f1
      have HED : Hid (Es.getD k ed0 = ⟨(F k).x, (F k).r.D⟩) := by show _ = _; rw [e1, e2]
      clear ca h2 e1 e2
      generalize (F k).x = x at *
      generalize (F k).r.a = ra at *
      generalize (F k).r.n = rn at *
      generalize (F k).r.c = rc at *
      generalize (F k).r.D = RD at *
      refine wp_seq_k fun K5 hK5 => ?_
      have HK5 : Hid _ := hK5
      clear hK5
      go_wp2
      refine HK5.out _ _ ?_
      clear HK5
      refine wp_seq_k fun K6 hK6 => ?_
      have HK6 : Hid _ := hK6
      clear hK6
      go_wp2
      refine HK6.out _ _ ?_
      clear HK6
      refine wp_seq_k fun K7 hK7 => ?_
      have HK7 : Hid _ := hK7
      clear hK7
      refine wp_block ?_
      refine wp_seq_k fun K8 hK8 => ?_
      have HK8 : Hid _ := hK8
      clear hK8
      have bn := BxS.new wr 68 #[.int .i64 0, .slice none 0 0]
      have gn := World.grownBy_alloc wr (.cells #[.int .i64 0, .slice none 0 0] 68) none
      have s0 : True := trivial
      go_wp2_with (have _t := s0; clear s0; refine wpList_stX _ rfl _ (.tmp 5) (.tmp 17) rfl wr.heap.size _ _ rfl rfl bn i2 rfl (by simp [Value.oneCell']) ?_; intro w4 b4 u4)
      have Y4 := grown_far gn u4 (fun q e => by have e := Option.some.inj e; omega)
      refine HK8.out _ _ ?_
      clear HK8
      have hO4 := hO.keep Y4
      have hr4 := hrk.keep Y4
      clear y0 y1 hrk hO u4 gn bn
      have hz4 := Y4.size
      have b4d := b4.keep (grown_drew w4 none) (by simp)
      have hO4d := hO4.keep (grown_drew w4 none)
      have hr4d := hr4.keep (grown_drew w4 none)
      have Gd := grown_trans (grown_trans hgr Y4) (grown_drew w4 none)
      obtain ⟨g5, hg5⟩ : ∃ g5, wr.heap.size = g5 := ⟨_, rfl⟩
      rw [hg5] at b4d ⊢
      refine wp_regionL (fun wz => BxS wz g5 68 #[.int .i64 x, .slice ra rn rc]) [] #[false, false, false, false, false, false, false, false, false, false] rfl (by kernel_rfl) ?_
      refine wpAnyZ_take [] 0 (.slice (some ⟨w1.heap.size, 0, none⟩) 7 7) rfl (by kernel_rfl) (fun _ _ _ h => h) b4d rfl (by intro wz hz; go_simp) ?_
      try simp only [List.getElem_toArray, List.getElem_cons_succ, List.getElem_cons_zero, Act.put, List.setIfInBounds_toArray, List.set_cons_zero, List.set_cons_succ]
      refine wpAnyZ_take [] 1 (.int .i64 (k : Int)) rfl (by kernel_rfl) (fun _ _ _ h => h) b4d rfl (by intro wz hz; go_simp) ?_
      try simp only [List.getElem_toArray, List.getElem_cons_succ, List.getElem_cons_zero, Act.put, List.setIfInBounds_toArray, List.set_cons_zero, List.set_cons_succ]
      refine wpAnyZ_take [] 2 (.pointer (some ⟨g5, 0, none⟩)) rfl (by kernel_rfl) (fun _ _ _ h => h) b4d rfl (by intro wz hz; go_simp) ?_
      try simp only [List.getElem_toArray, List.getElem_cons_succ, List.getElem_cons_zero, Act.put, List.setIfInBounds_toArray, List.set_cons_zero, List.set_cons_succ]
      refine wpAnyZ_take [] 3 (.int .i64 x) rfl (by kernel_rfl) (fun _ _ _ h => h) b4d rfl (by intro wz hz; have q0 := hz.cell 0 (by show 0 < 2; decide); go_simp) ?_
      try simp only [List.getElem_toArray, List.getElem_cons_succ, List.getElem_cons_zero, Act.put, List.setIfInBounds_toArray, List.set_cons_zero, List.set_cons_succ]
      refine wpAnyZ_take [] 4 (.pointer (some ⟨g5, 1, none⟩)) rfl (by kernel_rfl) (fun _ _ _ h => h) b4d rfl (by intro wz hz; go_simp) ?_
      try simp only [List.getElem_toArray, List.getElem_cons_succ, List.getElem_cons_zero, Act.put, List.setIfInBounds_toArray, List.set_cons_zero, List.set_cons_succ]
      refine wpAnyZ_take [] 5 (.slice ra rn rc) rfl (by kernel_rfl) (fun _ _ _ h => h) b4d rfl (by intro wz hz; have q1 := hz.cell 1 (by show 1 < 2; decide); go_simp) ?_
      try simp only [List.getElem_toArray, List.getElem_cons_succ, List.getElem_cons_zero, Act.put, List.setIfInBounds_toArray, List.set_cons_zero, List.set_cons_succ]
      generalize w4.drew = w5 at *
      refine wpAnyZ_oneB 6 rfl (by kernel_rfl) (fun KK hKK => ?_)
      go_simp
      go_at_call 49
      refine (hclone_any ra rn rc RD w5 hr4d (by omega)).mono ?_
      rintro e w6 ⟨na, nc, rfl, hA6, g6⟩
      dsimp only
      have b6 := b4d.keep g6 (by simp)
      refine hKK _ _ (fun _ => b6) ?_
      try simp only [List.getElem_toArray, List.getElem_cons_succ, List.getElem_cons_zero, Act.put, List.setIfInBounds_toArray, List.set_cons_zero, List.set_cons_succ]
      refine wpAnyZ_take [] 7 (.agg #[.int .i64 x, .slice na rn nc]) rfl (by kernel_rfl) (fun _ _ _ h => h) b6 rfl (by intro wz hz; go_simp) ?_
      try simp only [List.getElem_toArray, List.getElem_cons_succ, List.getElem_cons_zero, Act.put, List.setIfInBounds_toArray, List.set_cons_zero, List.set_cons_succ]
      refine wpAnyZ_take [] 8 (.pointer (some ⟨w1.heap.size, k * 2, none⟩)) rfl (by kernel_rfl) (fun _ _ _ h => h) b6 rfl (by intro wz hz; go_simp) ?_
      try simp only [List.getElem_toArray, List.getElem_cons_succ, List.getElem_cons_zero, Act.put, List.setIfInBounds_toArray, List.set_cons_zero, List.set_cons_succ]
      have hO6 := hO4d.keep g6
      refine wpAnyZ_oneB 9 rfl (by kernel_rfl) (fun KK hKK => ?_)
      refine step_stTh i2 _ rfl _ _ rfl w1.heap.size k 7 7 _ (es.map Er.th) (Er.th ⟨x, ⟨na, rn, nc, RD⟩⟩) rfl rfl _ rfl rfl rfl (by intro u hu; simp only [Er.th, List.mem_cons, List.not_mem_nil, or_false] at hu; rcases hu with rfl | rfl <;> rfl) hO6.own hO6.sz hO6.len hlk ?_
      intro w7 ho7 u7
      have hlow5 : w1.heap.size ≤ w5.heap.size := by have := Gd.size; omega
      have hO7 := hO6.set (x' := Er.th ⟨x, ⟨na, rn, nc, RD⟩⟩) (by decide) ho7 u7 rfl (hA6.wide hlow5) (fun j y hj hy b e => (hO4d.each y (List.mem_of_getElem? hy)).later2 hA6 (Nat.le_refl _) b e)
      have b7 := b6.keep u7 (fun e => by have e := Option.some.inj e; omega)
      refine hKK _ _ (fun _ => b7) ?_
      try simp only [List.getElem_toArray, List.getElem_cons_succ, List.getElem_cons_zero, Act.put, List.setIfInBounds_toArray, List.set_cons_zero, List.set_cons_succ]
      refine wpAnyZ_doneB (by kernel_rfl) ?_ _
      simp only [Exit.inBlock, Exit.then]
      refine HK7.out _ _ ?_
      clear HK7
      have hwk : IntKind.i64.wrap ((k : Int) + 1) = (k : Int) + 1 := wrap_i64_in _ (by omega) (by omega)
      go_wp2
      go_roundw
      case rel =>
        refine ⟨k + 1, es.set k ⟨x, ⟨na, rn, nc, RD⟩⟩, by go_num, by omega, ?_, by rw [List.length_set]; exact hle, fun i hi => ?_, grown_far (grown_trans Gd g6) u7 (fun q e => by have e := Option.some.inj e; omega)⟩
        · rw [List.map_set]; exact hO7
        · by_cases e : i < k
          · rw [List.getD_eq_getElem?_getD, List.getElem?_set_ne (by omega), ← List.getD_eq_getElem?_getD]; exact HD.out i e
          · obtain rfl : i = k := by omega
            rw [List.getD_eq_getElem?_getD, List.getElem?_set_self (by omega)]; exact HED.out.symm
      case measure => simp [intOf]; omega
    · obtain rfl : k = 7 := by omega
      have l1 : ¬ ((7 : Nat) : Int) < 7 := by omega
      have p0r := p0.keep hgr (by simp)
      have b1r := b1.keep hgr (by simp)
      have hdat : es.map Er.d = Es := by
        apply List.ext_getElem (by rw [List.length_map]; omega)
        intro i h1 h2
        have := HD.out i (by omega)
        rw [List.getElem_map]
        rw [List.getD_eq_getElem?_getD, List.getElem?_eq_getElem (by omega), List.getD_eq_getElem?_getD, List.getElem?_eq_getElem (by omega)] at this
        exact this
      go_wp2
      refine HK2.out _ _ ?_
      clear HK2
      have s0 : True := trivial
      refine wp_seq_k fun K3 hK3 => ?_
      have HK3 : Hid _ := hK3
      clear hK3
      go_wp2_with (have _t := s0; clear s0; refine wpList_stC _ rfl _ _ _ rfl w.heap.size 3 43 _ #[.int .i64 cr, .int .i64 sz, .int .i64 ma, .slice (some ⟨w1.heap.size, 0, none⟩) 7 7] (.slice (some ⟨w1.heap.size, 0, none⟩) 7 7) rfl rfl p0r (stc_ears _ _ _ _ _) (by show 3 < 4; decide) rfl ?_; intro w6 b6 u6)
      have b16 := b1r.keep u6 (fun e => by have e := Option.some.inj e; omega)
      have hO6 := hO.far u6 (by omega)
      refine HK3.out _ _ ?_
      clear HK3
      refine wp_seq_k fun K4 hK4 => ?_
      have HK4 : Hid _ := hK4
      clear hK4
      have s0 : True := trivial
      go_wp2_with (first
        | (have _t := s0; clear s0; refine wpList_ldX _ rfl _ (.tmp 1) rfl w.heap.size _ rfl b6 Try.underlying43 i4 ?_; have s1 : True := trivial)
        | (have _t := s1; clear s1; refine wpList_stX _ rfl _ (.tmp 2) (.tmp 30) rfl (w.heap.size + 1) _ _ rfl rfl b16 i4 rfl (by simp [Value.oneCell']) ?_; intro w7 b7 u7))
      refine HK4.out _ _ ?_
      clear HK4
      refine wp_ret ?_
      refine bodyPost_ret (kres1 rfl _ _ _ ⟨w.heap.size + 1, 0, none⟩ _ rfl (BxS.load (t := 43) b7 Try.underlying43 i4)) rfl ?_
      exact ⟨_, es, rfl, ⟨(hO6.far u7 (by omega)).wide (by omega), hdat⟩, grown_far (grown_far (grown_trans G1 hgr) u6 (fun q e => by have e := Option.some.inj e; omega)) u7 (fun q e => by have e := Option.some.inj e; omega)⟩

/-- where packets begin, one behind the other; what is left behind them -/
def spS : Nat → List Nat → List (List Nat)
  | 0, _ => []
  | f + 1, B => if dcE B = 0 then B :: spS f (B.drop (dcK B)) else []
def spR : Nat → List Nat → List Nat
  | 0, B => B
  | f + 1, B => if dcE B = 0 then spR f (B.drop (dcK B)) else B
theorem dc_k {B : List Nat} (h : dcE B = 0) : 7 ≤ dcK B ∧ dcK B ≤ B.length := by
  unfold dcK
  rw [if_pos h]
  unfold dcE at h
  split at h
  · cases h
  · split at h
    · cases h
    · split at h
      · cases h
      · omega
theorem sp_end {B : List Nat} (h : dcE B ≠ 0) (f : Nat) : spS f B = [] ∧ spR f B = B := by
  cases f with
  | zero => exact ⟨rfl, rfl⟩
  | succ f => exact ⟨if_neg h, if_neg h⟩
theorem sp_go {B : List Nat} (h : dcE B = 0) (f : Nat) (hf : B.length ≤ f) : ∃ f', (B.drop (dcK B)).length ≤ f' ∧ spS f B = B :: spS f' (B.drop (dcK B)) ∧ spR f B = spR f' (B.drop (dcK B)) := by
  obtain ⟨h1, h2⟩ := dc_k h
  cases f with
  | zero => omega
  | succ f => exact ⟨f, by rw [List.length_drop]; omega, if_pos h, if_pos h⟩
/-- a packet as data -/
structure Pd where
  up : Bool
  se : Bool
  ap : Int
  pt : Int
  ct : Int
  D : List Nat
def pdB (B : List Nat) : Pd := ⟨dcU B, dcS B, (dcA B : Nat), (dcP B : Nat), (dcC B : Nat), dcD B⟩
def Pk.d (p : Pk) : Pd := ⟨p.up, p.se, p.ap, p.pt, p.ct, p.D⟩
def Pk.rw (p : Pk) : Rw := ⟨p.a, p.n, p.c, p.D⟩
def Pk.th (p : Pk) : Th := ⟨p.cells, p.rw⟩
/-- what is left behind a packet -/
theorem Rd.behind {w : World} {b off n cap k : Nat} {L : List Nat} (h : Rd w (some ⟨b, off, none⟩) n cap L) (hk : k ≤ n) : Rd w (some ⟨b, if cap = k then off else off + k, none⟩) (n - k) (cap - k) (L.drop k) := by
  have h1 := h.le
  have hl := h.len
  by_cases e : cap = k
  · rw [if_pos e]
    refine ⟨by rw [List.length_drop, hl], by omega, by have := h.max; omega, (fun e => by cases e), isB_drop h.byte k, fun h0 => by omega⟩
  · rw [if_neg e]
    have := h.part k (n - k) (by omega)
    rwa [List.take_of_length_le (by rw [List.length_drop, hl]; omega)] at this
def slM : Value → Nat
  | .slice _ n _ => n
  | _ => 0
/-- 'append([]byte(nil), make([]byte, k)...)' -/
theorem wpList_apN (w : World) {ops : Array Oper} {rest : List Oper} {o : Oper} {a : Act} {Q : Exit → Act → World → Prop} (hg : o.guard = none) (s x : Operand)
    (hop : o.op = Op.call { callee := .builtin .append, args := #[s, x], argTypes := #[22, 3] }) (k : Nat) (hs : a.eval s = .slice none 0 0) (hx : a.eval x = .int .i64 (k : Int))
    (hk : 0 < k) (hb : k ≤ 140737488355328)
    (hK : ∀ cap w', k ≤ cap → w.grownBy w' none → w'.ownsRow 0 5 1 (.slice (some ⟨w.heap.size, 0, none⟩) 0 cap) 0 (bys []) →
      wpList Try.prog ops Q rest (a.put o.dst (.slice (some ⟨w.heap.size, 0, none⟩) k cap)) w') :
    wpList Try.prog ops Q (o :: rest) a w := by
  obtain ⟨i0, hi, hz, hsz, hby⟩ := info_parts Try.info_u8
  have hr := Lib.run_append_nil_zeros (P := Try.prog) w 22 3 o.type 5 i0 (.int .u8 0) .i64 .i64 Try.underlying22 Try.underlying3 hi hz k hk (by omega) (by omega) (by rw [hby]; omega)
  have hge := grownCap_ge w k 0 5
  refine Lib.wpList_append_run w hg s x 22 3 hop _ _ hs hx _ _ hr (hK _ _ hge ⟨rfl, rfl, rfl, by simp, fun j hj _ => (World.grownBy_alloc w.drew _ none).block j hj (by simp)⟩ ⟨rfl, .inr ⟨w.heap.size, _, _, rfl, Nat.zero_le _, heap_alloc_new w.drew _, Nat.zero_le _, grownCap_le_maxLen w k 0 5 (by unfold maxLen; omega), ?_, rfl⟩⟩)
  simp only [Array.size_append, size_zeroCells]
  show k * 1 + _ * 1 = _
  omega
set_option maxHeartbeats 2000000 in
theorem grow_nil (k : Nat) (w : World) (hk : 0 < k) (hb : k ≤ 140737488355328) :
    Calls Try.prog 93 #[.slice none 0 0, .int .i64 (k : Int)] w fun e w' => ∃ g cap, e = .returned (.slice (some ⟨g, 0, none⟩) 0 cap) ∧ Ans w' w.heap.size (some ⟨g, 0, none⟩) 0 cap [] ∧ w.grownBy w' none := by
  have d1 : decide ((k : Int) < 0) = false := decide_eq_false (by omega)
  have d2 : decide ((0 : Int) < (k : Int)) = true := decide_eq_true (by omega)
  go_enter Try.func93, Try.ntmps93
  go_wp2_with (at_builtin; refine wpList_apN _ rfl _ _ rfl k rfl rfl hk hb ?_; intro cap w1 hc g1 ho)
  go_ret
  exact ⟨_, _, rfl, ⟨ho, (fun x hx => by cases hx), fun g hg => by have e : w.heap.size = g := Option.some.inj hg; omega⟩, g1⟩

theorem grow_int (kz : Int) (k : Nat) (w : World) (ek : kz = k) (hk : 0 < k) (hb : k ≤ 140737488355328) :
    Calls Try.prog 93 #[.slice none 0 0, .int .i64 kz] w fun e w' => ∃ g cap, e = .returned (.slice (some ⟨g, 0, none⟩) 0 cap) ∧ Ans w' w.heap.size (some ⟨g, 0, none⟩) 0 cap [] ∧ w.grownBy w' none := by
  subst ek; exact grow_nil k w hk hb
set_option maxHeartbeats 4000000 in
theorem concatZ_any (a b : Option Addr) (n m c d g0 : Nat) (U D : List Nat) (w : World) (hg : BxS w g0 22 #[.slice a n c, .slice b m d]) (hU : Rd w a n c U) (hD : Rd w b m d D) (h0 : 0 < n) (hn : n + m ≤ 140737488355328) :
    Calls Try.prog 90 #[.slice (some ⟨g0, 0, none⟩) 2 2] w fun e w' => ∃ a' cap, e = .returned (.slice a' (n + m) cap) ∧ Ans w' w.heap.size a' (n + m) cap (U ++ D) ∧ w.grownBy w' none := by
  have k0 : w.cell? ⟨g0, 0, none⟩ = some (.slice a n c) := hg.cell 0 (by show 0 < 2; decide)
  have k1 : w.cell? ⟨g0, 1, none⟩ = some (.slice b m d) := hg.cell 1 (by show 1 < 2; decide)
  have d0 : decide ((n : Int) < 0) = false := decide_eq_false (by omega)
  have d1 : decide ((n : Int) + (m : Int) < 0) = false := decide_eq_false (by omega)
  have e1 : ∀ w', w.grownBy w' none → w'.cell? ⟨g0, 0, none⟩ = some (.slice a n c) ∧ w'.cell? ⟨g0, 1, none⟩ = some (.slice b m d) := fun w' h => ⟨(hg.keep h (by simp)).cell 0 (by show 0 < 2; decide), (hg.keep h (by simp)).cell 1 (by show 1 < 2; decide)⟩
  have t1 : True := trivial
  go_enter Try.func90, Try.ntmps90
  go_wp2
  refine wp_loop_rounds 3 ?_
  rw [rounds_succ]
  go_wp2
  rw [rounds_succ]
  go_wp2
  rw [rounds_succ]
  have hnm : ((n : Int) + (m : Int)) = ((n + m : Nat) : Int) := by omega
  have HNM : Hid (_ = _) := hnm
  clear hnm
  go_wp2_with (first
    | (go_at_call 93; refine (grow_int _ (n + m) w HNM.out (by omega) hn).mono ?_; rintro e w1 ⟨g1, c1, rfl, hA1, G1⟩; obtain ⟨q0, q1⟩ := e1 w1 G1; have hU1 := hU.keep G1))
  refine wp_loop_rounds 3 ?_
  rw [rounds_succ]
  go_wp2_with (first
    | (at_builtin; have _t := t1; refine wpList_joinZ rfl _ _ rfl (some ⟨g1, 0, none⟩) 0 c1 w.heap.size [] rfl hA1 G1.size a n c U rfl hU1 (by omega) ?_; clear t1; intro a2 c2 w2 hA2 u2; rw [Nat.zero_add, List.nil_append] at hA2; have G2 := grown_far G1 u2 (fun q e => hA1.new q e); obtain ⟨r0, r1⟩ := e1 w2 G2; have hD2 := hD.keep G2; have t2 : True := trivial; rw [Nat.zero_add]))
  rw [rounds_succ]
  go_wp2_with (first
    | (at_builtin; have _t := t2; refine wpList_joinZ rfl _ _ rfl a2 n c2 w.heap.size U rfl hA2 G2.size b m d D rfl hD2 (by omega) ?_; clear t2; intro a3 c3 w3 hA3 u3))
  rw [rounds_succ]
  go_wp2
  go_ret
  exact ⟨a3, c3, rfl, hA3, grown_far G2 u3 (fun q e => hA2.new q e)⟩

set_option maxHeartbeats 32000000 in
theorem split_any (a : Option Addr) (n cap : Nat) (B : List Nat) (w : World) (hR : Rd w a n cap B) (hn : n ≤ 100000) :
    Calls Try.prog 81 #[.slice a n cap] w fun e w' => ∃ (pa : Option Addr) (pn pc : Nat) (ps : List Pk) (la : Option Addr) (ln lc : Nat), e = .returned (.tuple #[.slice pa pn pc, .slice la ln lc, .int .i64 ((dcE (spR B.length B) : Nat) : Int)]) ∧ OwT 64 6 w' w.heap.size pa pn pc (ps.map Pk.th) ∧ ps.map Pk.d = (spS B.length B).map pdB ∧ Rd w' la ln lc (spR B.length B) ∧ (∀ P : Nat → Prop, (0 < n → ∀ g off, a = some ⟨g, off, none⟩ → P g) → 0 < ln → ∀ g off, la = some ⟨g, off, none⟩ → P g) ∧ w.grownBy w' none := by
  have i6 := Try.info_pk
  go_enter Try.func81, Try.ntmps81
  refine wp_seq_k fun K0 hK0 => ?_
  have HK0 : Hid _ := hK0
  clear hK0
  go_wp2
  refine HK0.out _ _ ?_
  clear HK0
  go_wp2
  go_loopw [0, 2] (fun bv pv wr => ∃ (f : Nat) (a' : Option Addr) (n' c' : Nat) (B' : List Nat) (pa : Option Addr) (pn pc : Nat) (ps : List Pk) (DL : List (List Nat)), bv = .slice a' n' c' ∧ pv = .slice pa pn pc ∧ Rd wr a' n' c' B' ∧ (∀ P : Nat → Prop, (0 < n → ∀ g off, a = some ⟨g, off, none⟩ → P g) → 0 < n' → ∀ g off, a' = some ⟨g, off, none⟩ → P g) ∧ B'.length ≤ f ∧ pn + n' ≤ n ∧ Hid (spS B.length B = DL ++ spS f B') ∧ Hid (spR B.length B = spR f B') ∧ OwT 64 6 wr w.heap.size pa pn pc (ps.map Pk.th) ∧ Hid (ps.map Pk.d = DL.map pdB) ∧ w.grownBy wr none) (fun bv _ _ => slM bv)
  case atStart => exact ⟨B.length, a, n, cap, B, none, 0, 0, [], [], rfl, rfl, hR, (fun P h => h), Nat.le_refl _, by omega, show _ = _ from rfl, show _ = _ from rfl, OwT.nil _ _ _ _, show _ = _ from rfl, World.grownBy.refl _ _⟩
  case round =>
    obtain ⟨f, a', n', c', B', pa, pn, pc, ps, DL, rfl, rfl, hr, hPl, hf, hpn, HS, HR, hO, HD, hgr⟩ := hrel
    have hl := hr.len
    have hbl := hPl (fun g => g < w.heap.size) (fun h0 g off e => by obtain ⟨b, o, e2, hb, _⟩ := hR.at' h0; rw [e] at e2; cases e2; exact hb)
    refine wp_block ?_
    obtain ⟨E, hE⟩ : ∃ E, dcE B' = E := ⟨_, rfl⟩
    have HE : Hid (dcE B' = E) := hE
    have kD := decode_any a' n' c' B' wr hr
    rw [hE] at kD
    clear hE
    refine wp_seq_k fun K1 hK1 => ?_
    have HK1 : Hid _ := hK1
    clear hK1
    have s0 : True := trivial
    go_wp2_with (first
      | (go_at_call 75; have _t := s0; clear s0; refine kD.mono ?_; rintro e w1 ⟨da, dn, dc, rfl, hA1, g1⟩; unfold pkV; have bn := BxS.new w1 64 #[.bool false, .bool false, .int .i64 0, .int .i64 0, .int .i64 0, .slice none 0 0]; have gn := World.grownBy_alloc w1 (.cells #[.bool false, .bool false, .int .i64 0, .int .i64 0, .int .i64 0, .slice none 0 0] 64) none; generalize hw2 : w1.alloc (.cells #[.bool false, .bool false, .int .i64 0, .int .i64 0, .int .i64 0, .slice none 0 0] 64) = w2 at bn gn; have s1 : True := trivial)
      | (have _t := s1; clear s1; refine wpList_stX _ rfl _ (.tmp 5) (.tmp 11) rfl w1.heap.size _ _ rfl rfl bn i6 rfl (by simp [Value.oneCell']) ?_; intro w3 b3 u3))
    have l1 : w1.heap.size < w3.heap.size := b3.lt
    have hne : (Value.slice da dn dc).ownBlock = none ∨ (Value.slice da dn dc).ownBlock ≠ some w1.heap.size := by
      cases e : (Value.slice da dn dc).ownBlock with
      | none => exact .inl rfl
      | some y => exact .inr (fun e2 => by have := hA1.ltB e; have e2 := Option.some.inj e2; omega)
    have hA3 := (hA1.keep gn).kept u3 hne
    have Y3 := grown_far (grown_trans g1 gn) u3 (fun q e => by have e := Option.some.inj e; have := g1.size; omega)
    have G3 := grown_trans hgr Y3
    have hO3 := hO.keep Y3
    have hr3 := hr.keep Y3
    have z3 := hgr.size
    clear hw2 bn gn u3 hne
    refine HK1.out _ _ ?_
    clear HK1
    by_cases h0 : E = 0
    · subst h0
      have h0 := HE.out
      obtain ⟨q1, q2⟩ := dc_k h0
      have hlen := hA3.len
      obtain ⟨f', f1, f2, f3⟩ := sp_go h0 f hf
      obtain ⟨bb, ob, rfl, hbb, _⟩ := hr3.at' (by omega)
      have hbe := hr3.behind (k := dcK B') (by omega)
      have HP : Hid (Pk.d ⟨dcU B', dcS B', (dcA B' : Nat), (dcP B' : Nat), (dcC B' : Nat), da, dn, dc, dcD B'⟩ = pdB B') := rfl
      have HF2 : Hid _ := f2
      have HF3 : Hid _ := f3
      clear f2 f3 h0 kD
      generalize hK : dcK B' = K at *
      clear hK
      refine wp_seq_k fun K2 hK2 => ?_
      have HK2 : Hid _ := hK2
      clear hK2
      go_wp2
      refine HK2.out _ _ ?_
      clear HK2
      refine wp_seq_k fun K3 hK3 => ?_
      have HK3 : Hid _ := hK3
      clear hK3
      have s0 : True := trivial
      go_wp2_with (first
        | (have _t := s0; clear s0; refine wpList_ldX _ rfl _ (.tmp 5) rfl w1.heap.size _ rfl b3 Try.underlying64 i6 ?_; have s1 : True := trivial)
        | (at_builtin; have _t := s1; clear s1; refine wpList_psT 107 64 6 56 _ Try.underlying107 Try.info_pk3 rfl (by decide) (by decide) w3 w.heap.size (Pk.th ⟨dcU B', dcS B', (dcA B' : Nat), (dcP B' : Nat), (dcC B' : Nat), da, dn, dc, dcD B'⟩) rfl _ _ rfl pa pn pc (ps.map Pk.th) rfl hO3 (by have := G3.size; omega) rfl (by omega) (by unfold maxLen; omega) _ rfl rfl (by intro u hu; simp only [Pk.th, Pk.cells, List.mem_cons, List.not_mem_nil, or_false] at hu; rcases hu with rfl | rfl | rfl | rfl | rfl | rfl <;> rfl) (hA3.wide z3) (fun y hy b e => (hO.each y hy).later2 hA3 (Nat.le_refl _) b e) ?_; intro gx cx w4 hO4 u4 hor))
      have hnb : some bb ≠ (Value.slice pa pn pc).ownBlock := fun e => by
        have h1 := hO.new bb e.symm
        have h2 := hbl (by omega) bb ob rfl
        omega
      have G4 := grown_far G3 u4 (fun q e => hO.new q e)
      have hbe4 := hbe.grown u4 (fun g off e => by cases e; exact hnb)
      refine HK3.out _ _ ?_
      clear HK3
      have hk1 : (K : Int) ≤ (n' : Int) := by omega
      have hc1 := hr3.le
      have hc2 : (K : Int) ≤ (c' : Int) := by omega
      have tk : ((K : Int)).toNat = K := Int.toNat_natCast K
      by_cases hcK : c' = K
      · have hcK' : Hid (c' = K) := hcK
        rw [if_pos hcK] at hbe4
        clear hcK'
        subst hcK
        rw [show n' - c' = 0 by omega, Nat.sub_self] at hbe4
        go_wp2
        refine ⟨⟨f', _, _, _, _, _, _, _, ps ++ [⟨dcU B', dcS B', (dcA B' : Nat), (dcP B' : Nat), (dcC B' : Nat), da, dn, dc, dcD B'⟩], DL ++ [B'], rfl, rfl, hbe4, (fun P hP _ g off e => by cases e; exact hPl P hP (by omega) bb ob rfl), f1, by omega, ?_, ?_, ?_, ?_, G4⟩, ?_⟩
        · show _ = _; rw [HS.out, HF2.out, List.append_assoc]; rfl
        · show _ = _; rw [HR.out, HF3.out]
        · rw [List.map_append]; exact hO4
        · show _ = _; rw [List.map_append, List.map_append, HD.out]; rfl
        · show 0 < n'; omega
      · rw [if_neg hcK] at hbe4
        go_wp2
        refine ⟨⟨f', _, _, _, _, _, _, _, ps ++ [⟨dcU B', dcS B', (dcA B' : Nat), (dcP B' : Nat), (dcC B' : Nat), da, dn, dc, dcD B'⟩], DL ++ [B'], rfl, rfl, hbe4, (fun P hP _ g off e => by cases e; exact hPl P hP (by omega) bb ob rfl), f1, by omega, ?_, ?_, ?_, ?_, G4⟩, ?_⟩
        · show _ = _; rw [HS.out, HF2.out, List.append_assoc]; rfl
        · show _ = _; rw [HR.out, HF3.out]
        · rw [List.map_append]; exact hO4
        · show _ = _; rw [List.map_append, List.map_append, HD.out]; rfl
        · show n' - _ < n'; omega
    · have hne : (((E : Int) != 0) : Bool) = true := by simp; omega
      obtain ⟨s1, s2⟩ := sp_end (by rw [HE.out]; exact h0) f
      have hS := HS.out
      have hRr := HR.out
      rw [s1, List.append_nil] at hS
      rw [s2] at hRr
      have HS2 : Hid _ := hS
      have HR2 : Hid _ := hRr
      clear s1 s2 hS hRr HS HR
      go_wp2
      go_ret3
      refine ⟨pa, pn, pc, ps, a', n', c', ?_, hO3, ?_, ?_, hPl, G3⟩
      · rw [HR2.out, HE.out]; rfl
      · rw [HS2.out]; exact HD.out
      · rw [HR2.out]; exact hr3

/-- are these whole packets? -/
def whB (B : List Nat) : Bool := decide ((spR B.length B).length = 0)
set_option maxHeartbeats 4000000 in
theorem isRow_any (a : Option Addr) (n cap : Nat) (B : List Nat) (w : World) (hR : Rd w a n cap B) (hn : n ≤ 100000) :
    Calls Try.prog 91 #[.slice a n cap] w fun e w' => e = .returned (.bool (whB B)) ∧ w.grownBy w' none := by
  have hS := split_any a n cap B w hR hn
  have s0 : True := trivial
  go_enter Try.func91, Try.ntmps91
  go_wp2_with (go_at_call 81; have _t := s0; clear s0; refine hS.mono ?_; rintro e w1 ⟨pa, pn, pc, ps, la, ln, lc, rfl, _, _, hr, _, g1⟩)
  go_ret
  refine ⟨?_, g1⟩
  show Ending.returned (.bool ((ln : Int) == 0)) = _
  unfold whB
  rw [hr.len]
  have : ((ln : Int) == 0) = decide (ln = 0) := by
    by_cases h : ln = 0
    · subst h; rfl
    · rw [decide_eq_false h]
      have : ¬ ((ln : Int) = 0) := by omega
      simpa using this
  rw [this]
/-- in which bytes packets are looked for -/
def goL (R D : List Nat) (f : Nat) : List Nat := if f = 2047 then (if R.length = 0 then [] else R ++ D) else if D.length ≤ f then [] else if 0 < R.length ∧ whB (R ++ D.take f) = true then R ++ D else D.drop f

set_option maxHeartbeats 16000000 in
theorem goThrough_any (a b : Option Addr) (n m c d f : Nat) (R D : List Nat) (w : World) (hR : Rd w a n c R) (hD : Rd w b m d D) (hn : n ≤ 65541) (hm : 1 ≤ m ∧ m ≤ 2036) (hf : f ≤ 2047) :
    Calls Try.prog 82 #[.slice a n c, .slice b m d, .int .i64 (f : Int)] w fun e w' => ∃ (a' : Option Addr) (n' c' : Nat), e = .returned (.slice a' n' c') ∧ Rd w' a' n' c' (goL R D f) ∧ (0 < n' → ∀ g off, a' = some ⟨g, off, none⟩ → w.heap.size ≤ g ∨ ∃ o, b = some ⟨g, o, none⟩) ∧ w.grownBy w' none := by
  have hlR := hR.len
  have hlD := hD.len
  have hN : ∀ wz, Rd wz none 0 0 [] := fun wz => (ans_nil wz 0).rd
  have HG : Hid (goL R D f = if f = 2047 then (if n = 0 then [] else R ++ D) else if m ≤ f then [] else if 0 < n ∧ whB (R ++ D.take f) = true then R ++ D else D.drop f) := by show _ = _; unfold goL; rw [hlR, hlD]
  generalize goL R D f = G at HG
  have cat : ∀ (wz : World) (X : List Nat) (k e : Nat) (bb : Option Addr), w.grownBy wz none → Rd wz bb k e X → k ≤ 2036 → 0 < n → Calls Try.prog 90 #[.slice (some ⟨wz.heap.size, 0, none⟩) 2 2] (wz.alloc (.cells #[.slice a n c, .slice bb k e] 22)) fun e w' => ∃ a' cap, e = .returned (.slice a' (n + k) cap) ∧ Ans w' wz.heap.size a' (n + k) cap (R ++ X) ∧ wz.grownBy w' none := by
    intro wz X k e bb hg hX hk h0
    have gA := World.grownBy_alloc wz (.cells #[.slice a n c, .slice bb k e] 22) none
    refine (concatZ_any a bb n k c e wz.heap.size R X _ (BxS.new wz _ _) ((hR.keep hg).keep gA) (hX.keep gA) h0 (by omega)).mono ?_
    rintro e w' ⟨a', cap, rfl, hA, g1⟩
    exact ⟨a', cap, rfl, hA.wide gA.size, grown_trans gA g1⟩
  by_cases h1 : f = 2047
  · rw [if_pos h1] at HG
    have b1 : ((((f : Nat) : Int) == 2047) : Bool) = true := by subst h1; rfl
    by_cases h2 : n = 0
    · rw [if_pos h2] at HG
      have b2 : ((((n : Nat) : Int) == 0) : Bool) = true := by subst h2; rfl
      clear h1 h2
      go_enter Try.func82, Try.ntmps82
      go_wp2
      go_ret
      rw [HG.out]
      exact ⟨none, 0, 0, rfl, hN _, (fun h => by omega), World.grownBy.refl _ _⟩
    · rw [if_neg h2] at HG
      have b2 : ((((n : Nat) : Int) == 0) : Bool) = false := by
        have : ¬ ((n : Int) = 0) := by omega
        simpa using this
      have kC := cat w D m d b (World.grownBy.refl _ _) hD hm.2 (by omega)
      clear h1 h2
      have s0 : True := trivial
      go_enter Try.func82, Try.ntmps82
      go_wp2_with (go_at_call 90; have _t := s0; clear s0; refine kC.mono ?_; rintro e w1 ⟨a', cap, rfl, hA, g1⟩)
      go_ret
      rw [HG.out]
      exact ⟨a', _, cap, rfl, hA.rd, (fun _ g off e => .inl (hA.new g (hA.at0 e))), g1⟩
  · rw [if_neg h1] at HG
    have b1 : ((((f : Nat) : Int) == 2047) : Bool) = false := by
      have : ¬ ((f : Int) = 2047) := by omega
      simpa using this
    by_cases h3 : m ≤ f
    · rw [if_pos h3] at HG
      have d3 : decide (((f : Nat) : Int) ≥ (m : Int)) = true := decide_eq_true (by omega)
      have d4 : decide ((m : Int) ≤ ((f : Nat) : Int)) = true := decide_eq_true (by omega)
      clear h1
      go_enter Try.func82, Try.ntmps82
      go_wp2
      go_ret
      rw [HG.out]
      exact ⟨none, 0, 0, rfl, hN _, (fun h => by omega), World.grownBy.refl _ _⟩
    · rw [if_neg h3] at HG
      have d3 : decide (((f : Nat) : Int) ≥ (m : Int)) = false := decide_eq_false (by omega)
      have d4 : decide ((m : Int) ≤ ((f : Nat) : Int)) = false := decide_eq_false (by omega)
      have hfm : (f : Int) ≤ (m : Int) := by omega
      have hmd := hD.le
      have hfd : (f : Int) ≤ (d : Int) := by omega
      have tf : ((f : Int)).toNat = f := Int.toNat_natCast f
      obtain ⟨bb, ob, rfl, hbb, _⟩ := hD.at' (by omega)
      have hcut := hD.cut (m := f) (by omega)
      have hbeh := hD.behind (k := f) (by omega)
      have hdf : ¬ d = f := by omega
      rw [if_neg hdf] at hbeh
      by_cases h4 : 0 < n
      · have l4 : (0 : Int) < (n : Int) := by omega
        have d5 : decide (((n : Nat) : Int) > 0) = true := decide_eq_true (by omega)
        have kC := cat w (D.take f) f d _ (World.grownBy.refl _ _) hcut (by omega) h4
        obtain ⟨bv, hbv⟩ : ∃ bv, whB (R ++ D.take f) = bv := ⟨_, rfl⟩
        rw [hbv] at HG
        have HBV : Hid _ := hbv
        clear hbv h1
        have s0 : True := trivial
        cases bv with
        | true =>
          rw [if_pos ⟨h4, rfl⟩] at HG
          go_enter Try.func82, Try.ntmps82
          go_wp2_with (first
            | (go_at_call 90; have _t := s0; clear s0; refine kC.mono ?_; rintro e w1 ⟨a', cap, rfl, hA, g1⟩; have kR := isRow_any a' (n + f) cap _ w1 hA.rd (by omega); rw [HBV.out] at kR; have s1 : True := trivial)
            | (go_at_call 91; have _t := s1; clear s1; refine kR.mono ?_; rintro e w2 ⟨rfl, g2⟩; have kC2 := cat w2 D m d _ (grown_trans g1 g2) (hD.keep (grown_trans g1 g2)) hm.2 h4; have s2 : True := trivial)
            | (go_at_call 90; have _t := s2; clear s2; refine kC2.mono ?_; rintro e w3 ⟨a3, cap3, rfl, hA3, g3⟩))
          go_ret
          rw [HG.out]
          exact ⟨a3, _, cap3, rfl, hA3.rd, (fun _ g off e => .inl (by have := hA3.new g (hA3.at0 e); have := (grown_trans g1 g2).size; omega)), grown_trans (grown_trans g1 g2) g3⟩
        | false =>
          rw [if_neg (fun e => by cases e.2)] at HG
          go_enter Try.func82, Try.ntmps82
          go_wp2_with (first
            | (go_at_call 90; have _t := s0; clear s0; refine kC.mono ?_; rintro e w1 ⟨a', cap, rfl, hA, g1⟩; have kR := isRow_any a' (n + f) cap _ w1 hA.rd (by omega); rw [HBV.out] at kR; have s1 : True := trivial)
            | (go_at_call 91; have _t := s1; clear s1; refine kR.mono ?_; rintro e w2 ⟨rfl, g2⟩))
          go_ret
          rw [HG.out]
          exact ⟨_, _, _, rfl, hbeh.keep (grown_trans g1 g2), (fun _ g off e => by cases e; exact .inr (by first | exact ⟨_, rfl⟩ | rfl)), grown_trans g1 g2⟩
      · rw [if_neg (fun e => h4 e.1)] at HG
        have l4 : ¬ (0 : Int) < (n : Int) := by omega
        have d5 : decide (((n : Nat) : Int) > 0) = false := decide_eq_false (by omega)
        have d6 : decide ((0 : Int) < ((n : Nat) : Int)) = false := decide_eq_false (by omega)
        clear h1
        go_enter Try.func82, Try.ntmps82
        go_wp2
        go_ret
        rw [HG.out]
        exact ⟨_, _, _, rfl, hbeh, (fun _ g off e => by cases e; exact .inr (by first | exact ⟨_, rfl⟩ | rfl)), World.grownBy.refl _ _⟩

/-- a packet that was heard -/
def Pk.he (ch : Int) (p : Pk) : Th := ⟨.int .i64 ch :: p.cells, p.rw⟩
theorem Try.info_he3 : (Try.prog.info? 66).map (fun i => (i.zero, i.size, i.bytes)) = some (some (.agg #[.int .i64 0, .bool false, .bool false, .int .i64 0, .int .i64 0, .int .i64 0, .slice none 0 0]), 7, 64) := by kernel_rfl
theorem OwT.six {w : World} {lo g n c : Nat} {ps : List Pk} (h : OwT 64 6 w lo (some ⟨g, 0, none⟩) n c (ps.map Pk.th)) {i : Nat} {p : Pk} (hi : ps[i]? = some p) :
    w.cell? ⟨g, i * 6, none⟩ = some (.bool p.up) ∧ w.cell? ⟨g, i * 6 + 1, none⟩ = some (.bool p.se) ∧ w.cell? ⟨g, i * 6 + 2, none⟩ = some (.int .i64 p.ap) ∧ w.cell? ⟨g, i * 6 + 3, none⟩ = some (.int .i64 p.pt) ∧ w.cell? ⟨g, i * 6 + 4, none⟩ = some (.int .i64 p.ct) ∧ w.cell? ⟨g, i * 6 + 5, none⟩ = some (.slice p.a p.n p.c) := by
  have hi' : (ps.map Pk.th)[i]? = some p.th := by rw [List.getElem?_map, hi]; rfl
  exact ⟨h.cell hi' 0 (by decide), h.cell hi' 1 (by decide), h.cell hi' 2 (by decide), h.cell hi' 3 (by decide), h.cell hi' 4 (by decide), h.cell hi' 5 (by decide)⟩
/-- without those that fill -/
def noF (ps : List Pk) : List Pk := ps.filter fun p => p.ap != 2047
theorem noF_d (ps : List Pk) : (noF ps).map Pk.d = (ps.map Pk.d).filter fun p => p.ap != 2047 := by
  unfold noF
  rw [List.filter_map]
  rfl
theorem noF_take (ps : List Pk) (k : Nat) (p : Pk) (h : ps[k]? = some p) : noF (ps.take (k + 1)) = noF (ps.take k) ++ (if p.ap = 2047 then [] else [p]) := by
  unfold noF
  rw [List.take_add_one, h, List.filter_append]
  congr 1
  show [p].filter _ = _
  by_cases e : p.ap = 2047
  · rw [if_pos e]; simp [e]
  · rw [if_neg e]; simp [e]
set_option maxHeartbeats 16000000 in
theorem told_any (ch : Int) (pa : Option Addr) (pn pc lo : Nat) (ps : List Pk) (w : World) (h : OwT 64 6 w lo pa pn pc (ps.map Pk.th)) (hlo : lo ≤ w.heap.size) (hn : pn ≤ 100000) :
    Calls Try.prog 70 #[.int .i64 ch, .slice pa pn pc] w fun e w' => ∃ (a' : Option Addr) (n' c' : Nat), e = .returned (.slice a' n' c') ∧ OwT 66 7 w' lo a' n' c' ((noF ps).map (Pk.he ch)) ∧ (∀ x, (Value.slice a' n' c').ownBlock = some x → w.heap.size ≤ x) ∧ w.grownBy w' none := by
  have hlp : ps.length = pn := by have := h.len; rw [List.length_map] at this; exact this
  have i6 := Try.info_pk
  go_enter Try.func70, Try.ntmps70
  refine wp_seq_k fun K0 hK0 => ?_
  have HK0 : Hid _ := hK0
  clear hK0
  go_wp2
  refine HK0.out _ _ ?_
  clear HK0
  refine wp_seq_k fun K1 hK1 => ?_
  have HK1 : Hid _ := hK1
  clear hK1
  go_wp2
  refine HK1.out _ _ ?_
  clear HK1
  refine wp_seq_k fun K2 hK2 => ?_
  have HK2 : Hid _ := hK2
  clear hK2
  go_wp2
  go_loopw [5, 10] (fun ov iv wr => ∃ (k : Nat) (ao : Option Addr) (mo co : Nat), iv = .int .i64 k ∧ ov = .slice ao mo co ∧ k ≤ pn ∧ mo ≤ k ∧ OwT 66 7 wr lo ao mo co ((noF (ps.take k)).map (Pk.he ch)) ∧ (∀ x, (Value.slice ao mo co).ownBlock = some x → w.heap.size ≤ x) ∧ w.grownBy wr none) (fun _ iv _ => pn - (intOf iv).toNat)
  case atStart => exact ⟨0, none, 0, 0, by go_num, rfl, Nat.zero_le _, Nat.le_refl _, OwT.nil _ _ _ _, (fun x e => by simp [Value.ownBlock] at e), World.grownBy.refl _ _⟩
  case round =>
    obtain ⟨k, ao, mo, co, rfl, rfl, hk, hmo, hO, hnew, hgr⟩ := hrel
    by_cases hlk : k < pn
    · have l1 : (k : Int) < (pn : Int) := by omega
      have hP := h.keep hgr
      obtain ⟨g, rfl⟩ := hP.someT (by omega)
      have hpk : ps[k]? = some (ps.getD k pk0) := by rw [List.getD_eq_getElem?_getD, List.getElem?_eq_getElem (by omega)]; rfl
      obtain ⟨c0, c1, c2, c3, c4, c5⟩ := hP.six hpk
      have hAk : Ans wr lo (ps.getD k pk0).a (ps.getD k pk0).n (ps.getD k pk0).c (ps.getD k pk0).D := hP.each _ (List.mem_map_of_mem (List.mem_of_getElem? hpk))
      have hap : ∀ y, y ∈ (noF (ps.take k)).map (Pk.he ch) → ∀ b, y.r.v.ownBlock = some b → (Pk.he ch (ps.getD k pk0)).r.v.ownBlock ≠ some b := by
        intro y hy b e
        obtain ⟨q, hq, rfl⟩ := List.mem_map.1 hy
        have hq := (List.mem_filter.1 hq).1
        obtain ⟨i, hi, rfl⟩ := List.mem_iff_getElem.1 hq
        rw [List.length_take] at hi
        have hpw := List.pairwise_iff_getElem.1 h.apart i k (by rw [List.length_map]; omega) (by rw [List.length_map]; omega) (by omega) b
        rw [List.getElem_map, List.getElem_map] at hpw
        have e1 : ps.getD k pk0 = ps[k]'(by omega) := by rw [List.getD_eq_getElem?_getD, List.getElem?_eq_getElem (by omega)]; rfl
        rw [e1]
        rw [List.getElem_take] at e
        exact hpw e
      have HT := noF_take ps k _ hpk
      have HT : Hid _ := HT
      generalize hp : ps.getD k pk0 = p at *
      clear hp
      refine wp_seq_k fun K5 hK5 => ?_
      have HK5 : Hid _ := hK5
      clear hK5
      go_wp2
      refine HK5.out _ _ ?_
      clear HK5
      refine wp_seq_k fun K6 hK6 => ?_
      have HK6 : Hid _ := hK6
      clear hK6
      go_wp2
      refine HK6.out _ _ ?_
      clear HK6
      refine wp_seq_k fun K7 hK7 => ?_
      have HK7 : Hid _ := hK7
      clear hK7
      refine wp_block ?_
      refine wp_seq_k fun K8 hK8 => ?_
      have HK8 : Hid _ := hK8
      clear hK8
      have bn := BxS.new wr 64 #[.bool false, .bool false, .int .i64 0, .int .i64 0, .int .i64 0, .slice none 0 0]
      have gn := World.grownBy_alloc wr (.cells #[.bool false, .bool false, .int .i64 0, .int .i64 0, .int .i64 0, .slice none 0 0] 64) none
      have s0 : True := trivial
      go_wp2_with (have _t := s0; clear s0; refine wpList_stX _ rfl _ (.tmp 7) (.tmp 13) rfl wr.heap.size _ _ rfl rfl bn i6 rfl (by simp [Value.oneCell']) ?_; intro w4 b4 u4)
      have Y4 := grown_far gn u4 (fun q e => by have e := Option.some.inj e; omega)
      have hO4 := hO.keep Y4
      have hA4 := hAk.keep Y4
      have G4 := grown_trans hgr Y4
      clear c0 c1 c2 c3 c4 c5 u4 gn bn
      refine HK8.out _ _ ?_
      clear HK8
      have hwk : IntKind.i64.wrap ((k : Int) + 1) = (k : Int) + 1 := wrap_i64_in _ (by omega) (by omega)
      have q2 : w4.cell? ⟨wr.heap.size, 2, none⟩ = some (.int .i64 p.ap) := b4.cell 2 (by show 2 < 6; decide)
      by_cases hap2 : p.ap = 2047
      · have hb : ((p.ap != 2047) : Bool) = false := by simp [hap2]
        go_wp2
        try simp only [Exit.inBlock, Exit.then]
        refine HK7.out _ _ ?_
        clear HK7
        go_wp2
        go_roundw
        case rel =>
          refine ⟨k + 1, ao, mo, co, by go_num, rfl, by omega, by omega, ?_, hnew, G4⟩
          rw [HT.out, if_pos hap2, List.append_nil]; exact hO4
        case measure => simp [intOf]; omega
      · have hb : ((p.ap != 2047) : Bool) = true := by simpa using hap2
        have s0 : True := trivial
        go_wp2_with (first
          | (have _t := s0; clear s0; refine wpList_ldX _ rfl _ (.tmp 7) rfl wr.heap.size _ rfl b4 Try.underlying64 i6 ?_; have s1 : True := trivial)
          | (at_builtin; have _t := s1; clear s1; refine wpList_psT 57 66 7 64 _ Try.underlying57 Try.info_he3 rfl (by decide) (by decide) w4 lo (Pk.he ch p) rfl _ _ rfl ao mo co ((noF (ps.take k)).map (Pk.he ch)) rfl hO4 (by have := G4.size; omega) rfl (by omega) (by unfold maxLen; omega) _ rfl rfl (by intro u hu; simp only [Pk.he, Pk.cells, List.mem_cons, List.not_mem_nil, or_false] at hu; rcases hu with rfl | rfl | rfl | rfl | rfl | rfl | rfl <;> rfl) hA4 hap ?_; intro gx cx w5 hO5 u5 hor))
        try simp only [Exit.inBlock, Exit.then]
        refine HK7.out _ _ ?_
        clear HK7
        go_wp2
        go_roundw
        case rel =>
          refine ⟨k + 1, some ⟨gx, 0, none⟩, mo + 1, cx, by go_num, rfl, by omega, by omega, ?_, fun x e => ?_, grown_far G4 u5 (fun q e => hnew q e)⟩
          · rw [HT.out, if_neg hap2, List.map_append]; exact hO5
          · have e : gx = x := Option.some.inj e
            rcases hor with h1 | h1
            · exact hnew x (by rw [← e]; exact h1)
            · have := G4.size; omega
        case measure => simp [intOf]; omega
    · obtain rfl : k = pn := by omega
      have l1 : ¬ (k : Int) < (k : Int) := by omega
      go_wp2
      refine HK2.out _ _ ?_
      clear HK2
      go_wp2
      go_ret
      rw [List.take_of_length_le (by omega)] at hO
      exact ⟨ao, mo, co, rfl, hO, hnew, hgr⟩

/-- one cell of a thing is written -/
theorem flT_set {k : Nat} {ts : List Th} (hz : SzT k ts) (i : Nat) (x x' : Th) (h : ts[i]? = some x) (j : Nat) (hj : j < k) (v : Value) (hc : x'.cs = x.cs.set j v) : (flT ts).set (i * k + j) v = flT (ts.set i x') := by
  induction ts generalizing i with
  | nil => cases h
  | cons a ts ih =>
    have ha := hz a List.mem_cons_self
    cases i with
    | zero =>
      have h : some a = some x := h
      have h := Option.some.inj h
      subst h
      show (a.cs ++ flT ts).set (0 * k + j) v = x'.cs ++ flT ts
      rw [hc, Nat.zero_mul, Nat.zero_add, List.set_append_left _ _ (by rw [ha]; exact hj)]
    | succ i =>
      have h : ts[i]? = some x := h
      show (a.cs ++ flT ts).set ((i + 1) * k + j) v = a.cs ++ flT (ts.set i x')
      have e : (i + 1) * k + j = i * k + j + k := by rw [Nat.succ_mul]; omega
      rw [e, List.set_append_right _ _ (by rw [ha]; omega), ha, Nat.add_sub_cancel, ih (fun y hy => hz y (List.mem_cons_of_mem _ hy)) i h]

theorem spS_len (f : Nat) : ∀ B : List Nat, (spS f B).length ≤ B.length := by
  induction f with
  | zero => intro B; exact Nat.zero_le _
  | succ f ih =>
    intro B
    by_cases h : dcE B = 0
    · have e : spS (f + 1) B = B :: spS f (B.drop (dcK B)) := if_pos h
      have := ih (B.drop (dcK B))
      obtain ⟨h1, h2⟩ := dc_k h
      rw [List.length_drop] at this
      rw [e, List.length_cons]
      omega
    · have e : spS (f + 1) B = [] := if_neg h
      rw [e]; exact Nat.zero_le _
theorem goL_len (R D : List Nat) (f : Nat) : (goL R D f).length ≤ R.length + D.length := by
  unfold goL
  split
  · split
    · exact Nat.zero_le _
    · rw [List.length_append]; exact Nat.le_refl _
  · split
    · exact Nat.zero_le _
    · split
      · rw [List.length_append]; exact Nat.le_refl _
      · rw [List.length_drop]; omega
theorem Rd.grown0 {w w' : World} {a : Option Addr} {n cap : Nat} {L : List Nat} {r : Option Nat} (h : Rd w a n cap L) (hg : w.grownBy w' r) (hne : 0 < n → ∀ g off, a = some ⟨g, off, none⟩ → some g ≠ r) : Rd w' a n cap L := by
  by_cases h0 : 0 < n
  · exact h.grown hg (hne h0)
  · exact ⟨h.len, h.le, h.max, h.nil, h.byte, fun h1 => absurd h1 h0⟩
/-- what is kept of what is left -/
def keL (G : List Nat) : List Nat := if dcE (spR G.length G) = 7 then spR G.length G else []
set_option maxHeartbeats 32000000 in
theorem hp_t4 {u1 u3 u5 u6 u8 u9 u10 u11 u12 u13 u14 u15 u16 u17 u18 u19 u20 u21 u22 u23 u24 u25 u26 u27 u28 u29 u30 u31 u32 u33 u34 u35 u36 u37 u38 u39 u40 u41 u42 u43 u44 u45 : Value} (w w1 : World) (lo ge i : Nat) (es : List Er) (Es : List Ed) (e : Er) (cr ch ma ow : Int) (fi : Nat) (da : Option Addr) (dm dc : Nat) (D : List Nat) (ra : Option Addr) (rn rc : Nat) (R G : List Nat) (hL : OwL w1 lo (some ⟨ge, 0, none⟩) 7 7 es Es) (hi : es[i]? = some e) (hR : Rd w1 ra rn rc R) (hrn : rn ≤ 65541) (lod : Nat) (hDA : Ans w1 lod da dm dc D) (hdm : 1 ≤ dm ∧ dm ≤ 2036) (how : 0 ≤ ow ∧ ow ≤ 255) (hfi : fi ≤ 2047) (hG : Hid (G = goL R D fi)) (bh : BxS w1 w.heap.size 28 #[.int .i64 cr, .int .i64 ch, .int .i64 ma, .int .i64 ow, .int .i64 (fi : Int)]) (G1 : w.grownBy w1 none) (hold : ∀ x, Tbl (.slice (some ⟨ge, 0, none⟩) 7 7) (es.map Er.th) x → x < w.heap.size) :
    Code.wp Try.prog (tailR 4 (Try.f69.body.getD .skip)) (bodyPost Try.prog Try.f69 (fun r w' => ∃ (pa : Option Addr) (pn pc : Nat) (ps : List Pk) (es' : List Er), r = .returned (.slice pa pn pc) ∧ OwT 64 6 w' w.heap.size pa pn pc (ps.map Pk.th) ∧ ps.map Pk.d = (spS G.length G).map pdB ∧ OwL w' lo (some ⟨ge, 0, none⟩) 7 7 es' (Es.set i ⟨(ow + 1) % 256, keL G⟩) ∧ (∀ x, Tbl (.slice pa pn pc) (ps.map Pk.th) x → ¬ Tbl (.slice (some ⟨ge, 0, none⟩) 7 7) (es'.map Er.th) x) ∧ pn ≤ 100000 ∧ w.grownBy w' (some ge))) (Act.mk (List.toArray ((.pointer (some ⟨ge, i * 2, none⟩)) :: u1 :: (.slice da dm dc) :: u3 :: (.pointer (some ⟨w.heap.size, 0, none⟩)) :: u5 :: u6 :: (.slice ra rn rc) :: u8 :: u9 :: u10 :: u11 :: u12 :: u13 :: u14 :: u15 :: u16 :: u17 :: u18 :: u19 :: u20 :: u21 :: u22 :: u23 :: u24 :: u25 :: u26 :: u27 :: u28 :: u29 :: u30 :: u31 :: u32 :: u33 :: u34 :: u35 :: u36 :: u37 :: u38 :: u39 :: u40 :: u41 :: u42 :: u43 :: u44 :: u45 :: [])) []) w1 := by
  conv => enter [2]; whnf
  have hle := hL.lenE
  have hil : i < 7 := by have := (List.getElem?_eq_some_iff.1 hi).1; omega
  have hgel := hold ge (.inl rfl)
  have hem : e.th ∈ es.map Er.th := List.mem_map_of_mem (List.mem_of_getElem? hi)
  have hthi : (es.map Er.th)[i]? = some e.th := by rw [List.getElem?_map, hi]; rfl
  have i2 := Try.info_ea2
  have hD := hDA.rd
  have hGl := goL_len R D fi
  rw [← hG.out, hR.len, hD.len] at hGl
  refine wp_seq_k fun K1 hK1 => ?_
  have HK1 : Hid _ := hK1
  clear hK1
  obtain ⟨z0, z1, z2, z3, z4⟩ := BxS.cell5 bh
  have s0 : True := trivial
  have kG := goThrough_any ra da rn dm rc dc fi R D w1 hR hD hrn hdm hfi
  rw [← hG.out] at kG
  go_wp2_with (first
    | (go_at_call 82; have _t := s0; clear s0; refine kG.mono ?_; rintro e2 w2 ⟨ga, gn, gc, rfl, hR2, hgb, g2⟩; have kS := split_any ga gn gc G w2 hR2 (by have := hR2.len; omega); have s1 : True := trivial)
    | (go_at_call 81; have _t := s1; clear s1; refine kS.mono ?_; rintro e3 w3 ⟨pa, pn, pc, ps, la, ln, lc, rfl, hP3, hpd, hR3, hlb, g3⟩))
  have Y3 := grown_trans g2 g3
  have hL3 := hL.keep Y3
  have bh3 := bh.keep Y3 (by simp)
  have G3 := grown_trans G1 Y3
  have zz1 := G1.size
  have zz2 := g2.size
  have zz3 := g3.size
  have hpn : pn ≤ 100000 := by
    have h1 := hP3.len
    rw [List.length_map] at h1
    have h2 : ps.length = (spS G.length G).length := by have := congrArg List.length hpd; rw [List.length_map, List.length_map] at this; exact this
    have := spS_len G.length G
    omega
  have hP3w := hP3.wide (lo' := w.heap.size) (by omega)
  have hPhi : ∀ x, Tbl (.slice pa pn pc) (ps.map Pk.th) x → x < w3.heap.size := fun x hx => (hP3.hi hx).1
  have hll := hR3.len
  obtain ⟨L, hLL⟩ : ∃ L, spR G.length G = L := ⟨_, rfl⟩
  have HKE : Hid (keL G = if dcE L = 7 then L else []) := by show _ = _; unfold keL; rw [hLL]
  rw [hLL] at hR3 hll ⊢
  have hLn : ln ≤ 100000 := by
    have h1 : ∀ (f : Nat) (B : List Nat), (spR f B).length ≤ B.length := by
      intro f
      induction f with
      | zero => intro B; exact Nat.le_refl _
      | succ f ih =>
        intro B
        by_cases h : dcE B = 0
        · have e : spR (f + 1) B = spR f (B.drop (dcK B)) := if_pos h
          have := ih (B.drop (dcK B))
          rw [List.length_drop] at this
          rw [e]; omega
        · have e : spR (f + 1) B = B := if_neg h
          rw [e]; exact Nat.le_refl _
    have := h1 G.length G
    rw [hLL] at this
    omega
  obtain ⟨E, hE⟩ : ∃ E, dcE L = E := ⟨_, rfl⟩
  rw [hE] at HKE ⊢
  clear z0 z1 z2 z3 z4 kG hE hLL g2 g3 Y3 hR hD bh hR2
  refine HK1.out _ _ ?_
  clear HK1
  refine wp_seq_k fun K2 hK2 => ?_
  have HK2 : Hid _ := hK2
  clear hK2
  obtain ⟨z0, z1, z2, z3, z4⟩ := BxS.cell5 bh3
  have kB := fun wz => fbehind_any ow ((ow + 1) % 256) (show _ = _ from rfl) how.1 how.2 wz
  have s0 : True := trivial
  have hpi : (.pointer (some ⟨ge, i * 2, none⟩) : Value) = .pointer (some ⟨ge, i * 2, none⟩) := rfl
  obtain ⟨c0, c1⟩ := hL3.cell hi
  go_wp2_with (first
    | (go_at_call 68; have _t := s0; clear s0; refine (kB _).mono ?_; rintro e4 wx ⟨rfl, hw⟩; have hw := hw.symm; subst hw; have s1 : True := trivial)
    | (have _t := s1; clear s1; refine wpList_stTh i2 _ rfl _ _ rfl ge i 7 7 _ (es.map Er.th) (Er.th ⟨(ow + 1) % 256, kr0⟩) rfl rfl _ rfl rfl rfl (by intro u hu; simp only [Er.th, List.mem_cons, List.not_mem_nil, or_false] at hu; rcases hu with rfl | rfl <;> rfl) hL3.o.own hL3.o.sz hL3.o.len hil ?_; intro w4 ho4 u4))
  have hL4 : OwT 68 2 w4 lo (some ⟨ge, 0, none⟩) 7 7 ((es.map Er.th).set i (Er.th ⟨(ow + 1) % 256, kr0⟩)) := hL3.o.set (by decide) ho4 u4 rfl (ans_nil _ _) (fun j y hj hy b e e2 => by simp [Er.th, kr0, Rw.v, Value.ownBlock] at e2)
  have hP4 := hP3w.far u4 hgel
  have hR4 : Rd w4 la ln lc L := hR3.grown0 u4 (hlb (fun g => some g ≠ some ge) (fun h0 g off e => by
    intro e2
    have e2 := Option.some.inj e2
    subst e2
    rcases hgb h0 g off e with h1 | ⟨o, h1⟩
    · omega
    · obtain ⟨cs, hb⟩ := hL.o.row
      exact hDA.apart hb (by decide) (hDA.at0 h1)))
  have G4 := grown_trans (grown_weak G3 (some ge)) u4
  have zz4 := u4.size
  clear z0 z1 z2 z3 z4 c0 c1 hP3 hP3w bh3 hR3
  refine HK2.out _ _ ?_
  clear HK2
  refine wp_seq_k fun K3 hK3 => ?_
  have HK3 : Hid _ := hK3
  clear hK3
  by_cases h7 : E = 7
  · have b7 : ((((E : Nat) : Int) == 7) : Bool) = true := by subst h7; rfl
    rw [if_pos h7] at HKE
    have hL4f := hL4.free (i * 2 + 1)
    have hset : ((es.map Er.th).set i (Er.th ⟨(ow + 1) % 256, kr0⟩))[i]? = some (Er.th ⟨(ow + 1) % 256, kr0⟩) := List.getElem?_set_self (by rw [List.length_map]; omega)
    have hL4c : w4.cell? ⟨ge, i * 2 + 1, none⟩ = some (.slice none 0 0) := hL4.cell hset 1 (by decide)
    have s0 : True := trivial
    go_wp2_with (first
      | (go_at_call 49; have _t := s0; clear s0; refine (hclone_any la ln lc L w4 hR4 (by omega)).mono ?_; rintro e5 w5 ⟨na, nc, rfl, hA5, g5⟩; have hL5 := hL4.keep g5; have hc5 : w5.cell? ⟨ge, i * 2 + 1, none⟩ = some (.slice none 0 0) := hL5.cell hset 1 (by decide); have hf5 := hL5.free (i * 2 + 1))
      )
    have hs5 := (hL5.own.stored (i * 2 + 1) (.slice na ln nc)).1
    rw [flT_set hL5.sz i _ (Er.th ⟨(ow + 1) % 256, ⟨na, ln, nc, L⟩⟩) hset 1 (by decide) (.slice na ln nc) rfl, List.set_set] at hs5
    have u5 := grown_set w5 ge (i * 2 + 1) (.slice na ln nc)
    have hL6 := hL5.set (x' := Er.th ⟨(ow + 1) % 256, ⟨na, ln, nc, L⟩⟩) (i := i) (by decide) (by rw [List.set_set]; exact hs5) u5 rfl (hA5.wide (by have := (hL4.hi (x := ge) (.inl rfl)).2; omega)) (fun j y hj hy b e e2 => by
      have hj4 : y ∈ (es.map Er.th).set i (Er.th ⟨(ow + 1) % 256, kr0⟩) := List.mem_of_getElem? hy
      exact (hL4.each y hj4).later2 hA5 (Nat.le_refl _) b e e2)
    rw [List.set_set] at hL6
    have hwz : w5.setCell ⟨ge, i * 2 + 1, none⟩ (.slice na ln nc) = w5.setCell ⟨ge, i * 2 + 1, none⟩ (.slice na ln nc) := rfl
    generalize w5.setCell ⟨ge, i * 2 + 1, none⟩ (.slice na ln nc) = w6 at *
    refine HK3.out _ _ ?_
    clear HK3
    go_wp2
    go_ret
    have hnewb : ∀ x, (Value.slice na ln nc).ownBlock = some x → w4.heap.size ≤ x := hA5.new
    have hP6 := (hP4.keep g5).far u5 hgel
    refine ⟨pa, pn, pc, rfl, ps, hP6, hpd, es.set i ⟨(ow + 1) % 256, ⟨na, ln, nc, L⟩⟩, ⟨by rw [List.map_set]; exact hL6, ?_⟩, fun x hx e => ?_, hpn, grown_trans (grown_trans G4 (grown_weak g5 _)) u5⟩
    · rw [List.map_set, hL.d, HKE.out]; rfl
    · have h1 := hPhi x hx
      have h2 := (hP6.hi hx).2
      rcases e with e | ⟨y, hy, e⟩
      · have := hold x (.inl e); omega
      · rw [List.map_set] at hy
        rcases List.mem_or_eq_of_mem_set hy with hy | rfl
        · have := hold x (.inr ⟨y, hy, e⟩); omega
        · have := hnewb x e; omega
  · have b7 : ((((E : Nat) : Int) == 7) : Bool) = false := by
      have : ¬ ((E : Int) = 7) := by omega
      simpa using this
    rw [if_neg h7] at HKE
    go_wp2
    refine HK3.out _ _ ?_
    clear HK3
    go_wp2
    go_ret
    refine ⟨pa, pn, pc, ps, es.set i ⟨(ow + 1) % 256, kr0⟩, rfl, hP4, hpd, ⟨by rw [List.map_set]; exact hL4, ?_⟩, fun x hx e => ?_, hpn, G4⟩
    · rw [List.map_set, hL.d, HKE.out]; rfl
    · have h2 := (hP4.hi hx).2
      rcases e with e | ⟨y, hy, e⟩
      · have := hold x (.inl e); omega
      · rw [List.map_set] at hy
        rcases List.mem_or_eq_of_mem_set hy with hy | rfl
        · have := hold x (.inr ⟨y, hy, e⟩); omega
        · simp [Er.th, kr0, Rw.v, Value.ownBlock] at e

set_option maxHeartbeats 32000000 in
theorem hearPackets_any (w : World) (lo ge i : Nat) (es : List Er) (Es : List Ed) (e : Er) (cr ch ma ow : Int) (fi : Nat) (da : Option Addr) (dm dc : Nat) (D : List Nat) (hL : OwL w lo (some ⟨ge, 0, none⟩) 7 7 es Es) (hi : es[i]? = some e) (hrn : e.r.n ≤ 65541) (lod : Nat) (hDA : Ans w lod da dm dc D) (hdm : 1 ≤ dm ∧ dm ≤ 2036) (how : 0 ≤ ow ∧ ow ≤ 255) (hfi : fi ≤ 2047) (G : List Nat) (hG : G = goL (if e.x = ow then e.r.D else []) D fi) :
    Calls Try.prog 69 #[.pointer (some ⟨ge, i * 2, none⟩), .agg #[.int .i64 cr, .int .i64 ch, .int .i64 ma, .int .i64 ow, .int .i64 (fi : Int)], .slice da dm dc] w (fun r w' => ∃ (pa : Option Addr) (pn pc : Nat) (ps : List Pk) (es' : List Er), r = .returned (.slice pa pn pc) ∧ OwT 64 6 w' w.heap.size pa pn pc (ps.map Pk.th) ∧ ps.map Pk.d = (spS G.length G).map pdB ∧ OwL w' lo (some ⟨ge, 0, none⟩) 7 7 es' (Es.set i ⟨(ow + 1) % 256, keL G⟩) ∧ (∀ x, Tbl (.slice pa pn pc) (ps.map Pk.th) x → ¬ Tbl (.slice (some ⟨ge, 0, none⟩) 7 7) (es'.map Er.th) x) ∧ pn ≤ 100000 ∧ w.grownBy w' (some ge)) := by
  have HG : Hid _ := hG
  clear hG
  have hle := hL.lenE
  have hil : i < 7 := by have := (List.getElem?_eq_some_iff.1 hi).1; omega
  have hold : ∀ x, Tbl (.slice (some ⟨ge, 0, none⟩) 7 7) (es.map Er.th) x → x < w.heap.size := fun x hx => (hL.o.hi hx).1
  have hem : e.th ∈ es.map Er.th := List.mem_map_of_mem (List.mem_of_getElem? hi)
  have b0 := BxS.new w 28 #[.int .i64 cr, .int .i64 ch, .int .i64 ma, .int .i64 ow, .int .i64 (fi : Int)]
  have g0 := World.grownBy_alloc w (.cells #[.int .i64 cr, .int .i64 ch, .int .i64 ma, .int .i64 ow, .int .i64 (fi : Int)] 28) none
  generalize hw0 : w.alloc (.cells #[.int .i64 cr, .int .i64 ch, .int .i64 ma, .int .i64 ow, .int .i64 (fi : Int)] 28) = w0 at b0 g0
  have hL0 := hL.keep g0
  obtain ⟨c0, c1⟩ := hL0.cell hi
  have hr0 : Rd w0 e.r.a e.r.n e.r.c e.r.D := (hL0.o.each _ hem).rd
  obtain ⟨ex, hex⟩ : ∃ ex, e.x = ex := ⟨_, rfl⟩
  rw [hex] at c0 HG
  clear hex
  go_enter Try.func69, Try.ntmps69
  refine wp_seq_k fun K0 hK0 => ?_
  have HK0 : Hid _ := hK0
  clear hK0
  go_wp2
  refine HK0.out _ _ ?_
  clear HK0
  refine wp_seq_k fun K1 hK1 => ?_
  have HK1 : Hid _ := hK1
  clear hK1
  go_wp2
  refine HK1.out _ _ ?_
  clear HK1
  refine wp_seq_k fun K2 hK2 => ?_
  have HK2 : Hid _ := hK2
  clear hK2
  refine wp_seq_k fun K3 hK3 => ?_
  have HK3 : Hid _ := hK3
  clear hK3
  have SS : w0.drew.cell? ⟨ge, i * 2, none⟩ = some (.int .i64 ex) ∧ BxS w0.drew w.heap.size 28 #[.int .i64 cr, .int .i64 ch, .int .i64 ma, .int .i64 ow, .int .i64 (fi : Int)] := ⟨c0, b0.keep (grown_drew w0 none) (by simp)⟩
  have hLd := hL0.keep (grown_drew w0 none)
  have hrd := hr0.keep (grown_drew w0 none)
  have hDd := (hDA.keep g0).keep (grown_drew w0 none)
  have Gd := grown_trans g0 (grown_drew w0 none)
  clear hw0 c0 c1 hL0 hr0 b0 g0
  refine wp_regionL (fun wz => wz.cell? ⟨ge, i * 2, none⟩ = some (.int .i64 ex) ∧ BxS wz w.heap.size 28 #[.int .i64 cr, .int .i64 ch, .int .i64 ma, .int .i64 ow, .int .i64 (fi : Int)]) [] #[false, false, false, false, false, false, false] rfl (by kernel_rfl) ?_
  refine wpAnyZ_take [] 0 (.pointer (some ⟨ge, i * 2, none⟩)) rfl (by kernel_rfl) (fun _ _ _ h => h) SS rfl (by intro wz hz; go_simp) ?_
  try simp only [List.getElem_toArray, List.getElem_cons_succ, List.getElem_cons_zero, Act.put, List.setIfInBounds_toArray, List.set_cons_zero, List.set_cons_succ]
  refine wpAnyZ_take [] 1 (.pointer (some ⟨ge, i * 2, none⟩)) rfl (by kernel_rfl) (fun _ _ _ h => h) SS rfl (by intro wz hz; go_simp) ?_
  try simp only [List.getElem_toArray, List.getElem_cons_succ, List.getElem_cons_zero, Act.put, List.setIfInBounds_toArray, List.set_cons_zero, List.set_cons_succ]
  refine wpAnyZ_take [] 2 (.pointer (some ⟨ge, i * 2, none⟩)) rfl (by kernel_rfl) (fun _ _ _ h => h) SS rfl (by intro wz hz; go_simp) ?_
  try simp only [List.getElem_toArray, List.getElem_cons_succ, List.getElem_cons_zero, Act.put, List.setIfInBounds_toArray, List.set_cons_zero, List.set_cons_succ]
  refine wpAnyZ_take [] 3 (.int .i64 ex) rfl (by kernel_rfl) (fun _ _ _ h => h) SS rfl (by rintro wz ⟨q0, hz⟩; obtain ⟨z0, z1, z2, z3, z4⟩ := BxS.cell5 hz; go_simp) ?_
  try simp only [List.getElem_toArray, List.getElem_cons_succ, List.getElem_cons_zero, Act.put, List.setIfInBounds_toArray, List.set_cons_zero, List.set_cons_succ]
  refine wpAnyZ_take [] 4 (.pointer (some ⟨w.heap.size, 3, none⟩)) rfl (by kernel_rfl) (fun _ _ _ h => h) SS rfl (by intro wz hz; go_simp) ?_
  try simp only [List.getElem_toArray, List.getElem_cons_succ, List.getElem_cons_zero, Act.put, List.setIfInBounds_toArray, List.set_cons_zero, List.set_cons_succ]
  refine wpAnyZ_take [] 5 (.int .i64 ow) rfl (by kernel_rfl) (fun _ _ _ h => h) SS rfl (by rintro wz ⟨q0, hz⟩; obtain ⟨z0, z1, z2, z3, z4⟩ := BxS.cell5 hz; go_simp) ?_
  try simp only [List.getElem_toArray, List.getElem_cons_succ, List.getElem_cons_zero, Act.put, List.setIfInBounds_toArray, List.set_cons_zero, List.set_cons_succ]
  refine wpAnyZ_take [] 6 (.bool (ex != ow)) rfl (by kernel_rfl) (fun _ _ _ h => h) SS rfl (by intro wz hz; go_simp) ?_
  try simp only [List.getElem_toArray, List.getElem_cons_succ, List.getElem_cons_zero, Act.put, List.setIfInBounds_toArray, List.set_cons_zero, List.set_cons_succ]
  generalize w0.drew = w1 at *
  refine wpAnyZ_doneB (by kernel_rfl) ?_ _
  refine HK3.out _ _ ?_
  clear HK3
  by_cases hx : ex = ow
  · have hG := HG.out
    rw [if_pos hx] at hG
    have hb : ((ex != ow) : Bool) = false := by simp [hx]
    rw [hb]
    clear hx hb
    go_wp2
    refine HK2.out _ _ ?_
    clear HK2
    exact hp_t4 w w1 lo ge i es Es e cr ch ma ow fi da dm dc D _ _ _ _ G hLd hi hrd hrn lod hDd hdm how hfi hG SS.2 Gd hold
  · have hG := HG.out
    rw [if_neg hx] at hG
    have hb : ((ex != ow) : Bool) = true := by simpa using hx
    rw [hb]
    clear hx hb
    go_wp2
    refine HK2.out _ _ ?_
    clear HK2
    exact hp_t4 w w1 lo ge i es Es e cr ch ma ow fi da dm dc D none 0 0 [] G hLd hi (ans_nil w1 0).rd (by omega) lod hDd hdm how hfi hG SS.2 Gd hold

/-- what a frame's head says -/
def hrC (B : List Nat) : Nat := unN B / 16
def hrH (B : List Nat) : Nat := unN B / 2 % 8
def hrM (B : List Nat) : Nat := nth B 2
def hrO (B : List Nat) : Nat := nth B 3
def hrF (B : List Nat) : Nat := unF B % 2048
/-- why a frame is not heard -/
def erN (cr sz : Int) (B : List Nat) : Nat := if unE B = 0 then (if (B.length : Int) = sz then (if ((hrC B : Nat) : Int) = cr then 0 else 10) else 1) else unE B
/-- the bytes that are gone through -/
def heG (Es : List Ed) (B : List Nat) : List Nat := goL (if (Es.getD (hrH B) ed0).x = ((hrO B : Nat) : Int) then (Es.getD (hrH B) ed0).D else []) (unD B) (hrF B)
/-- what Hear answers -/
structure HR (cr sz ma : Int) (Es : List Ed) (B : List Nat) (r0 r1 r2 : Int) (V : List Ed) (ch : Int) (Ps : List Pd) (lost : Int) (st E : Nat) : Prop where
  p : (leD cr sz ma Es = false ∧ 0 = r0 ∧ 0 = r1 ∧ 0 = r2 ∧ [] = V ∧ [] = Ps ∧ 0 = lost ∧ 0 = st ∧ 11 = E) ∨
    (leD cr sz ma Es = true ∧ erN cr sz B ≠ 0 ∧ cr = r0 ∧ sz = r1 ∧ ma = r2 ∧ Es = V ∧ [] = Ps ∧ 0 = lost ∧ 0 = st ∧ erN cr sz B = E) ∨
    (leD cr sz ma Es = true ∧ erN cr sz B = 0 ∧ hrH B = 7 ∧ cr = r0 ∧ sz = r1 ∧ (((hrM B : Nat) : Int) + 1) % 256 = r2 ∧ Es = V ∧ [] = Ps ∧ loN ma ((hrM B : Nat) : Int) = lost ∧ unS B = st ∧ 0 = E) ∨
    (leD cr sz ma Es = true ∧ erN cr sz B = 0 ∧ hrH B < 7 ∧ cr = r0 ∧ sz = r1 ∧ (((hrM B : Nat) : Int) + 1) % 256 = r2 ∧ Es.set (hrH B) ⟨(((hrO B : Nat) : Int) + 1) % 256, keL (heG Es B)⟩ = V ∧ ((spS (heG Es B).length (heG Es B)).map pdB).filter (fun p => p.ap != 2047) = Ps ∧ loN ma ((hrM B : Nat) : Int) = lost ∧ unS B = st ∧ 0 = E ∧ ((hrH B : Nat) : Int) = ch)
theorem results_cell5 {fn : Func} {p u x q y : Tmp} {ty : TypeId} (h : fn.results = #[.cell p ty, .tmp u, .tmp x, .tmp q, .tmp y]) (tmps : Array Value) (P : Program) (w : World) (a : Addr) (v vu vx vq vy : Value) (ha : tmps.getD p undef = .pointer (some a)) (hl : (loadVar ty a).run P w = .ok v w) (hu : tmps.getD u undef = vu) (hx : tmps.getD x undef = vx) (hq : tmps.getD q undef = vq) (hy : tmps.getD y undef = vy) :
    (results fn tmps).run P w = .ok (.tuple #[v, vu, vx, vq, vy]) w := by
  simp only [results, h]
  rw [Array.getD_eq_getD_getElem?] at ha hu hx hq hy
  simp [Sem.run_bind, Result.andThen]
  rw [ha]
  simp [asAddr, hl, hu, hx, hq, hy]
/-- a whole value is loaded out of a box -/
theorem ld_exec {w : World} {o : Oper} {a : Act} {t : TypeId} {p : Operand} {g : Nat} {cs : Array Value} (hop : o.op = Op.load t p) (hp : a.eval p = .pointer (some ⟨g, 0, none⟩)) (h : BxS w g t cs) {fs : Array Field} (hu : Try.prog.underlying t = some (.struct fs)) (hi : (Try.prog.info? t).map (·.size) = some cs.size) : (execOp a.eval o).run Try.prog w = .ok (.value (.agg cs)) w := by
  have hld : (Instr.loadAt t (.pointer (some ⟨g, 0, none⟩))).run Try.prog w = .ok (.agg cs) w := by
    simp only [Instr.loadAt, Instr.sureAddr, Sem.run_bind, Sem.run_pure, Result.andThen]
    exact h.load hu hi
  simp [execOp, hop, hp, hld, Result.andThen]
theorem un_sz {B : List Nat} (h : unE B = 0) : 13 ≤ B.length ∧ B.length ≤ 2048 := by
  unfold unE at h
  split at h
  · rename_i hs
    have := of_decide_eq_true hs
    omega
  · cases h
theorem un_head {B : List Nat} (h : unE B = 0) : unV B = #[.int .i64 ((hrC B : Nat) : Int), .int .i64 ((hrH B : Nat) : Int), .int .i64 ((hrM B : Nat) : Int), .int .i64 ((hrO B : Nat) : Int), .int .i64 ((hrF B : Nat) : Int)] := by
  unfold unV
  rw [if_pos h]
  rfl
theorem un_dlen {B : List Nat} (h : unE B = 0) : (unD B).length = B.length - 12 := by
  unfold unD
  rw [if_pos h, List.length_take, List.length_drop]
  have := un_sz h
  omega

set_option maxHeartbeats 32000000 in
/-- from 'packets := hearPackets(..)' on -/
theorem he_t15 {u0 u1 u3 u5 u6 u7 u8 u12 u14 u15 u16 u17 u18 u19 u20 u21 u22 u23 u24 u25 u26 u27 u28 u29 u30 u31 u32 u33 u34 u35 u36 u37 u38 u39 u40 u41 u42 u43 u44 u45 u46 u47 u48 u49 u50 u51 u52 u53 u54 u55 u56 u57 u58 u59 u60 u61 u62 u63 u64 u65 u66 u67 u68 u69 u70 u71 u72 u73 u74 u75 u76 : Value} (w w1 : World) (lo g9 gq : Nat) (cr sz ma lost : Int) (st hc hh hm ho hf : Nat) (es : List Er) (Es : List Ed) (da : Option Addr) (dm dc lod : Nat) (D : List Nat) (b2 : BxS w1 w.heap.size 43 #[.int .i64 cr, .int .i64 sz, .int .i64 ma, .slice (some ⟨gq, 0, none⟩) 7 7]) (b4 : BxS w1 (w.heap.size + 1) 43 #[.int .i64 0, .int .i64 0, .int .i64 0, .slice none 0 0]) (b9 : BxS w1 g9 28 #[.int .i64 (hc : Int), .int .i64 (hh : Int), .int .i64 (hm : Int), .int .i64 (ho : Int), .int .i64 (hf : Int)]) (hL : OwL w1 lo (some ⟨gq, 0, none⟩) 7 7 es Es) (hlo : w.heap.size + 2 ≤ lo) (hg9 : w.heap.size + 2 ≤ g9) (hDA : Ans w1 lod da dm dc D) (hdm : 1 ≤ dm ∧ dm ≤ 2036) (hho : ho ≤ 255) (hhf : hf ≤ 2047) (hhh : hh < 7) (hEs : ∀ e, e ∈ Es → e.D.length ≤ 65541) (G1 : w.grownBy w1 none)
    (r0 r1 r2 ch : Int) (V : List Ed) (Ps : List Pd) (E : Nat) (G : List Nat) (hG : G = goL (if (Es.getD hh ed0).x = (ho : Int) then (Es.getD hh ed0).D else []) D hf) (e0 : cr = r0) (e1 : sz = r1) (e2 : ma = r2) (eV : Es.set hh ⟨((ho : Int) + 1) % 256, keL G⟩ = V) (eP : ((spS G.length G).map pdB).filter (fun p => p.ap != 2047) = Ps) (eE : 0 = E) (ech : (hh : Int) = ch) :
    Code.wp Try.prog (tailR 15 (Try.f37.body.getD .skip)) (bodyPost Try.prog Try.f37 (fun r w' => ∃ (a' : Option Addr) (n' c' : Nat) (es' : List Er) (pa : Option Addr) (pn pc : Nat) (ps : List Pk), r = .returned (.tuple #[.agg #[.int .i64 r0, .int .i64 r1, .int .i64 r2, .slice a' n' c'], .slice pa pn pc, .int .i64 lost, .int .i64 (st : Int), .int .i64 (E : Int)]) ∧ OwL w' w.heap.size a' n' c' es' V ∧ OwT 66 7 w' w.heap.size pa pn pc (ps.map (Pk.he ch)) ∧ ps.map Pk.d = Ps ∧ (∀ x, Tbl (.slice pa pn pc) (ps.map (Pk.he ch)) x → ¬ Tbl (.slice a' n' c') (es'.map Er.th) x) ∧ w.grownBy w' none)) (Act.mk (List.toArray (u0 :: u1 :: (.pointer (some ⟨w.heap.size, 0, none⟩)) :: u3 :: (.pointer (some ⟨w.heap.size + 1, 0, none⟩)) :: u5 :: u6 :: u7 :: u8 :: (.pointer (some ⟨g9, 0, none⟩)) :: (.slice da dm dc) :: (.int .i64 (st : Int)) :: u12 :: (.int .i64 lost) :: u14 :: u15 :: u16 :: u17 :: u18 :: u19 :: u20 :: u21 :: u22 :: u23 :: u24 :: u25 :: u26 :: u27 :: u28 :: u29 :: u30 :: u31 :: u32 :: u33 :: u34 :: u35 :: u36 :: u37 :: u38 :: u39 :: u40 :: u41 :: u42 :: u43 :: u44 :: u45 :: u46 :: u47 :: u48 :: u49 :: u50 :: u51 :: u52 :: u53 :: u54 :: u55 :: u56 :: u57 :: u58 :: u59 :: u60 :: u61 :: u62 :: u63 :: u64 :: u65 :: u66 :: u67 :: u68 :: u69 :: u70 :: u71 :: u72 :: u73 :: u74 :: u75 :: u76 :: [])) []) w1 := by
  conv => enter [2]; whnf
  subst e0 e1 e2 eE
  have HEP : Hid _ := eP
  have HEV : Hid _ := eV
  have HCH : Hid _ := ech
  clear eP eV ech
  have i4 := Try.info_li
  have i5 := Try.info_hd
  obtain ⟨hat, hdt, hmem⟩ := hL.at hhh
  obtain ⟨e, he⟩ : ∃ e, es.getD hh er00 = e := ⟨_, rfl⟩
  rw [he] at hat hdt hmem
  have hEd : Es.getD hh ed0 = e.d := by rw [List.getD_eq_getElem?_getD, hdt]; rfl
  rw [hEd] at hG
  have hrn : e.r.n ≤ 65541 := by
    have h1 := hEs _ (List.mem_of_getElem? hdt)
    have h2 := (hL.o.each _ hmem).len
    have h2 : e.r.D.length = e.r.n := h2
    have h1 : e.r.D.length ≤ 65541 := h1
    omega
  have HG : Hid (G = goL (if e.x = (ho : Int) then e.r.D else []) D hf) := hG
  clear he hEd hG hdt
  have hh7 : (hh : Int) < 7 := by omega
  refine wp_seq_k fun K1 hK1 => ?_
  have HK1 : Hid _ := hK1
  clear hK1
  have SS : BxS w1.drew w.heap.size 43 #[.int .i64 cr, .int .i64 sz, .int .i64 ma, .slice (some ⟨gq, 0, none⟩) 7 7] ∧ BxS w1.drew g9 28 #[.int .i64 (hc : Int), .int .i64 (hh : Int), .int .i64 (hm : Int), .int .i64 (ho : Int), .int .i64 (hf : Int)] := ⟨b2.keep (grown_drew w1 none) (by simp), b9.keep (grown_drew w1 none) (by simp)⟩
  have b4d := b4.keep (grown_drew w1 none) (by simp)
  have hLd := hL.keep (grown_drew w1 none)
  have hDd := hDA.keep (grown_drew w1 none)
  have Gd := grown_trans G1 (grown_drew w1 none)
  refine wp_regionL (fun wz => BxS wz w.heap.size 43 #[.int .i64 cr, .int .i64 sz, .int .i64 ma, .slice (some ⟨gq, 0, none⟩) 7 7] ∧ BxS wz g9 28 #[.int .i64 (hc : Int), .int .i64 (hh : Int), .int .i64 (hm : Int), .int .i64 (ho : Int), .int .i64 (hf : Int)]) [] #[false, false, false, false, false, false, false, false, false] rfl (by kernel_rfl) ?_
  refine wpAnyZ_take [] 0 (.pointer (some ⟨w.heap.size, 3, none⟩)) rfl (by kernel_rfl) (fun _ _ _ h => h) SS rfl (by intro wz hz; go_simp) ?_
  try simp only [List.getElem_toArray, List.getElem_cons_succ, List.getElem_cons_zero, Act.put, List.setIfInBounds_toArray, List.set_cons_zero, List.set_cons_succ]
  refine wpAnyZ_take [] 1 (.slice (some ⟨gq, 0, none⟩) 7 7) rfl (by kernel_rfl) (fun _ _ _ h => h) SS rfl (by rintro wz ⟨hz, hy⟩; obtain ⟨z0, z1, z2, z3⟩ := BxS.cell4 hz; obtain ⟨y0, y1, y2, y3, y4⟩ := BxS.cell5 hy; go_simp) ?_
  try simp only [List.getElem_toArray, List.getElem_cons_succ, List.getElem_cons_zero, Act.put, List.setIfInBounds_toArray, List.set_cons_zero, List.set_cons_succ]
  refine wpAnyZ_take [] 2 (.pointer (some ⟨g9, 1, none⟩)) rfl (by kernel_rfl) (fun _ _ _ h => h) SS rfl (by intro wz hz; go_simp) ?_
  try simp only [List.getElem_toArray, List.getElem_cons_succ, List.getElem_cons_zero, Act.put, List.setIfInBounds_toArray, List.set_cons_zero, List.set_cons_succ]
  refine wpAnyZ_take [] 3 (.int .i64 (hh : Int)) rfl (by kernel_rfl) (fun _ _ _ h => h) SS rfl (by rintro wz ⟨hz, hy⟩; obtain ⟨z0, z1, z2, z3⟩ := BxS.cell4 hz; obtain ⟨y0, y1, y2, y3, y4⟩ := BxS.cell5 hy; go_simp) ?_
  try simp only [List.getElem_toArray, List.getElem_cons_succ, List.getElem_cons_zero, Act.put, List.setIfInBounds_toArray, List.set_cons_zero, List.set_cons_succ]
  refine wpAnyZ_take [] 4 (.pointer (some ⟨gq, hh * 2, none⟩)) rfl (by kernel_rfl) (fun _ _ _ h => h) SS rfl (by intro wz hz; go_simp) ?_
  try simp only [List.getElem_toArray, List.getElem_cons_succ, List.getElem_cons_zero, Act.put, List.setIfInBounds_toArray, List.set_cons_zero, List.set_cons_succ]
  refine wpAnyZ_take [] 5 (.agg #[.int .i64 (hc : Int), .int .i64 (hh : Int), .int .i64 (hm : Int), .int .i64 (ho : Int), .int .i64 (hf : Int)]) rfl (by kernel_rfl) (fun _ _ _ h => h) SS rfl (fun wz hz => ld_exec rfl rfl hz.2 Try.underlying28 i5) ?_
  try simp only [List.getElem_toArray, List.getElem_cons_succ, List.getElem_cons_zero, Act.put, List.setIfInBounds_toArray, List.set_cons_zero, List.set_cons_succ]
  refine wpAnyZ_take [] 6 (.slice da dm dc) rfl (by kernel_rfl) (fun _ _ _ h => h) SS rfl (by intro wz hz; go_simp) ?_
  try simp only [List.getElem_toArray, List.getElem_cons_succ, List.getElem_cons_zero, Act.put, List.setIfInBounds_toArray, List.set_cons_zero, List.set_cons_succ]
  generalize w1.drew = w2 at *
  refine wpAnyZ_oneB 7 rfl (by kernel_rfl) (fun KK hKK => ?_)
  go_simp
  go_at_call 69
  refine (hearPackets_any w2 lo gq hh es Es e (hc : Int) (hh : Int) (hm : Int) (ho : Int) hf da dm dc D hLd hat hrn lod hDd hdm (by omega) hhf G HG.out).mono ?_
  rintro rr w3 ⟨pa, pn, pc, ps, es', rfl, hP3, hpd, hL3, hdis, hpn, u3⟩
  dsimp only
  have hgq := (hLd.o.hi (x := gq) (.inl rfl)).2
  have hlt4 := b4d.lt
  have hbq : ∀ {g : Nat} {t : TypeId} {cs : Array Value}, BxS w2 g t cs → 68 ≠ t → BxS w3 g t cs := fun b ht => b.keep u3 (fun e => by
    have e := Option.some.inj e
    subst e
    obtain ⟨cs', hb⟩ := hLd.o.row
    exact BxS.apart hb b ht rfl)
  have b23 := hbq SS.1 (by decide)
  have b93 := hbq SS.2 (by decide)
  have b43 := hbq b4d (by decide)
  have G3 := grown_far Gd u3 (fun q e => by have e := Option.some.inj e; omega)
  have hz2 := Gd.size
  refine hKK _ _ (fun _ => ⟨b23, b93⟩) ?_
  try simp only [List.getElem_toArray, List.getElem_cons_succ, List.getElem_cons_zero, Act.put, List.setIfInBounds_toArray, List.set_cons_zero, List.set_cons_succ]
  refine wpAnyZ_take [] 8 (.slice pa pn pc) rfl (by kernel_rfl) (fun _ _ _ h => h) ⟨b23, b93⟩ rfl (by intro wz hz; go_simp) ?_
  try simp only [List.getElem_toArray, List.getElem_cons_succ, List.getElem_cons_zero, Act.put, List.setIfInBounds_toArray, List.set_cons_zero, List.set_cons_succ]
  refine wpAnyZ_doneB (by kernel_rfl) ?_ _
  refine HK1.out _ _ ?_
  clear HK1
  refine wp_seq_k fun K2 hK2 => ?_
  have HK2 : Hid _ := hK2
  clear hK2
  have SS3 : BxS w3.drew w.heap.size 43 #[.int .i64 cr, .int .i64 sz, .int .i64 ma, .slice (some ⟨gq, 0, none⟩) 7 7] ∧ BxS w3.drew g9 28 #[.int .i64 (hc : Int), .int .i64 (hh : Int), .int .i64 (hm : Int), .int .i64 (ho : Int), .int .i64 (hf : Int)] := ⟨b23.keep (grown_drew w3 none) (by simp), b93.keep (grown_drew w3 none) (by simp)⟩
  have b43d := b43.keep (grown_drew w3 none) (by simp)
  have hL3d := hL3.keep (grown_drew w3 none)
  have hP3d := hP3.keep (grown_drew w3 none)
  have G3d := grown_trans G3 (grown_drew w3 none)
  have hz3 : w2.heap.size ≤ w3.drew.heap.size := u3.size
  refine wp_regionL (fun wz => BxS wz w.heap.size 43 #[.int .i64 cr, .int .i64 sz, .int .i64 ma, .slice (some ⟨gq, 0, none⟩) 7 7] ∧ BxS wz g9 28 #[.int .i64 (hc : Int), .int .i64 (hh : Int), .int .i64 (hm : Int), .int .i64 (ho : Int), .int .i64 (hf : Int)]) [] #[false, false, false, false, false, false, false, false, false, false, false, false] rfl (by kernel_rfl) ?_
  refine wpAnyZ_take [] 0 (.agg #[.int .i64 cr, .int .i64 sz, .int .i64 ma, .slice (some ⟨gq, 0, none⟩) 7 7]) rfl (by kernel_rfl) (fun _ _ _ h => h) SS3 rfl (fun wz hz => ld_exec rfl rfl hz.1 Try.underlying43 i4) ?_
  try simp only [List.getElem_toArray, List.getElem_cons_succ, List.getElem_cons_zero, Act.put, List.setIfInBounds_toArray, List.set_cons_zero, List.set_cons_succ]
  refine wpAnyZ_take [] 1 (.pointer (some ⟨g9, 1, none⟩)) rfl (by kernel_rfl) (fun _ _ _ h => h) SS3 rfl (by intro wz hz; go_simp) ?_
  try simp only [List.getElem_toArray, List.getElem_cons_succ, List.getElem_cons_zero, Act.put, List.setIfInBounds_toArray, List.set_cons_zero, List.set_cons_succ]
  refine wpAnyZ_take [] 2 (.int .i64 (hh : Int)) rfl (by kernel_rfl) (fun _ _ _ h => h) SS3 rfl (by rintro wz ⟨hz, hy⟩; obtain ⟨z0, z1, z2, z3⟩ := BxS.cell4 hz; obtain ⟨y0, y1, y2, y3, y4⟩ := BxS.cell5 hy; go_simp) ?_
  try simp only [List.getElem_toArray, List.getElem_cons_succ, List.getElem_cons_zero, Act.put, List.setIfInBounds_toArray, List.set_cons_zero, List.set_cons_succ]
  refine wpAnyZ_take [] 3 (.slice pa pn pc) rfl (by kernel_rfl) (fun _ _ _ h => h) SS3 rfl (by intro wz hz; go_simp) ?_
  try simp only [List.getElem_toArray, List.getElem_cons_succ, List.getElem_cons_zero, Act.put, List.setIfInBounds_toArray, List.set_cons_zero, List.set_cons_succ]
  generalize w3.drew = w4 at *
  refine wpAnyZ_take [] 5 (.int .i64 lost) rfl (by kernel_rfl) (fun _ _ _ h => h) SS3 rfl (by intro wz hz; go_simp) ?_
  try simp only [List.getElem_toArray, List.getElem_cons_succ, List.getElem_cons_zero, Act.put, List.setIfInBounds_toArray, List.set_cons_zero, List.set_cons_succ]
  refine wpAnyZ_take [] 6 (.int .i64 (st : Int)) rfl (by kernel_rfl) (fun _ _ _ h => h) SS3 rfl (by intro wz hz; go_simp) ?_
  try simp only [List.getElem_toArray, List.getElem_cons_succ, List.getElem_cons_zero, Act.put, List.setIfInBounds_toArray, List.set_cons_zero, List.set_cons_succ]
  refine wpAnyZ_oneB 4 rfl (by kernel_rfl) (fun KK hKK => ?_)
  go_simp
  go_at_call 70
  refine (told_any (hh : Int) pa pn pc w2.heap.size ps w4 hP3d hz3 hpn).mono ?_
  rintro rr w5 ⟨ta, tn, tc, rfl, hT5, htn, g5⟩
  dsimp only
  have S5 := SS3.1.keep g5 (by simp)
  have S5b := SS3.2.keep g5 (by simp)
  refine hKK _ _ (fun _ => ⟨S5, S5b⟩) ?_
  try simp only [List.getElem_toArray, List.getElem_cons_succ, List.getElem_cons_zero, Act.put, List.setIfInBounds_toArray, List.set_cons_zero, List.set_cons_succ]
  refine wpAnyZ_oneB 7 rfl (by kernel_rfl) (fun KK hKK => ?_)
  refine step_stX _ rfl 43 _ _ rfl (w.heap.size + 1) _ #[.int .i64 cr, .int .i64 sz, .int .i64 ma, .slice (some ⟨gq, 0, none⟩) 7 7] rfl rfl (b43d.keep g5 (by simp)) i4 rfl (by simp [Value.oneCell']) ?_
  intro w6 b46 u6
  have S6 := S5.keep u6 (fun e => by have e := Option.some.inj e; omega)
  have S6b := S5b.keep u6 (fun e => by have e := Option.some.inj e; omega)
  refine hKK _ _ (fun _ => ⟨S6, S6b⟩) ?_
  try simp only [List.getElem_toArray, List.getElem_cons_succ, List.getElem_cons_zero, Act.put, List.setIfInBounds_toArray, List.set_cons_zero, List.set_cons_succ]
  refine wpAnyZ_take [] 8 (.slice ta tn tc) rfl (by kernel_rfl) (fun _ _ _ h => h) ⟨S6, S6b⟩ rfl (by intro wz hz; go_simp) ?_
  try simp only [List.getElem_toArray, List.getElem_cons_succ, List.getElem_cons_zero, Act.put, List.setIfInBounds_toArray, List.set_cons_zero, List.set_cons_succ]
  refine wpAnyZ_take [] 9 (.int .i64 lost) rfl (by kernel_rfl) (fun _ _ _ h => h) ⟨S6, S6b⟩ rfl (by intro wz hz; go_simp) ?_
  try simp only [List.getElem_toArray, List.getElem_cons_succ, List.getElem_cons_zero, Act.put, List.setIfInBounds_toArray, List.set_cons_zero, List.set_cons_succ]
  refine wpAnyZ_take [] 10 (.int .i64 (st : Int)) rfl (by kernel_rfl) (fun _ _ _ h => h) ⟨S6, S6b⟩ rfl (by intro wz hz; go_simp) ?_
  try simp only [List.getElem_toArray, List.getElem_cons_succ, List.getElem_cons_zero, Act.put, List.setIfInBounds_toArray, List.set_cons_zero, List.set_cons_succ]
  refine wpAnyZ_take [] 11 (.int .i64 0) rfl (by kernel_rfl) (fun _ _ _ h => h) ⟨S6, S6b⟩ rfl (by intro wz hz; go_simp) ?_
  try simp only [List.getElem_toArray, List.getElem_cons_succ, List.getElem_cons_zero, Act.put, List.setIfInBounds_toArray, List.set_cons_zero, List.set_cons_succ]
  refine wpAnyZ_doneB (by kernel_rfl) ?_ _
  refine HK2.out _ _ ?_
  clear HK2
  refine wp_ret ?_
  refine bodyPost_ret (results_cell5 rfl _ _ _ ⟨w.heap.size + 1, 0, none⟩ _ (.slice ta tn tc) (.int .i64 lost) (.int .i64 (st : Int)) (.int .i64 0) rfl (BxS.load (t := 43) b46 Try.underlying43 i4) rfl rfl rfl rfl) rfl ?_
  have hL6 := (hL3d.keep g5).far u6 (by omega)
  have hT6 := hT5.far u6 (by omega)
  have hV := HEV.out
  have hP := HEP.out
  have hC := HCH.out
  subst hV hP hC
  refine ⟨_, _, _, es', ta, tn, tc, noF ps, rfl, hL6.wide (by omega), hT6.wide (by omega), ?_, fun x hx e => ?_, grown_far (grown_trans G3d g5) u6 (fun q e => by have e := Option.some.inj e; omega)⟩
  · rw [noF_d, hpd]
  · rcases hx with hx | ⟨y, hy, hx⟩
    · have h1 := htn x hx
      have h2 := (hL3d.o.hi e).1
      omega
    · obtain ⟨q, hq, rfl⟩ := List.mem_map.1 hy
      exact hdis x (.inr ⟨q.th, List.mem_map_of_mem (List.mem_filter.1 hq).1, hx⟩) e

set_option maxHeartbeats 32000000 in
theorem he_t5 {u0 u3 u5 u6 u7 u8 u13 u14 u15 u16 u17 u18 u19 u20 u21 u22 u23 u24 u25 u26 u27 u28 u29 u30 u31 u32 u33 u34 u35 u36 u37 u38 u39 u40 u41 u42 u43 u44 u45 u46 u47 u48 u49 u50 u51 u52 u53 u54 u55 u56 u57 u58 u59 u60 u61 u62 u63 u64 u65 u66 u67 u68 u69 u70 u71 u72 u73 u74 u75 u76 : Value} (w w1 : World) (lo g9 gq nb cb : Nat) (b : Option Addr) (B : List Nat) (cr sz ma : Int) (es : List Er) (Es : List Ed) (da : Option Addr) (dm dc lod : Nat) (b2 : BxS w1 w.heap.size 43 #[.int .i64 cr, .int .i64 sz, .int .i64 ma, .slice (some ⟨gq, 0, none⟩) 7 7]) (b4 : BxS w1 (w.heap.size + 1) 43 #[.int .i64 0, .int .i64 0, .int .i64 0, .slice none 0 0]) (b9 : BxS w1 g9 28 #[.int .i64 ((hrC B : Nat) : Int), .int .i64 ((hrH B : Nat) : Int), .int .i64 ((hrM B : Nat) : Int), .int .i64 ((hrO B : Nat) : Int), .int .i64 ((hrF B : Nat) : Int)]) (hL : OwL w1 lo (some ⟨gq, 0, none⟩) 7 7 es Es) (hlo : w.heap.size + 2 ≤ lo) (hg9 : w.heap.size + 2 ≤ g9) (hDA : Ans w1 lod da dm dc (unD B)) (hB : IsB B) (hnb : B.length = nb) (hu : unE B = 0) (hle : leD cr sz ma Es = true) (G1 : w.grownBy w1 none)
    (r0 r1 r2 ch : Int) (V : List Ed) (Ps : List Pd) (lost : Int) (st E : Nat) (hN : HR cr sz ma Es B r0 r1 r2 V ch Ps lost st E) :
    Code.wp Try.prog (tailR 5 (Try.f37.body.getD .skip)) (bodyPost Try.prog Try.f37 (fun r w' => ∃ (a' : Option Addr) (n' c' : Nat) (es' : List Er) (pa : Option Addr) (pn pc : Nat) (ps : List Pk), r = .returned (.tuple #[.agg #[.int .i64 r0, .int .i64 r1, .int .i64 r2, .slice a' n' c'], .slice pa pn pc, .int .i64 lost, .int .i64 (st : Int), .int .i64 (E : Int)]) ∧ OwL w' w.heap.size a' n' c' es' V ∧ OwT 66 7 w' w.heap.size pa pn pc (ps.map (Pk.he ch)) ∧ ps.map Pk.d = Ps ∧ (∀ x, Tbl (.slice pa pn pc) (ps.map (Pk.he ch)) x → ¬ Tbl (.slice a' n' c') (es'.map Er.th) x) ∧ w.grownBy w' none)) (Act.mk (List.toArray (u0 :: (.slice b nb cb) :: (.pointer (some ⟨w.heap.size, 0, none⟩)) :: u3 :: (.pointer (some ⟨w.heap.size + 1, 0, none⟩)) :: u5 :: u6 :: u7 :: u8 :: (.pointer (some ⟨g9, 0, none⟩)) :: (.slice da dm dc) :: (.int .i64 ((unS B : Nat) : Int)) :: (.int .i64 0) :: u13 :: u14 :: u15 :: u16 :: u17 :: u18 :: u19 :: u20 :: u21 :: u22 :: u23 :: u24 :: u25 :: u26 :: u27 :: u28 :: u29 :: u30 :: u31 :: u32 :: u33 :: u34 :: u35 :: u36 :: u37 :: u38 :: u39 :: u40 :: u41 :: u42 :: u43 :: u44 :: u45 :: u46 :: u47 :: u48 :: u49 :: u50 :: u51 :: u52 :: u53 :: u54 :: u55 :: u56 :: u57 :: u58 :: u59 :: u60 :: u61 :: u62 :: u63 :: u64 :: u65 :: u66 :: u67 :: u68 :: u69 :: u70 :: u71 :: u72 :: u73 :: u74 :: u75 :: u76 :: [])) []) w1 := by
  conv => enter [2]; whnf
  have i4 := Try.info_li
  have i5 := Try.info_hd
  obtain ⟨l1, l2, l3, l4, l5⟩ := leD_ok hle
  have husz := un_sz hu
  have hudl := un_dlen hu
  have hdl := hDA.len
  have hm1 : hrM B ≤ 255 := by have := hB.nth 2; unfold hrM; omega
  have ho1 : hrO B ≤ 255 := by have := hB.nth 3; unfold hrO; omega
  have hf1 : hrF B ≤ 2047 := by have : hrF B < 2048 := Nat.mod_lt _ (by decide); omega
  have herN : erN cr sz B = if (nb : Int) = sz then (if ((hrC B : Nat) : Int) = cr then 0 else 10) else 1 := by unfold erN; rw [if_pos hu, hnb]
  have HN : Hid _ := hN
  clear hN
  have HG : Hid (heG Es B = goL (if (Es.getD (hrH B) ed0).x = ((hrO B : Nat) : Int) then (Es.getD (hrH B) ed0).D else []) (unD B) (hrF B)) := rfl
  by_cases hs : (nb : Int) = sz
  · rw [if_pos hs] at herN
    have bs : (((nb : Int) != sz) : Bool) = false := by simp [hs]
    by_cases hcr : ((hrC B : Nat) : Int) = cr
    · rw [if_pos hcr] at herN
      have bc : ((((hrC B : Nat) : Int) != cr) : Bool) = false := by simp [hcr]
      have HHS : Hid _ := hs
      have HHC : Hid _ := hcr
      clear hs hcr
      refine wp_seq_k fun K1 hK1 => ?_
      have HK1 : Hid _ := hK1
      clear hK1
      obtain ⟨z0, z1, z2, z3⟩ := BxS.cell4 b2
      obtain ⟨y0, y1, y2, y3, y4⟩ := BxS.cell5 b9
      go_wp2
      refine HK1.out _ _ ?_
      clear HK1
      refine wp_seq_k fun K2 hK2 => ?_
      have HK2 : Hid _ := hK2
      clear hK2
      have s0 : True := trivial
      go_wp2_with (go_at_call 67; have _t := s0; clear s0; refine (lostAhead_any ma ((hrM B : Nat) : Int) l3 (by omega) _).mono ?_; rintro e wx ⟨rfl, hw⟩; have hw := hw.symm; subst hw)
      refine HK2.out _ _ ?_
      clear HK2
      refine wp_seq_k fun K3 hK3 => ?_
      have HK3 : Hid _ := hK3
      clear hK3
      have s0 : True := trivial
      have kB := fun wz => fbehind_any ((hrM B : Nat) : Int) ((((hrM B : Nat) : Int) + 1) % 256) (show _ = _ from rfl) (by omega) (by omega) wz
      go_wp2_with (first
        | (go_at_call 68; have _t := s0; clear s0; refine (kB _).mono ?_; rintro e4 wx ⟨rfl, hw⟩; have hw := hw.symm; subst hw; have s1 : True := trivial)
        | (have _t := s1; clear s1; refine wpList_stC _ rfl _ _ _ rfl w.heap.size 2 43 _ #[.int .i64 cr, .int .i64 sz, .int .i64 ((((hrM B : Nat) : Int) + 1) % 256), .slice (some ⟨gq, 0, none⟩) 7 7] (.int .i64 ((((hrM B : Nat) : Int) + 1) % 256)) rfl rfl b2 (stc_int _ _ _) (by show 2 < 4; decide) rfl ?_; intro w2 b22 u2))
      clear z0 z1 z2 z3 y0 y1 y2 y3 y4
      have b42 := b4.keep u2 (fun e => by have e := Option.some.inj e; omega)
      have b92 := b9.keep u2 (fun e => by have e := Option.some.inj e; omega)
      have hL2 := hL.far u2 (by omega)
      have hDA2 : Ans w2 lod da dm dc (unD B) := hDA.kept u2 (by
        cases hown : (Value.slice da dm dc).ownBlock with
        | none => exact .inl rfl
        | some z => exact .inr (fun e => by rw [e] at hown; exact hDA.apart b2 (by decide) hown))
      have G2 := grown_far G1 u2 (fun q e => by have e := Option.some.inj e; omega)
      refine HK3.out _ _ ?_
      clear HK3
      obtain ⟨MA, hMA⟩ : ∃ MA, (((hrM B : Nat) : Int) + 1) % 256 = MA := ⟨_, rfl⟩
      rw [hMA] at b22
      have HMA : Hid _ := hMA
      clear hMA
      obtain ⟨lo', hlo'⟩ : ∃ lo', loN ma ((hrM B : Nat) : Int) = lo' := ⟨_, rfl⟩
      rw [hlo']
      have HLO : Hid _ := hlo'
      clear hlo'
      rcases HN.out.p with ⟨h, _⟩ | ⟨_, h, _⟩ | ⟨_, _, h7, e0, e1, e2, e3, e4, e5, e6, e7⟩ | ⟨_, _, h7, e0, e1, e2, e3, e4, e5, e6, e7, e8⟩
      · rw [hle] at h; cases h
      · exact absurd herN h
      · rw [HMA.out] at e2
        rw [HLO.out] at e5
        have h7b : ((((hrH B : Nat) : Int) == 7) : Bool) = true := by rw [h7]; rfl
        have HH7 : Hid _ := h7
        have HE6 : Hid _ := e6
        subst e0 e1 e2 e3 e4 e5 e7
        clear h7 e6
        have y1 : w2.cell? ⟨g9, 1, none⟩ = some (.int .i64 ((hrH B : Nat) : Int)) := b92.cell 1 (by show 1 < 5; decide)
        have s0 : True := trivial
        go_wp2_with (first
          | (have _t := s0; clear s0; refine wpList_ldX _ rfl _ (.tmp 2) rfl w.heap.size _ rfl b22 Try.underlying43 i4 ?_; have s1 : True := trivial)
          | (have _t := s1; clear s1; refine wpList_stX _ rfl _ (.tmp 4) (.tmp 59) rfl (w.heap.size + 1) _ _ rfl rfl b42 i4 rfl (by simp [Value.oneCell']) ?_; intro w7 b47 u7))
        refine bodyPost_ret (results_cell5 rfl _ _ _ ⟨w.heap.size + 1, 0, none⟩ _ (.slice none 0 0) (.int .i64 lo') (.int .i64 ((unS B : Nat) : Int)) (.int .i64 0) rfl (BxS.load (t := 43) b47 Try.underlying43 i4) rfl rfl rfl rfl) rfl ?_
        have hS := HE6.out
        subst hS
        exact ⟨_, _, _, es, none, 0, 0, [], rfl, (hL2.far u7 (by omega)).wide (by omega), OwT.nil _ _ _ _, rfl, (fun x hx => by rcases hx with hx | ⟨y, hy, _⟩ <;> first | (simp [Value.ownBlock] at hx) | (cases hy)), grown_far G2 u7 (fun q e => by have e := Option.some.inj e; omega)⟩
      · rw [HMA.out] at e2
        rw [HLO.out] at e5
        have h7b : ((((hrH B : Nat) : Int) == 7) : Bool) = false := by
          have : ¬ (((hrH B : Nat) : Int) = 7) := by omega
          simpa using this
        have y1 : w2.cell? ⟨g9, 1, none⟩ = some (.int .i64 ((hrH B : Nat) : Int)) := b92.cell 1 (by show 1 < 5; decide)
        have HE3 : Hid _ := e3
        have HE4 : Hid _ := e4
        have HE8 : Hid _ := e8
        have HE6 : Hid _ := e6
        have HH7 : Hid _ := h7
        subst e0 e1 e2 e5 e7
        clear e3 e4 e6 e8 h7
        refine wp_seq_k fun K4 hK4 => ?_
        have HK4 : Hid _ := hK4
        clear hK4
        go_wp2
        refine HK4.out _ _ ?_
        clear HK4
        have hS := HE6.out
        subst hS
        exact he_t15 w w2 lo g9 gq cr sz MA lo' (unS B) (hrC B) (hrH B) (hrM B) (hrO B) (hrF B) es Es da dm dc lod (unD B) b22 b42 b92 hL2 hlo hg9 hDA2 (by omega) ho1 hf1 HH7.out (fun e he => (l5 e he).2.1) G2 cr sz MA ch V Ps 0 (heG Es B) rfl rfl rfl rfl HE3.out HE4.out rfl HE8.out
    · rw [if_neg hcr] at herN
      have bc : ((((hrC B : Nat) : Int) != cr) : Bool) = true := by simpa using hcr
      have HHS : Hid _ := hs
      clear hs hcr
      have hne0 : erN cr sz B ≠ 0 := by rw [herN]; decide
      rcases HN.out.p with ⟨h, _⟩ | ⟨_, _, e0, e1, e2, e3, e4, e5, e6, e7⟩ | ⟨_, h, _⟩ | ⟨_, h, _⟩
      · rw [hle] at h; cases h
      · rw [herN] at e7
        subst e0 e1 e2 e3 e4 e5 e6 e7
        clear herN hne0
        obtain ⟨z0, z1, z2, z3⟩ := BxS.cell4 b2
        obtain ⟨y0, y1, y2, y3, y4⟩ := BxS.cell5 b9
        have s0 : True := trivial
        go_wp2_with (first
          | (have _t := s0; clear s0; refine wpList_ldX _ rfl _ (.tmp 2) rfl w.heap.size _ rfl b2 Try.underlying43 i4 ?_; have s1 : True := trivial)
          | (have _t := s1; clear s1; refine wpList_stX _ rfl _ (.tmp 4) (.tmp 46) rfl (w.heap.size + 1) _ _ rfl rfl b4 i4 rfl (by simp [Value.oneCell']) ?_; intro w7 b47 u7))
        refine bodyPost_ret (results_cell5 rfl _ _ _ ⟨w.heap.size + 1, 0, none⟩ _ (.slice none 0 0) (.int .i64 0) (.int .i64 0) (.int .i64 10) rfl (BxS.load (t := 43) b47 Try.underlying43 i4) rfl rfl rfl rfl) rfl ?_
        exact ⟨_, _, _, es, none, 0, 0, [], rfl, (hL.far u7 (by omega)).wide (by omega), OwT.nil _ _ _ _, rfl, (fun x hx => by rcases hx with hx | ⟨y, hy, _⟩ <;> first | (simp [Value.ownBlock] at hx) | (cases hy)), grown_far G1 u7 (fun q e => by have e := Option.some.inj e; omega)⟩
      · exact absurd h hne0
      · exact absurd h hne0
  · rw [if_neg hs] at herN
    have bs : (((nb : Int) != sz) : Bool) = true := by simpa using hs
    clear hs
    have hne0 : erN cr sz B ≠ 0 := by rw [herN]; decide
    rcases HN.out.p with ⟨h, _⟩ | ⟨_, _, e0, e1, e2, e3, e4, e5, e6, e7⟩ | ⟨_, h, _⟩ | ⟨_, h, _⟩
    · rw [hle] at h; cases h
    · rw [herN] at e7
      subst e0 e1 e2 e3 e4 e5 e6 e7
      clear herN hne0
      obtain ⟨z0, z1, z2, z3⟩ := BxS.cell4 b2
      obtain ⟨y0, y1, y2, y3, y4⟩ := BxS.cell5 b9
      have s0 : True := trivial
      go_wp2_with (first
        | (have _t := s0; clear s0; refine wpList_ldX _ rfl _ (.tmp 2) rfl w.heap.size _ rfl b2 Try.underlying43 i4 ?_; have s1 : True := trivial)
        | (have _t := s1; clear s1; refine wpList_stX _ rfl _ (.tmp 4) (.tmp 39) rfl (w.heap.size + 1) _ _ rfl rfl b4 i4 rfl (by simp [Value.oneCell']) ?_; intro w7 b47 u7))
      refine bodyPost_ret (results_cell5 rfl _ _ _ ⟨w.heap.size + 1, 0, none⟩ _ (.slice none 0 0) (.int .i64 0) (.int .i64 0) (.int .i64 1) rfl (BxS.load (t := 43) b47 Try.underlying43 i4) rfl rfl rfl rfl) rfl ?_
      exact ⟨_, _, _, es, none, 0, 0, [], rfl, (hL.far u7 (by omega)).wide (by omega), OwT.nil _ _ _ _, rfl, (fun x hx => by rcases hx with hx | ⟨y, hy, _⟩ <;> first | (simp [Value.ownBlock] at hx) | (cases hy)), grown_far G1 u7 (fun q e => by have e := Option.some.inj e; omega)⟩
    · exact absurd h hne0
    · exact absurd h hne0

set_option maxHeartbeats 32000000 in
theorem hear_any (cr sz ma : Int) (a : Option Addr) (n c : Nat) (Es : List Ed) (b : Option Addr) (nb cb : Nat) (B : List Nat) (w : World) (h : RdL w a n c Es) (hb : Rd w b nb cb B) (r0 r1 r2 ch : Int) (V : List Ed) (Ps : List Pd) (lost : Int) (st E : Nat) (hN : HR cr sz ma Es B r0 r1 r2 V ch Ps lost st E) :
    Calls Try.prog 37 #[.agg #[.int .i64 cr, .int .i64 sz, .int .i64 ma, .slice a n c], .slice b nb cb] w (fun r w' => ∃ (a' : Option Addr) (n' c' : Nat) (es' : List Er) (pa : Option Addr) (pn pc : Nat) (ps : List Pk), r = .returned (.tuple #[.agg #[.int .i64 r0, .int .i64 r1, .int .i64 r2, .slice a' n' c'], .slice pa pn pc, .int .i64 lost, .int .i64 (st : Int), .int .i64 (E : Int)]) ∧ OwL w' w.heap.size a' n' c' es' V ∧ OwT 66 7 w' w.heap.size pa pn pc (ps.map (Pk.he ch)) ∧ ps.map Pk.d = Ps ∧ (∀ x, Tbl (.slice pa pn pc) (ps.map (Pk.he ch)) x → ¬ Tbl (.slice a' n' c') (es'.map Er.th) x) ∧ w.grownBy w' none) := by
  have i4 := Try.info_li
  have i5 := Try.info_hd
  have b0 := BxS.new w 43 #[.int .i64 cr, .int .i64 sz, .int .i64 ma, .slice a n c]
  have g0 := World.grownBy_alloc w (.cells #[.int .i64 cr, .int .i64 sz, .int .i64 ma, .slice a n c] 43) none
  generalize hw0 : w.alloc (.cells #[.int .i64 cr, .int .i64 sz, .int .i64 ma, .slice a n c] 43) = w0 at b0 g0
  have hz0 : w0.heap.size = w.heap.size + 1 := by rw [← hw0]; simp
  have b1 := BxS.new w0 43 #[.int .i64 0, .int .i64 0, .int .i64 0, .slice none 0 0]
  have g1 := World.grownBy_alloc w0 (.cells #[.int .i64 0, .int .i64 0, .int .i64 0, .slice none 0 0] 43) none
  generalize hw1 : w0.alloc (.cells #[.int .i64 0, .int .i64 0, .int .i64 0, .slice none 0 0] 43) = w1 at b1 g1
  rw [hz0] at b1
  have sz1 : w.heap.size + 2 ≤ w1.heap.size := by rw [← hw1]; simp [hz0]
  have p0 := b0.keep g1 (by simp)
  have G1 := grown_trans g0 g1
  have h1 := h.keep G1
  have hb1 := hb.keep G1
  have HN : Hid _ := hN
  clear hN
  have kM := listenerMay2_any cr sz ma a n c Es w1 h1
  unfold liA at kM
  go_enter Try.func37, Try.ntmps37
  refine wp_seq_k fun K0 hK0 => ?_
  have HK0 : Hid _ := hK0
  clear hK0
  go_wp2
  refine HK0.out _ _ ?_
  clear HK0
  refine wp_seq_k fun K1 hK1 => ?_
  have HK1 : Hid _ := hK1
  clear hK1
  have s0 : True := trivial
  cases hle : leD cr sz ma Es with
  | false =>
    rw [hle] at kM
    rcases HN.out.p with ⟨_, e0, e1, e2, e3, e4, e5, e6, e7⟩ | ⟨h, _⟩ | ⟨h, _⟩ | ⟨h, _⟩
    · subst e0 e1 e2 e3 e4 e5 e6 e7
      go_wp2_with (first
        | (have _t := s0; clear s0; refine wpList_ldX _ rfl _ (.tmp 2) rfl w.heap.size _ rfl p0 Try.underlying43 i4 ?_; have s1 : True := trivial)
        | (go_at_call 65; have _t := s1; clear s1; refine kM.mono ?_; rintro e w2 ⟨rfl, g2⟩; have b12 := b1.keep g2 (by simp); have s2 : True := trivial)
        | (have _t := s2; clear s2; refine wpList_stX _ rfl _ (.tmp 4) (.tmp 18) rfl (w.heap.size + 1) _ _ rfl rfl b12 i4 rfl (by simp [Value.oneCell']) ?_; intro w7 b47 u7))
      refine bodyPost_ret (results_cell5 rfl _ _ _ ⟨w.heap.size + 1, 0, none⟩ _ (.slice none 0 0) (.int .i64 0) (.int .i64 0) (.int .i64 11) rfl (BxS.load (t := 43) b47 Try.underlying43 i4) rfl rfl rfl rfl) rfl ?_
      exact ⟨_, _, _, [], none, 0, 0, [], rfl, OwL.nil _ _, OwT.nil _ _ _ _, rfl, (fun x hx => by rcases hx with hx | ⟨y, hy, _⟩ <;> first | (simp [Value.ownBlock] at hx) | (cases hy)), grown_far (grown_trans G1 g2) u7 (fun q e => by have e := Option.some.inj e; omega)⟩
    · rw [hle] at h; cases h
    · rw [hle] at h; cases h
    · rw [hle] at h; cases h
  | true =>
    rw [hle] at kM
    obtain ⟨l1, l2, l3, l4, l5⟩ := leD_ok hle
    have hn7 : n = 7 := by rw [← h.len]; exact l4
    subst hn7
    go_wp2_with (first
      | (have _t := s0; clear s0; refine wpList_ldX _ rfl _ (.tmp 2) rfl w.heap.size _ rfl p0 Try.underlying43 i4 ?_; have s1 : True := trivial)
      | (go_at_call 65; have _t := s1; clear s1; refine kM.mono ?_; rintro e w2 ⟨rfl, g2⟩; have b12 := b1.keep g2 (by simp); have p02 := p0.keep g2 (by simp)))
    have h2 := h1.keep g2
    have hb2 := hb1.keep g2
    have G2 := grown_trans G1 g2
    have zz2 := g2.size
    refine HK1.out _ _ ?_
    clear HK1
    refine wp_seq_k fun K2 hK2 => ?_
    have HK2 : Hid _ := hK2
    clear hK2
    have s0 : True := trivial
    go_wp2_with (first
      | (have _t := s0; clear s0; refine wpList_ldX _ rfl _ (.tmp 2) rfl w.heap.size _ rfl p02 Try.underlying43 i4 ?_; have s1 : True := trivial)
      | (go_at_call 66; have _t := s1; clear s1; refine (copyListener_any cr sz ma a c Es w2 h2 (fun e he => by have := (l5 e he).2.1; omega)).mono ?_; rintro e w3 ⟨gq, es, rfl, hL3, g3⟩; have b13 := b12.keep g3 (by simp); have p03 := p02.keep g3 (by simp); have s2 : True := trivial)
      | (have _t := s2; clear s2; refine wpList_stX _ rfl _ (.tmp 2) (.tmp 20) rfl w.heap.size _ _ rfl rfl p03 i4 rfl (by simp [Value.oneCell']) ?_; intro w4 b24 u4))
    have b44 := b13.keep u4 (fun e => by have e := Option.some.inj e; omega)
    have hL4 := hL3.far u4 (by omega)
    have G4 := grown_far (grown_trans G2 g3) u4 (fun q e => by have e := Option.some.inj e; omega)
    have hb4 := hb.keep G4
    have zz3 := g3.size
    have zz4 := u4.size
    clear p03 p02 p0 b12 b13 b1 kM
    refine HK2.out _ _ ?_
    clear HK2
    refine wp_seq_k fun K3 hK3 => ?_
    have HK3 : Hid _ := hK3
    clear hK3
    by_cases hu : unE B = 0
    · have kU := unpack_any b nb cb B w4 hb4
      rw [un_head hu, hu] at kU
      have s0 : True := trivial
      go_wp2_with (first
        | (go_at_call 20; have _t := s0; clear s0; refine kU.mono ?_; rintro e w5 ⟨da, dn, dc, rfl, hA5, g5⟩; have bn := BxS.new w5 28 #[.int .i64 0, .int .i64 0, .int .i64 0, .int .i64 0, .int .i64 0]; have gn := World.grownBy_alloc w5 (.cells #[.int .i64 0, .int .i64 0, .int .i64 0, .int .i64 0, .int .i64 0] 28) none; generalize hw6 : w5.alloc (.cells #[.int .i64 0, .int .i64 0, .int .i64 0, .int .i64 0, .int .i64 0] 28) = w6 at bn gn; have s1 : True := trivial)
        | (have _t := s1; clear s1; refine wpList_stX _ rfl _ (.tmp 9) (.tmp 24) rfl w5.heap.size _ _ rfl rfl bn i5 rfl (by simp [Value.oneCell']) ?_; intro w7 b97 u7))
      have zz5 := g5.size
      have Y7 := grown_far (grown_trans g5 gn) u7 (fun q e => by have e := Option.some.inj e; omega)
      have hA7 := (hA5.keep gn).kept u7 (by
        cases hown : (Value.slice da dn dc).ownBlock with
        | none => exact .inl rfl
        | some z => exact .inr (fun e => by have := hA5.ltB hown; have e := Option.some.inj e; omega))
      refine HK3.out _ _ ?_
      clear HK3
      exact he_t5 w w7 w2.heap.size w5.heap.size gq nb cb b B cr sz ma es Es da dn dc w4.heap.size (b24.keep Y7 (by simp)) (b44.keep Y7 (by simp)) b97 (hL4.keep Y7) (by omega) (by omega) hA7 hb.byte hb.len hu hle (grown_trans G4 Y7) r0 r1 r2 ch V Ps lost st E HN.out
    · have kU := unpack_any b nb cb B w4 hb4
      have hV0 : unV B = heA 0 0 0 0 0 := by unfold unV; rw [if_neg hu]
      have hS0 : unS B = 0 := by unfold unS; rw [if_neg hu]
      have hD0 : unD B = [] := by unfold unD; rw [if_neg hu]
      have herN : erN cr sz B = unE B := by unfold erN; rw [if_neg hu]
      rw [hV0, hS0, hD0] at kU
      unfold heA at kU
      have hne0 : erN cr sz B ≠ 0 := by rw [herN]; exact hu
      rcases HN.out.p with ⟨h, _⟩ | ⟨_, _, e0, e1, e2, e3, e4, e5, e6, e7⟩ | ⟨_, h, _⟩ | ⟨_, h, _⟩
      · rw [hle] at h; cases h
      · rw [herN] at e7
        rw [e7] at kU
        have hE0 : (((E : Int) != 0) : Bool) = true := by
          have : ¬ ((E : Int) = 0) := by omega
          simpa using this
        subst e0 e1 e2 e3 e4 e5 e6
        clear herN hne0 hV0 hS0 hD0 e7 hu
        have s0 : True := trivial
        go_wp2_with (first
          | (go_at_call 20; have _t := s0; clear s0; refine kU.mono ?_; rintro e w5 ⟨da, dn, dc, rfl, hA5, g5⟩; have bn := BxS.new w5 28 #[.int .i64 0, .int .i64 0, .int .i64 0, .int .i64 0, .int .i64 0]; have gn := World.grownBy_alloc w5 (.cells #[.int .i64 0, .int .i64 0, .int .i64 0, .int .i64 0, .int .i64 0] 28) none; have s1 : True := trivial)
          | (have _t := s1; clear s1; refine wpList_stX _ rfl _ (.tmp 9) (.tmp 24) rfl w5.heap.size _ _ rfl rfl bn i5 rfl (by simp [Value.oneCell']) ?_; intro w7 b97 u7))
        have zz5 := g5.size
        have Y7 := grown_far (grown_trans g5 gn) u7 (fun q e => by have e := Option.some.inj e; omega)
        have b27 := b24.keep Y7 (by simp)
        have b47 := b44.keep Y7 (by simp)
        have hL7 := hL4.keep Y7
        refine HK3.out _ _ ?_
        clear HK3
        have s0 : True := trivial
        go_wp2_with (first
          | (have _t := s0; clear s0; refine wpList_ldX _ rfl _ (.tmp 2) rfl w.heap.size _ rfl b27 Try.underlying43 i4 ?_; have s1 : True := trivial)
          | (have _t := s1; clear s1; refine wpList_stX _ rfl _ (.tmp 4) (.tmp 31) rfl (w.heap.size + 1) _ _ rfl rfl b47 i4 rfl (by simp [Value.oneCell']) ?_; intro w8 b48 u8))
        refine bodyPost_ret (results_cell5 rfl _ _ _ ⟨w.heap.size + 1, 0, none⟩ _ (.slice none 0 0) (.int .i64 0) (.int .i64 0) (.int .i64 (E : Int)) rfl (BxS.load (t := 43) b48 Try.underlying43 i4) rfl rfl rfl rfl) rfl ?_
        exact ⟨_, _, _, es, none, 0, 0, [], rfl, (hL7.far u8 (by omega)).wide (by omega), OwT.nil _ _ _ _, rfl, (fun x hx => by rcases hx with hx | ⟨y, hy, _⟩ <;> first | (simp [Value.ownBlock] at hx) | (cases hy)), grown_far (grown_trans G4 Y7) u8 (fun q e => by have e := Option.some.inj e; omega)⟩
      · exact absurd h hne0
      · exact absurd h hne0
theorem ld_six {w : World} {o : Oper} {a : Act} {p : Operand} {g off : Nat} {v0 v1 v2 v3 v4 v5 : Value} (hop : o.op = Op.load 64 p) (hp : a.eval p = .pointer (some ⟨g, off, none⟩)) (h0 : w.cell? ⟨g, off, none⟩ = some v0) (h1 : w.cell? ⟨g, off + 1, none⟩ = some v1) (h2 : w.cell? ⟨g, off + 2, none⟩ = some v2) (h3 : w.cell? ⟨g, off + 3, none⟩ = some v3) (h4 : w.cell? ⟨g, off + 4, none⟩ = some v4) (h5 : w.cell? ⟨g, off + 5, none⟩ = some v5) : (execOp a.eval o).run Try.prog w = .ok (.value (.agg #[v0, v1, v2, v3, v4, v5])) w := by
  have i6 := Try.info_pk
  have u6 := Try.underlying64
  simp [execOp, hop, hp]
  go_simp
theorem OwT.seven {w : World} {lo g n c : Nat} {ch : Int} {ps : List Pk} (h : OwT 66 7 w lo (some ⟨g, 0, none⟩) n c (ps.map (Pk.he ch))) {i : Nat} {p : Pk} (hi : ps[i]? = some p) :
    w.cell? ⟨g, i * 7, none⟩ = some (.int .i64 ch) ∧ w.cell? ⟨g, i * 7 + 1, none⟩ = some (.bool p.up) ∧ w.cell? ⟨g, i * 7 + 2, none⟩ = some (.bool p.se) ∧ w.cell? ⟨g, i * 7 + 3, none⟩ = some (.int .i64 p.ap) ∧ w.cell? ⟨g, i * 7 + 4, none⟩ = some (.int .i64 p.pt) ∧ w.cell? ⟨g, i * 7 + 5, none⟩ = some (.int .i64 p.ct) ∧ w.cell? ⟨g, i * 7 + 6, none⟩ = some (.slice p.a p.n p.c) := by
  have hi' : (ps.map (Pk.he ch))[i]? = some (p.he ch) := by rw [List.getElem?_map, hi]; rfl
  exact ⟨h.cell hi' 0 (by decide), h.cell hi' 1 (by decide), h.cell hi' 2 (by decide), h.cell hi' 3 (by decide), h.cell hi' 4 (by decide), h.cell hi' 5 (by decide), h.cell hi' 6 (by decide)⟩
end Go.Proofs.Ytlmddjkplnbadaa
