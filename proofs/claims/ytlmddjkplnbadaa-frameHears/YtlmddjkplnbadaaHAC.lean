import Derived.Test.YtlmddjkplnbadaaXAG
import Derived.Test.YtlmddjkplnbadaaNHe
import Derived.Test.YtlmddjkplnbadaaZR
import Derived.Test.YtlmddjkplnbadaaZRs
namespace Go.Proofs.Ytlmddjkplnbadaa
open Go.RowKit
set_option maxRecDepth 100000
set_option linter.unusedVariables false
set_option linter.unusedSimpArgs false

/-- a thing of some cells, one of which tells bytes: its cells, and the bytes -/
structure Th where
  cs : List Value
  r : Rw
def th0 : Th := ⟨[], kr0⟩
def flT (ts : List Th) : List Value := ts.flatMap Th.cs
def SzT (k : Nat) (ts : List Th) : Prop := ∀ x, x ∈ ts → x.cs.length = k
theorem flT_len {k : Nat} {ts : List Th} (h : SzT k ts) : (flT ts).length = ts.length * k := by
  induction ts with
  | nil => simp [flT]
  | cons x ts ih =>
    have h1 := ih (fun y hy => h y (List.mem_cons_of_mem _ hy))
    have h2 := h x List.mem_cons_self
    simp only [flT, List.flatMap_cons, List.length_append, List.length_cons] at h1 ⊢
    rw [h1, h2, Nat.succ_mul, Nat.add_comm]
theorem flT_app (ts ls : List Th) : flT (ts ++ ls) = flT ts ++ flT ls := by simp [flT]
theorem flT_at {k : Nat} {ts : List Th} (hz : SzT k ts) (i : Nat) (x : Th) (h : ts[i]? = some x) (j : Nat) (hj : j < k) : (flT ts)[i * k + j]? = x.cs[j]? := by
  induction ts generalizing i with
  | nil => cases h
  | cons a ts ih =>
    have ha := hz a List.mem_cons_self
    cases i with
    | zero =>
      have h : some a = some x := h
      have h := Option.some.inj h
      subst h
      show (a.cs ++ flT ts)[0 * k + j]? = _
      rw [List.getElem?_append_left (by rw [ha, Nat.zero_mul, Nat.zero_add]; exact hj), Nat.zero_mul, Nat.zero_add]
    | succ i =>
      have h : ts[i]? = some x := h
      show (a.cs ++ flT ts)[(i + 1) * k + j]? = _
      have e : (i + 1) * k + j = i * k + j + k := by rw [Nat.succ_mul]; omega
      rw [e, List.getElem?_append_right (by rw [ha]; omega), ha, Nat.add_sub_cancel]
      exact ih (fun y hy => hz y (List.mem_cons_of_mem _ hy)) i h
theorem flT_take {k : Nat} {ts : List Th} (hz : SzT k ts) (m : Nat) : (flT ts).take (m * k) = flT (ts.take m) := by
  induction ts generalizing m with
  | nil => simp [flT]
  | cons x ts ih =>
    have hx := hz x List.mem_cons_self
    cases m with
    | zero => simp [flT]
    | succ m =>
      show (x.cs ++ flT ts).take ((m + 1) * k) = x.cs ++ flT (ts.take m)
      rw [← ih (fun y hy => hz y (List.mem_cons_of_mem _ hy)) m, List.take_append, List.take_of_length_le (by rw [hx, Nat.succ_mul]; omega)]
      congr 2
      rw [hx, Nat.succ_mul]; omega
theorem flT_drop {k : Nat} {ts : List Th} (hz : SzT k ts) (m : Nat) : (flT ts).drop (m * k) = flT (ts.drop m) := by
  induction ts generalizing m with
  | nil => simp [flT]
  | cons x ts ih =>
    have hx := hz x List.mem_cons_self
    cases m with
    | zero => simp [flT]
    | succ m =>
      show (x.cs ++ flT ts).drop ((m + 1) * k) = flT (ts.drop m)
      rw [← ih (fun y hy => hz y (List.mem_cons_of_mem _ hy)) m, List.drop_append, List.drop_of_length_le (by rw [hx, Nat.succ_mul]; omega), List.nil_append]
      congr 1
      rw [hx, Nat.succ_mul]; omega
/-- a row of things in memory of the call's own -/
structure OwT (t : TypeId) (k : Nat) (w : World) (lo : Nat) (a : Option Addr) (n c : Nat) (ts : List Th) : Prop where
  own : w.ownsRow 0 t k (.slice a n c) n (flT ts)
  len : ts.length = n
  sz : SzT k ts
  new : ∀ g, (Value.slice a n c).ownBlock = some g → lo ≤ g
  each : ∀ x, x ∈ ts → Ans w lo x.r.a x.r.n x.r.c x.r.D
  apart : ts.Pairwise fun x y => ∀ g, x.r.v.ownBlock = some g → y.r.v.ownBlock ≠ some g
/-- the blocks that they own -/
def Tbl (v : Value) (ts : List Th) (g : Nat) : Prop := v.ownBlock = some g ∨ ∃ x, x ∈ ts ∧ x.r.v.ownBlock = some g
section
variable {t : TypeId} {k : Nat} {w w' : World} {lo lo' : Nat} {a : Option Addr} {n c : Nat} {ts : List Th}
theorem OwT.nil (t : TypeId) (k : Nat) (w : World) (lo : Nat) : OwT t k w lo none 0 0 [] := ⟨World.ownsRow_nil _ _ _ _, rfl, (fun x h => by cases h), (fun g h => by simp [Value.ownBlock] at h), (fun k h => by cases h), List.Pairwise.nil⟩
theorem OwT.max (h : OwT t k w lo a n c ts) : n ≤ c ∧ c ≤ maxLen := by
  rcases h.own.2 with ⟨h1, h2⟩ | ⟨g, cap', cur, h1, _, h3, h4, h5, _⟩
  · simp only [Value.slice.injEq] at h1; obtain ⟨_, h6, h7⟩ := h1; subst h6; subst h7; exact ⟨Nat.le_refl _, Nat.zero_le _⟩
  · simp only [Value.slice.injEq] at h1; obtain ⟨_, _, h7⟩ := h1; subst h7; exact ⟨h4, h5⟩
theorem OwT.someT (h : OwT t k w lo a n c ts) (h0 : 0 < n) : ∃ g, a = some ⟨g, 0, none⟩ := by
  rcases h.own.2 with ⟨h1, h2⟩ | ⟨g, cap', cur, h1, _⟩
  · omega
  · simp only [Value.slice.injEq] at h1; exact ⟨g, h1.1⟩
theorem OwT.cell {g : Nat} (h : OwT t k w lo (some ⟨g, 0, none⟩) n c ts) {i : Nat} {x : Th} (hi : ts[i]? = some x) (j : Nat) (hj : j < k) : w.cell? ⟨g, i * k + j, none⟩ = x.cs[j]? := by
  have hl := h.sz x (List.mem_of_getElem? hi)
  have hf := flT_at h.sz i x hi j hj
  have hu : x.cs[j]? = some (x.cs[j]'(by omega)) := List.getElem?_eq_getElem (by omega)
  rw [hu] at hf ⊢
  have := h.own.cells (g := g) rfl (i * k + j) _ hf
  rw [addr_add', Nat.zero_add] at this
  exact this
theorem OwT.free {g : Nat} (h : OwT t k w lo (some ⟨g, 0, none⟩) n c ts) (i : Nat) : w.frozen? ⟨g, i, none⟩ = false := h.own.frozenAt i
theorem OwT.keep (h : OwT t k w lo a n c ts) (hg : w.grownBy w' none) : OwT t k w' lo a n c ts :=
  ⟨h.own.kept hg (by cases (Value.slice a n c).ownBlock <;> simp), h.len, h.sz, h.new, fun k hk => (h.each k hk).keep hg, h.apart⟩
theorem OwT.wide (h : OwT t k w lo a n c ts) (hl : lo' ≤ lo) : OwT t k w lo' a n c ts :=
  ⟨h.own, h.len, h.sz, fun g hg => Nat.le_trans hl (h.new g hg), fun k hk => (h.each k hk).wide hl, h.apart⟩
theorem OwT.row {g : Nat} (h : OwT t k w lo (some ⟨g, 0, none⟩) n c ts) : ∃ cs, BxS w g t cs := by
  rcases h.own.2 with ⟨h1, _⟩ | ⟨y, cap', cur, h1, _, hh, _⟩
  · simp at h1
  · simp only [Value.slice.injEq, Option.some.injEq, Addr.mk.injEq] at h1
    obtain ⟨⟨rfl, _⟩, _, rfl⟩ := h1
    exact ⟨_, hh⟩
theorem OwT.rowO (h : OwT t k w lo a n c ts) {g : Nat} (e : (Value.slice a n c).ownBlock = some g) : ∃ cs, BxS w g t cs := by
  rcases h.own.2 with ⟨h1, _⟩ | ⟨y, cap', cur, h1, _, hh, _⟩
  · rw [h1] at e; simp [Value.ownBlock] at e
  · rw [h1] at e
    have e : y = g := Option.some.inj e
    subst e
    exact ⟨_, hh⟩
theorem OwT.hi (h : OwT t k w lo a n c ts) {x : Nat} (hx : Tbl (.slice a n c) ts x) : x < w.heap.size ∧ lo ≤ x := by
  rcases hx with hx | ⟨y, hy, hx⟩
  · obtain ⟨cs, hb⟩ := h.rowO hx
    exact ⟨hb.lt, h.new x hx⟩
  · exact ⟨(h.each y hy).ltB hx, (h.each y hy).new x hx⟩
theorem OwT.fz {p : Nat → Prop} (h : OwT t k w lo a n c ts) (hF : Fz p w w') (hn : ∀ x, Tbl (.slice a n c) ts x → ¬ p x) : OwT t k w' lo a n c ts := by
  refine ⟨⟨h.own.1, ?_⟩, h.len, h.sz, h.new, fun y hy => (h.each y hy).fz hF (fun x e => hn x (.inr ⟨y, hy, e⟩)), h.apart⟩
  rcases h.own.2 with h1 | ⟨g, cap', cur, h1, h2, h3, h4⟩
  · exact .inl h1
  · refine .inr ⟨g, cap', cur, h1, h2, ?_, h4⟩
    rw [hF.block g (Array.getElem?_eq_some_iff.1 h3).1 (hn g (.inl (by rw [h1]; rfl)))]
    exact h3
theorem OwT.far {x : Nat} (h : OwT t k w lo a n c ts) (hg : w.grownBy w' (some x)) (hx : x < lo) : OwT t k w' lo a n c ts :=
  h.fz (Fz.of1 hg) (fun y hy e => by have := (h.hi hy).2; have e : y = x := e; omega)
/-- no box of another type -/
theorem OwT.box {g : Nat} {u : TypeId} {cs : Array Value} (h : OwT t k w lo a n c ts) (b : BxS w g u cs) (h0 : t ≠ u) (h2 : 5 ≠ u) : ¬ Tbl (.slice a n c) ts g := by
  rintro (e | ⟨q, hq, e⟩)
  · obtain ⟨cs', hb⟩ := h.rowO e
    exact BxS.apart hb b h0 rfl
  · exact (h.each q hq).apart b h2 e
theorem OwT.bx {g : Nat} {u : TypeId} {cs : Array Value} (h : OwT t k w lo a n c ts) (b : BxS w g u cs) (h0 : t ≠ u) (h2 : 5 ≠ u) (v : w.grownBy w' (some g)) : OwT t k w' lo a n c ts :=
  h.fz (Fz.of1 v) (fun x hx e => by rw [e] at hx; exact h.box b h0 h2 hx)
theorem OwT.getD (h : OwT t k w lo a n c ts) {i : Nat} (hi : i < n) : ts[i]? = some (ts.getD i th0) ∧ ts.getD i th0 ∈ ts := by
  have hl := h.len
  have e : ts[i]? = some (ts.getD i th0) := by rw [List.getD_eq_getElem?_getD, List.getElem?_eq_getElem (by omega)]; rfl
  exact ⟨e, List.mem_of_getElem? e⟩
/-- a thing is written into its row -/
theorem OwT.set {g i : Nat} {x' : Th} (h : OwT t k w lo (some ⟨g, 0, none⟩) n c ts) (ht : 5 ≠ t) (ho : w'.ownsRow 0 t k (.slice (some ⟨g, 0, none⟩) n c) n (flT (ts.set i x'))) (u : w.grownBy w' (some g)) (hs : x'.cs.length = k)
    (hq : Ans w lo x'.r.a x'.r.n x'.r.c x'.r.D) (hap : ∀ j y, j ≠ i → ts[j]? = some y → ∀ b, y.r.v.ownBlock = some b → x'.r.v.ownBlock ≠ some b) : OwT t k w' lo (some ⟨g, 0, none⟩) n c (ts.set i x') := by
  have hl := h.len
  have hpw := List.pairwise_iff_getElem.1 h.apart
  obtain ⟨cs, hb⟩ := h.row
  have hk : ∀ r : Rw, Ans w lo r.a r.n r.c r.D → Ans w' lo r.a r.n r.c r.D := fun r hr => hr.kept u (by
    cases e : (Value.slice r.a r.n r.c).ownBlock with
    | none => exact .inl rfl
    | some y => exact .inr (fun e2 => by rw [e2] at e; exact hr.apart hb ht e))
  refine ⟨ho, by rw [List.length_set]; exact hl, fun y hy => ?_, h.new, fun y hy => ?_, List.pairwise_iff_getElem.2 (fun p j hkl hjl hkj b hx e => ?_)⟩
  · rcases List.mem_or_eq_of_mem_set hy with hy | rfl
    · exact h.sz y hy
    · exact hs
  · rcases List.mem_or_eq_of_mem_set hy with hy | rfl
    · exact hk y.r (h.each y hy)
    · exact hk _ hq
  · have hkl' := hkl
    have hjl' := hjl
    rw [List.length_set] at hkl' hjl'
    by_cases hki : p = i
    · subst hki
      rw [List.getElem_set_self] at hx
      rw [List.getElem_set_ne (by omega)] at e
      exact hap j _ (by omega) (List.getElem?_eq_getElem hjl') b e hx
    · rw [List.getElem_set_ne (fun e => hki e.symm)] at hx
      by_cases hji : j = i
      · subst hji
        rw [List.getElem_set_self] at e
        exact hap p _ hki (List.getElem?_eq_getElem hkl') b hx e
      · rw [List.getElem_set_ne (fun e => hji e.symm)] at e
        exact hpw p j hkl' hjl' hkj b hx e
/-- a thing more -/
theorem OwT.push (h : OwT t k w lo a n c ts) (ht : 5 ≠ t) (hlo : lo ≤ w.heap.size) {g cap : Nat} (hgx : (Value.slice a n c).ownBlock = some g ∨ w.heap.size ≤ g)
    (hg : w.grownBy w' (Value.slice a n c).ownBlock) {x : Th} (hs : x.cs.length = k) (hx : Ans w lo x.r.a x.r.n x.r.c x.r.D) (hap : ∀ y, y ∈ ts → ∀ b, y.r.v.ownBlock = some b → x.r.v.ownBlock ≠ some b)
    (hown : w'.ownsRow 0 t k (.slice (some ⟨g, 0, none⟩) (n + 1) cap) (n + 1) (flT ts ++ x.cs)) : OwT t k w' lo (some ⟨g, 0, none⟩) (n + 1) cap (ts ++ [x]) := by
  have hty : ∀ r : Rw, Ans w lo r.a r.n r.c r.D → Ans w' lo r.a r.n r.c r.D := fun r hr => hr.kept hg (by
    cases e : (Value.slice r.a r.n r.c).ownBlock with
    | none => exact .inl rfl
    | some y => exact .inr (fun e2 => by
        obtain ⟨cs, hb⟩ := h.rowO e2.symm
        exact hr.apart hb ht e))
  refine ⟨by rw [flT_app]; simpa [flT] using hown, by simp [h.len], fun y hy => ?_, fun y hy => ?_, fun q hq => ?_, List.pairwise_append.2 ⟨h.apart, List.pairwise_singleton _ _, fun r hr s hs => by rw [List.mem_singleton.1 hs]; exact hap r hr⟩⟩
  · rcases List.mem_append.1 hy with hy | hy
    · exact h.sz y hy
    · rw [List.mem_singleton.1 hy]; exact hs
  · have e : g = y := Option.some.inj hy
    subst e
    rcases hgx with h1 | h1
    · exact h.new g h1
    · omega
  · rcases List.mem_append.1 hq with hq | hq
    · exact hty q.r (h.each q hq)
    · have hq := List.mem_singleton.1 hq
      subst hq
      exact hty q.r hx
end
theorem cells_row (t : TypeId) (w : World) (L : List Value) : ∀ j u, L[j]? = some u → (w.alloc (.cells L.toArray t)).cell? ((⟨w.heap.size, 0, none⟩ : Addr).add j) = some u := by
  intro j u hu
  rw [addr_add', Nat.zero_add]
  have b := BxS.new w t L.toArray
  have hj : j < L.length := (List.getElem?_eq_some_iff.1 hu).1
  rw [b.cell j (by simpa using hj)]
  rw [← hu]
  simp
/-- 'append(v, x)' -/
theorem wpList_psT (ty t : TypeId) (k by' : Nat) (z : Value) (hu : Try.prog.underlying ty = some (.slice t)) (hinf : (Try.prog.info? t).map (fun i => (i.zero, i.size, i.bytes)) = some (some z, k, by')) (hzs : z.cells.size = k) (hk0 : 0 < k) (ht : 5 ≠ t)
    (w : World) (lo : Nat) (e : Th) {ops : Array Oper} {rest : List Oper} {o : Oper} {a : Act} {Q : Exit → Act → World → Prop} (hg : o.guard = none) (s x : Operand)
    (hop : o.op = Op.call { callee := .builtin .append, args := #[s, x], argTypes := #[ty, ty] }) (ao : Option Addr) (m co : Nat) (ts : List Th) (hs : a.eval s = .slice ao m co)
    (hA : OwT t k w lo ao m co ts) (hlo : lo ≤ w.heap.size) (hx : a.eval x = .slice (some ⟨w.heap.size, 0, none⟩) 1 1) (hb : (m + 1) * by' ≤ 140737488355328) (hb1 : m + 1 ≤ maxLen) (cs : Array Value) (hcs : cs = e.cs.toArray) (hes : e.cs.length = k) (he1 : ∀ u, u ∈ e.cs → u.oneCell' = true) (he : Ans w lo e.r.a e.r.n e.r.c e.r.D) (hap : ∀ y, y ∈ ts → ∀ b, y.r.v.ownBlock = some b → e.r.v.ownBlock ≠ some b)
    (hK : ∀ gx cx w', OwT t k w' lo (some ⟨gx, 0, none⟩) (m + 1) cx (ts ++ [e]) → w.grownBy w' (Value.slice ao m co).ownBlock → ((Value.slice ao m co).ownBlock = some gx ∨ w.heap.size ≤ gx) → wpList Try.prog ops Q rest (a.put o.dst (.slice (some ⟨gx, 0, none⟩) (m + 1) cx)) w') :
    wpList Try.prog ops Q (o :: rest) a (w.alloc (.cells cs t)) := by
  subst hcs
  obtain ⟨i0, hi, hz0, hz1, hz2⟩ := info_parts hinf
  have gA := World.grownBy_alloc w (.cells e.cs.toArray t) none
  refine wpList_apS _ hg s x ty t i0 _ k by' hu hi hz0 hz1 hz2 hzs hk0 hop (.slice ao m co) m (flT ts) hs (hA.own.alloc _) ⟨w.heap.size, 0, none⟩ 1 1 e.cs hx (by rw [hes, Nat.one_mul]) (cells_row t w e.cs) he1 (by decide) hb1 hb ?_
  intro gx cx w' hgx hgr hown
  have hsz := gA.size
  have hor : (Value.slice ao m co).ownBlock = some gx ∨ w.heap.size ≤ gx := by
    rcases hgx with h | h
    · exact .inl h
    · exact .inr (by omega)
  have hgr' := grown_trans (grown_weak gA (Value.slice ao m co).ownBlock) hgr
  exact hK gx cx w' (hA.push ht hlo hor hgr' hes he hap hown) hgr' hor
/-- the same, in a region that draws -/
theorem step_psT (ty t : TypeId) (k by' : Nat) (z : Value) (hu : Try.prog.underlying ty = some (.slice t)) (hinf : (Try.prog.info? t).map (fun i => (i.zero, i.size, i.bytes)) = some (some z, k, by')) (hzs : z.cells.size = k) (hk0 : 0 < k) (ht : 5 ≠ t)
    (w : World) (lo : Nat) (e : Th) {ops : Array Oper} {o : Oper} {a : Act} {K : Act → World → Prop} {Q : Exit → Act → World → Prop} {E : Prop} (hg : o.guard = none) (s x : Operand)
    (hop : o.op = Op.call { callee := .builtin .append, args := #[s, x], argTypes := #[ty, ty] }) (ao : Option Addr) (m co : Nat) (ts : List Th) (hs : a.eval s = .slice ao m co)
    (hA : OwT t k w lo ao m co ts) (hlo : lo ≤ w.heap.size) (hx : a.eval x = .slice (some ⟨w.heap.size, 0, none⟩) 1 1) (hb : (m + 1) * by' ≤ 140737488355328) (hb1 : m + 1 ≤ maxLen) (cs : Array Value) (hcs : cs = e.cs.toArray) (hes : e.cs.length = k) (he1 : ∀ u, u ∈ e.cs → u.oneCell' = true) (he : Ans w lo e.r.a e.r.n e.r.c e.r.D) (hap : ∀ y, y ∈ ts → ∀ b, y.r.v.ownBlock = some b → e.r.v.ownBlock ≠ some b)
    (hK : ∀ gx cx w', OwT t k w' lo (some ⟨gx, 0, none⟩) (m + 1) cx (ts ++ [e]) → w.grownBy w' (Value.slice ao m co).ownBlock → ((Value.slice ao m co).ownBlock = some gx ∨ w.heap.size ≤ gx) → K (a.put o.dst (.slice (some ⟨gx, 0, none⟩) (m + 1) cx)) w') :
    if Region.wanted o (yielded ops a.tmps) = true then Oper.wp Try.prog o a (w.alloc (.cells cs t)) K Q else E := by
  subst hcs
  obtain ⟨i0, hi, hz0, hz1, hz2⟩ := info_parts hinf
  have gA := World.grownBy_alloc w (.cells e.cs.toArray t) none
  refine step_apS _ hg s x ty t i0 _ k by' hu hi hz0 hz1 hz2 hzs hk0 hop (.slice ao m co) m (flT ts) hs (hA.own.alloc _) ⟨w.heap.size, 0, none⟩ 1 1 e.cs hx (by rw [hes, Nat.one_mul]) (cells_row t w e.cs) he1 (by decide) hb1 hb ?_
  intro gx cx w' hgx hgr hown
  have hsz := gA.size
  have hor : (Value.slice ao m co).ownBlock = some gx ∨ w.heap.size ≤ gx := by
    rcases hgx with h | h
    · exact .inl h
    · exact .inr (by omega)
  have hgr' := grown_trans (grown_weak gA (Value.slice ao m co).ownBlock) hgr
  exact hK gx cx w' (hA.push ht hlo hor hgr' hes he hap hown) hgr' hor
theorem setCells_ownT {t : TypeId} {k g n cap : Nat} {ts : List Th} {w : World} (h : w.ownsRow 0 t k (.slice (some ⟨g, 0, none⟩) n cap) n (flT ts)) (hz : SzT k ts) (hl : ts.length = n) (i : Nat) (hi : i < n) (x : Th) (hx : x.cs.length = k) : (w.setCells g (i * k) x.cs).ownsRow 0 t k (.slice (some ⟨g, 0, none⟩) n cap) n (flT (ts.set i x)) ∧ w.grownBy (w.setCells g (i * k) x.cs) (some g) := by
  have hsp : ∀ (vs : List Value) (o : Nat) (w : World) (X : List Value), w.ownsRow 0 t k (.slice (some ⟨g, 0, none⟩) n cap) n X → o + vs.length ≤ n * k → (w.setCells g o vs).ownsRow 0 t k (.slice (some ⟨g, 0, none⟩) n cap) n (X.take o ++ vs ++ X.drop (o + vs.length)) ∧ w.grownBy (w.setCells g o vs) (some g) := by
    intro vs
    induction vs with
    | nil =>
      intro o w X h ho
      refine ⟨?_, World.grownBy.refl _ _⟩
      rw [List.append_nil, List.length_nil, Nat.add_zero, List.take_append_drop]
      exact h
    | cons v vs ih =>
      intro o w X h ho
      rw [List.length_cons] at ho
      have hX := h.1
      have h1 : (w.setCell ⟨g, o, none⟩ v).ownsRow 0 t k (.slice (some ⟨g, 0, none⟩) n cap) n (X.set o v) := by
        refine ⟨by rw [List.length_set]; exact h.1, ?_⟩
        rcases h.2 with ⟨h1, _⟩ | ⟨g', cap', cur, h1, h2, h3, h4, h5, h6, h7⟩
        · simp at h1
        · simp only [Value.slice.injEq, Option.some.injEq, Addr.mk.injEq] at h1
          obtain ⟨⟨rfl, _⟩, _, rfl⟩ := h1
          refine .inr ⟨g, cap, cur.setIfInBounds o v, rfl, h2, heap_setCell_same w g o _ _ _ h3, h4, h5, by simpa using h6, ?_⟩
          rw [← h7, Array.toList_setIfInBounds, List.take_set]
      obtain ⟨k1, k2⟩ := ih (o + 1) _ _ h1 (by omega)
      refine ⟨?_, grown_trans (grown_set w g o v) k2⟩
      have e : (X.set o v).take (o + 1) ++ vs ++ (X.set o v).drop (o + 1 + vs.length) = X.take o ++ (v :: vs) ++ X.drop (o + (v :: vs).length) := by
        rw [List.drop_set_of_lt (by omega), List.take_add_one, List.take_set_of_le (Nat.le_refl _), List.getElem?_set_self (by omega), List.length_cons, show o + 1 + vs.length = o + (vs.length + 1) by omega]
        simp
      rw [← e]
      exact k1
  have hik : i * k + k ≤ n * k := by rw [← Nat.succ_mul]; exact Nat.mul_le_mul_right k hi
  obtain ⟨k1, k2⟩ := hsp x.cs (i * k) w _ h (by rw [hx]; exact hik)
  refine ⟨?_, k2⟩
  have e : flT (ts.set i x) = (flT ts).take (i * k) ++ x.cs ++ (flT ts).drop (i * k + x.cs.length) := by
    rw [flT_take hz, show i * k + x.cs.length = (i + 1) * k by rw [hx, Nat.succ_mul], flT_drop hz, List.set_eq_take_append_cons_drop, if_pos (by omega), flT_app]
    show flT (ts.take i) ++ (x.cs ++ flT (ts.drop (i + 1))) = _
    rw [List.append_assoc]
  rw [e]
  exact k1
theorem run_stT {t : TypeId} {k : Nat} (hinf : (Try.prog.info? t).map (fun i => i.size) = some k) (w : World) (g o : Nat) (L : List Value) (hL : L.length = k) (h1 : ∀ v, v ∈ L → v.oneCell' = true) (hc : ∀ j, j < k → (w.cell? ⟨g, o + j, none⟩).isSome = true) (hf : ∀ j, j < k → w.frozen? ⟨g, o + j, none⟩ = false) :
    (Instr.storeAt t (.pointer (some ⟨g, o, none⟩)) (.agg L.toArray)).run Try.prog w = .ok () (w.setCells g o L) := by
  have hst := run_storeCells_cells (P := Try.prog) g o L 0 w (by simpa [hL] using hc) (by simpa [hL] using hf) h1
  simp only [Nat.add_zero] at hst
  cases hq : Try.prog.info? t with
  | none => simp [hq] at hinf
  | some i =>
    have hs : k = i.size := by simp [hq] at hinf; omega
    simp [Instr.storeAt, Instr.sureAddr, storeVar, sizeOf, typeInfo, hq, Value.cells, ← hs, hL, hst]
/-- a thing is stored into a row of them -/
theorem wpList_stTh {t : TypeId} {k : Nat} (hinf : (Try.prog.info? t).map (fun i => i.size) = some k) (w : World) {ops : Array Oper} {rest : List Oper} {o : Oper} {a : Act} {Q : Exit → Act → World → Prop} (hg : o.guard = none) (p x : Operand) (hop : o.op = Op.store t p x)
    (g i n cap off : Nat) (ts : List Th) (e : Th) (hoff : off = i * k) (hp : a.eval p = .pointer (some ⟨g, off, none⟩)) (vs : Array Value) (hx : a.eval x = .agg vs) (hvs : vs = e.cs.toArray) (hes : e.cs.length = k) (he1 : ∀ u, u ∈ e.cs → u.oneCell' = true) (h : w.ownsRow 0 t k (.slice (some ⟨g, 0, none⟩) n cap) n (flT ts)) (hz : SzT k ts) (hl : ts.length = n) (hi : i < n)
    (hK : ∀ w', w'.ownsRow 0 t k (.slice (some ⟨g, 0, none⟩) n cap) n (flT (ts.set i e)) → w.grownBy w' (some g) → wpList Try.prog ops Q rest (a.put o.dst undef) w') :
    wpList Try.prog ops Q (o :: rest) a w := by
  subst hvs
  subst hoff
  refine wpList_plain hg fun K hK' => ?_
  obtain ⟨k1, k2⟩ := setCells_ownT h hz hl i hi e hes
  have hik : i * k + k ≤ n * k := by rw [← Nat.succ_mul]; exact Nat.mul_le_mul_right k hi
  have hst : (Instr.storeAt t (.pointer (some ⟨g, i * k, none⟩)) (.agg e.cs.toArray)).run Try.prog w = .ok () (w.setCells g (i * k) e.cs) := by
    rcases h.2 with ⟨h1, _⟩ | ⟨g', cap', cur, h1, _, h3, h4, _, h6, _⟩
    · simp at h1
    · simp only [Value.slice.injEq, Option.some.injEq, Addr.mk.injEq] at h1
      obtain ⟨⟨rfl, _⟩, _, rfl⟩ := h1
      have hnk : n * k ≤ cap * k := Nat.mul_le_mul_right k h4
      refine run_stT hinf w g (i * k) e.cs hes he1 (fun j hj => ?_) (fun j hj => frozen_of_row w g _ _ _ h3)
      rw [cell_of_row _ _ _ _ _ _ h3, Array.getElem?_eq_getElem (by omega)]
      rfl
  unfold Oper.wp
  simp [execOp, hop, hp, hx, hst, Result.andThen]
  exact hK' _ _ (hK _ k1 k2)

/-- an ear as data -/
structure Ed where
  x : Int
  D : List Nat
def ed0 : Ed := ⟨0, []⟩
def Er.d (e : Er) : Ed := ⟨e.x, e.r.D⟩
def Er.th (e : Er) : Th := ⟨[.int .i64 e.x, .slice e.r.a e.r.n e.r.c], e.r⟩
def er00 : Er := ⟨0, kr0⟩
structure RdL (w : World) (a : Option Addr) (n c : Nat) (Es : List Ed) : Prop where
  len : Es.length = n
  ex : ∃ F : Nat → Er, RdE w a n c F ∧ ∀ i, i < n → (F i).x = (Es.getD i ed0).x ∧ (F i).r.D = (Es.getD i ed0).D
/-- ears in memory of the call's own -/
structure OwL (w : World) (lo : Nat) (a : Option Addr) (n c : Nat) (es : List Er) (Es : List Ed) : Prop where
  o : OwT 68 2 w lo a n c (es.map Er.th)
  d : es.map Er.d = Es
theorem RdL.keep {w w' : World} {a : Option Addr} {n c : Nat} {Es : List Ed} (h : RdL w a n c Es) (hg : w.grownBy w' none) : RdL w' a n c Es := by
  obtain ⟨F, h1, h2⟩ := h.ex
  exact ⟨h.len, F, h1.keep hg, h2⟩
section
variable {w w' : World} {lo lo' : Nat} {a : Option Addr} {n c : Nat} {es : List Er} {Es : List Ed}
theorem OwL.keep (h : OwL w lo a n c es Es) (hg : w.grownBy w' none) : OwL w' lo a n c es Es := ⟨h.o.keep hg, h.d⟩
theorem OwL.wide (h : OwL w lo a n c es Es) (hl : lo' ≤ lo) : OwL w lo' a n c es Es := ⟨h.o.wide hl, h.d⟩
theorem OwL.fz {p : Nat → Prop} (h : OwL w lo a n c es Es) (hF : Fz p w w') (hn : ∀ x, Tbl (.slice a n c) (es.map Er.th) x → ¬ p x) : OwL w' lo a n c es Es := ⟨h.o.fz hF hn, h.d⟩
theorem OwL.far {x : Nat} (h : OwL w lo a n c es Es) (hg : w.grownBy w' (some x)) (hx : x < lo) : OwL w' lo a n c es Es := ⟨h.o.far hg hx, h.d⟩
theorem OwL.bx {g : Nat} {u : TypeId} {cs : Array Value} (h : OwL w lo a n c es Es) (b : BxS w g u cs) (h0 : 68 ≠ u) (h2 : 5 ≠ u) (v : w.grownBy w' (some g)) : OwL w' lo a n c es Es := ⟨h.o.bx b h0 h2 v, h.d⟩
theorem OwL.lenE (h : OwL w lo a n c es Es) : es.length = n := by have := h.o.len; rw [List.length_map] at this; exact this
theorem OwL.len (h : OwL w lo a n c es Es) : Es.length = n := by rw [← h.d, List.length_map]; exact h.lenE
theorem OwL.cell {g : Nat} (h : OwL w lo (some ⟨g, 0, none⟩) n c es Es) {i : Nat} {e : Er} (hi : es[i]? = some e) : w.cell? ⟨g, i * 2, none⟩ = some (.int .i64 e.x) ∧ w.cell? ⟨g, i * 2 + 1, none⟩ = some (.slice e.r.a e.r.n e.r.c) := by
  have hi' : (es.map Er.th)[i]? = some e.th := by rw [List.getElem?_map, hi]; rfl
  exact ⟨h.o.cell hi' 0 (by decide), h.o.cell hi' 1 (by decide)⟩
theorem OwL.at (h : OwL w lo a n c es Es) {i : Nat} (hi : i < n) : es[i]? = some (es.getD i er00) ∧ Es[i]? = some (es.getD i er00).d ∧ (es.getD i er00).th ∈ es.map Er.th := by
  have hl := h.lenE
  have e : es[i]? = some (es.getD i er00) := by rw [List.getD_eq_getElem?_getD, List.getElem?_eq_getElem (by omega)]; rfl
  refine ⟨e, ?_, List.mem_map_of_mem (List.mem_of_getElem? e)⟩
  rw [← h.d, List.getElem?_map, e]; rfl
theorem OwL.rd (h : OwL w lo a n c es Es) : RdL w a n c Es := by
  have hm := h.o.max
  refine ⟨h.len, fun i => es.getD i er00, ⟨hm.1, hm.2, fun h0 => ?_, fun i hi => ?_⟩, fun i hi => ?_⟩
  · obtain ⟨g, rfl⟩ := h.o.someT h0
    have hb := (h.o.hi (x := g) (.inl rfl)).1
    refine ⟨g, 0, rfl, hb, fun i hi => ?_⟩
    rw [Nat.zero_add]
    exact h.cell (h.at hi).1
  · exact (h.o.each _ (h.at hi).2.2).rd
  · have := (h.at hi).2.1
    have e : Es.getD i ed0 = (es.getD i er00).d := by rw [List.getD_eq_getElem?_getD, this]; rfl
    rw [e]
    exact ⟨rfl, rfl⟩
end
theorem RdL.nil (w : World) : RdL w none 0 0 [] := ⟨rfl, fun _ => er00, ⟨Nat.le_refl _, Nat.zero_le _, fun h => by omega, fun i h => by omega⟩, fun i h => by omega⟩
theorem OwL.nil (w : World) (lo : Nat) : OwL w lo none 0 0 [] [] := ⟨OwT.nil _ _ _ _, rfl⟩
theorem sameListener2_any (cr sz ma : Int) (a b : Option Addr) (n m cap cap' : Nat) (Es : List Ed) (w : World) (h : RdL w a n cap Es) (k : RdL w b m cap' Es) :
    Calls Try.prog 26 #[.agg (liA cr sz ma a n cap), .agg (liA cr sz ma b m cap')] w fun e w' => e = .returned (.bool true) ∧ w.grownBy w' none := by
  have e : n = m := by rw [← h.len, ← k.len]
  subst e
  obtain ⟨F, h1, h2⟩ := h.ex
  obtain ⟨G, k1, k2⟩ := k.ex
  refine sameListener_any cr sz ma a b n cap cap' F G w h1 k1 (fun i hi => ?_)
  obtain ⟨a1, a2⟩ := h2 i hi
  obtain ⟨b1, b2⟩ := k2 i hi
  exact ⟨by rw [a1, b1], by rw [a2, b2]⟩
/-- which listeners may be, as data -/
def erD (e : Ed) : Bool := exB e.x && decide (e.D.length ≤ 65541) && !(decide (e.x = -1) && decide (0 < e.D.length))
def leD (cr sz ma : Int) (Es : List Ed) : Bool := decide (opE cr sz = 0) && exB ma && decide (Es.length = 7) && Es.all erD
theorem alE_eq (F : Nat → Er) (Es : List Ed) (n : Nat) (hn : n ≤ Es.length) (h : ∀ j, j < n → erB (F j) = erD (Es.getD j ed0)) : alE F n = (Es.take n).all erD := by
  induction n with
  | zero => rfl
  | succ n ih =>
    show (alE F n && erB (F n)) = _
    rw [ih (by omega) (fun j hj => h j (by omega)), h n (by omega), List.take_add_one, List.all_append, List.getD_eq_getElem?_getD]
    rw [List.getElem?_eq_getElem (by omega)]
    simp
theorem leB_leD {w : World} {a : Option Addr} {n c : Nat} {F : Nat → Er} {Es : List Ed} (cr sz ma : Int) (hl : Es.length = n) (h1 : RdE w a n c F) (h2 : ∀ i, i < n → (F i).x = (Es.getD i ed0).x ∧ (F i).r.D = (Es.getD i ed0).D) : leB cr sz ma n F = leD cr sz ma Es := by
  unfold leB leD
  rw [alE_eq F Es n (by omega) (fun j hj => ?_), List.take_of_length_le (by omega), hl]
  unfold erB erD
  have hn := (h1.data j hj).len
  rw [← hn, (h2 j hj).1, (h2 j hj).2]
theorem listenerMay2_any (cr sz ma : Int) (a : Option Addr) (n cap : Nat) (Es : List Ed) (w : World) (h : RdL w a n cap Es) :
    Calls Try.prog 65 #[.agg (liA cr sz ma a n cap)] w fun e w' => e = .returned (.bool (leD cr sz ma Es)) ∧ w.grownBy w' none := by
  obtain ⟨F, h1, h2⟩ := h.ex
  rw [← leB_leD cr sz ma h.len h1 h2]
  exact listenerMay_any cr sz ma a n cap F w h1
theorem rlistenerMay2_any (cr sz ma : Int) (a : Option Addr) (n cap : Nat) (Es : List Ed) (w : World) (h : RdL w a n cap Es) :
    Calls Try.prog 62 #[.agg (liA cr sz ma a n cap)] w fun e w' => e = .returned (.bool (leD cr sz ma Es)) ∧ w.grownBy w' none := by
  obtain ⟨F, h1, h2⟩ := h.ex
  rw [← leB_leD cr sz ma h.len h1 h2]
  exact rlistenerMay_any cr sz ma a n cap F w h1
theorem leD_ok {cr sz ma : Int} {Es : List Ed} (h : leD cr sz ma Es = true) : (0 ≤ cr ∧ cr ≤ 1023) ∧ (13 ≤ sz ∧ sz ≤ 2048) ∧ (-1 ≤ ma ∧ ma ≤ 255) ∧ Es.length = 7 ∧ ∀ e, e ∈ Es → (-1 ≤ e.x ∧ e.x ≤ 255) ∧ e.D.length ≤ 65541 ∧ (e.x = -1 → e.D = []) := by
  unfold leD exB at h
  simp only [Bool.and_eq_true, decide_eq_true_eq, List.all_eq_true] at h
  obtain ⟨⟨⟨h1, h2⟩, h3⟩, h4⟩ := h
  unfold opE at h1
  split at h1
  · rename_i q1
    split at h1
    · rename_i q2
      refine ⟨of_decide_eq_true q1, of_decide_eq_true q2, h2, h3, fun e he => ?_⟩
      have := h4 e he
      unfold erD exB at this
      simp only [Bool.and_eq_true, decide_eq_true_eq, Bool.not_eq_true', Bool.and_eq_false_iff, decide_eq_false_iff_not] at this
      obtain ⟨⟨t1, t2⟩, t3⟩ := this
      refine ⟨t1, t2, fun ex => ?_⟩
      rcases t3 with t3 | t3
      · exact absurd ex t3
      · exact List.eq_nil_of_length_eq_zero (by omega)
    · cases h1
  · cases h1
theorem Try.info_ea3 : (Try.prog.info? 68).map (fun i => (i.zero, i.size, i.bytes)) = some (some (.agg #[.int .i64 0, .slice none 0 0]), 2, 32) := by kernel_rfl
theorem Try.info_ea2 : (Try.prog.info? 68).map (fun i => i.size) = some 2 := by kernel_rfl
theorem made_ef : (madeCells (Value.agg #[.int .i64 0, .slice none 0 0]).cells (7 * 2)).toList = flT ((List.replicate 7 er00).map Er.th) := by kernel_rfl
theorem OwT.zerosE {w : World} {lo g : Nat} (h : w.ownsRow 0 68 2 (.slice (some ⟨g, 0, none⟩) 7 7) 7 (flT ((List.replicate 7 er00).map Er.th))) (hl : lo ≤ g) : OwT 68 2 w lo (some ⟨g, 0, none⟩) 7 7 ((List.replicate 7 er00).map Er.th) := by
  rw [List.map_replicate] at h ⊢
  refine ⟨h, List.length_replicate, fun x hx => by rw [(List.mem_replicate.1 hx).2]; rfl, fun x e => by have e : g = x := Option.some.inj e; omega, fun r hr => ?_, ?_⟩
  · rw [(List.mem_replicate.1 hr).2]; exact ans_nil _ _
  · refine List.pairwise_iff_getElem.2 (fun i j hi hj _ y e => ?_)
    rw [List.getElem_replicate] at e
    simp [Er.th, er00, kr0, Rw.v, Value.ownBlock] at e
/-- a thing is stored into a row of them, in a region that draws -/
theorem step_stTh {t : TypeId} {k : Nat} (hinf : (Try.prog.info? t).map (fun i => i.size) = some k) (w : World) {ops : Array Oper} {o : Oper} {a : Act} {K : Act → World → Prop} {Q : Exit → Act → World → Prop} {E : Prop} (hg : o.guard = none) (p x : Operand) (hop : o.op = Op.store t p x)
    (g i n cap off : Nat) (ts : List Th) (e : Th) (hoff : off = i * k) (hp : a.eval p = .pointer (some ⟨g, off, none⟩)) (vs : Array Value) (hx : a.eval x = .agg vs) (hvs : vs = e.cs.toArray) (hes : e.cs.length = k) (he1 : ∀ u, u ∈ e.cs → u.oneCell' = true) (h : w.ownsRow 0 t k (.slice (some ⟨g, 0, none⟩) n cap) n (flT ts)) (hz : SzT k ts) (hl : ts.length = n) (hi : i < n)
    (hK : ∀ w', w'.ownsRow 0 t k (.slice (some ⟨g, 0, none⟩) n cap) n (flT (ts.set i e)) → w.grownBy w' (some g) → K (a.put o.dst undef) w') :
    if Region.wanted o (yielded ops a.tmps) = true then Oper.wp Try.prog o a w K Q else E := by
  subst hvs
  subst hoff
  have hw : Region.wanted o (yielded ops a.tmps) = true := by simp [Region.wanted, hg]
  rw [if_pos hw]
  obtain ⟨k1, k2⟩ := setCells_ownT h hz hl i hi e hes
  have hik : i * k + k ≤ n * k := by rw [← Nat.succ_mul]; exact Nat.mul_le_mul_right k hi
  have hst : (Instr.storeAt t (.pointer (some ⟨g, i * k, none⟩)) (.agg e.cs.toArray)).run Try.prog w = .ok () (w.setCells g (i * k) e.cs) := by
    rcases h.2 with ⟨h1, _⟩ | ⟨g', cap', cur, h1, _, h3, h4, _, h6, _⟩
    · simp at h1
    · simp only [Value.slice.injEq, Option.some.injEq, Addr.mk.injEq] at h1
      obtain ⟨⟨rfl, _⟩, _, rfl⟩ := h1
      have hnk : n * k ≤ cap * k := Nat.mul_le_mul_right k h4
      refine run_stT hinf w g (i * k) e.cs hes he1 (fun j hj => ?_) (fun j hj => frozen_of_row w g _ _ _ h3)
      rw [cell_of_row _ _ _ _ _ _ h3, Array.getElem?_eq_getElem (by omega)]
      rfl
  have hfin := hK _ k1 k2
  unfold Oper.wp
  simp [execOp, hop, hp, hx, hst, Result.andThen, Oper.upon]
  exact hfin
theorem stc_ears (g i : Nat) (p : Option Addr) (l c : Nat) (w : World) (hc : ∃ u, w.cell? ⟨g, i, none⟩ = some u) (hf : w.frozen? ⟨g, i, none⟩ = false) : (Instr.storeAt 41 (.pointer (some ⟨g, i, none⟩)) (.slice p l c)).run Try.prog w = .ok () (w.setCell ⟨g, i, none⟩ (.slice p l c)) := by
  obtain ⟨u, hc⟩ := hc
  simp [go_sem, hc, hf]
theorem hclone_any (a : Option Addr) (n cap : Nat) (D : List Nat) (w : World) (hp : Rd w a n cap D) (hn : n ≤ 140737488355328) :
    Calls Try.prog 49 #[.slice a n cap] w fun e w' => ∃ a' c', e = .returned (.slice a' n c') ∧ Ans w' w.heap.size a' n c' D ∧ w.grownBy w' none := by
  cases a with
  | none =>
    have hc0 : cap = 0 := hp.nil rfl
    have hn0 : n = 0 := by have := hp.le; omega
    subst hc0 hn0
    have e : D = [] := List.eq_nil_of_length_eq_zero hp.len
    subst e
    have heq := fun w => Lib.run_eql_slice_nil (P := Try.prog) w 22 5 none 0 0 0 0 Try.underlying22
    go_enter Try.func49, Try.ntmps49
    go_wp2
    go_ret
    exact ⟨none, 0, rfl, ans_nil _ _, World.grownBy.refl _ _⟩
  | some ad =>
    have gA := World.grownBy_alloc w (.cells #[] 5) none
    have hA := heap_alloc_new w (.cells #[] 5)
    have hown : Ans (w.alloc (.cells #[] 5)) w.heap.size (some ⟨w.heap.size, 0, none⟩) 0 0 [] := ⟨⟨rfl, .inr ⟨w.heap.size, 0, #[], rfl, Nat.zero_le _, hA, Nat.le_refl _, Nat.zero_le _, rfl, rfl⟩⟩, (fun x h => by cases h), fun g h => by have e : w.heap.size = g := Option.some.inj h; omega⟩
    have hpA := hp.keep gA
    have heq := fun w => Lib.run_eql_slice_nil (P := Try.prog) w 22 5 (some ad) n cap 0 0 Try.underlying22
    go_enter Try.func49, Try.ntmps49
    go_wp2_with (at_builtin; refine wpList_joinZ rfl _ _ rfl _ 0 0 w.heap.size [] rfl hown (by simp) _ n cap D rfl hpA (by omega) ?_; intro a' c' w2 hA2 hg2)
    go_ret
    rw [Nat.zero_add] at *
    exact ⟨a', c', rfl, hA2, grown_far gA hg2 (fun x hx => by have e : w.heap.size = x := Option.some.inj hx; omega)⟩

set_option maxHeartbeats 32000000 in
theorem copyListener_any (cr sz ma : Int) (a : Option Addr) (c : Nat) (Es : List Ed) (w : World) (h : RdL w a 7 c Es) (hF : ∀ e, e ∈ Es → e.D.length ≤ 100000) :
    Calls Try.prog 66 #[.agg #[.int .i64 cr, .int .i64 sz, .int .i64 ma, .slice a 7 c]] w fun e w' => ∃ (g' : Nat) (es' : List Er), e = .returned (.agg #[.int .i64 cr, .int .i64 sz, .int .i64 ma, .slice (some ⟨g', 0, none⟩) 7 7]) ∧ OwL w' w.heap.size (some ⟨g', 0, none⟩) 7 7 es' Es ∧ w.grownBy w' none := by
  have hlQ := h.len
  obtain ⟨F, hF1, hF2⟩ := h.ex
  have HF2 : Hid _ := hF2
  clear hF2
  have b0 := BxS.new w 43 #[.int .i64 cr, .int .i64 sz, .int .i64 ma, .slice a 7 c]
  have g0 := World.grownBy_alloc w (.cells #[.int .i64 cr, .int .i64 sz, .int .i64 ma, .slice a 7 c] 43) none
  generalize hw0 : w.alloc (.cells #[.int .i64 cr, .int .i64 sz, .int .i64 ma, .slice a 7 c] 43) = w0 at b0 g0
  have hz0 : w0.heap.size = w.heap.size + 1 := by rw [← hw0]; simp
  have b1 := BxS.new w0 43 #[.int .i64 0, .int .i64 0, .int .i64 0, .slice none 0 0]
  have g1 := World.grownBy_alloc w0 (.cells #[.int .i64 0, .int .i64 0, .int .i64 0, .slice none 0 0] 43) none
  generalize hw1 : w0.alloc (.cells #[.int .i64 0, .int .i64 0, .int .i64 0, .slice none 0 0] 43) = w1 at b1 g1
  rw [hz0] at b1
  have sz1 : w.heap.size + 2 ≤ w1.heap.size := by rw [← hw1]; simp [hz0]
  have p0 := b0.keep g1 (by simp)
  have G1 := grown_trans g0 g1
  obtain ⟨i0, hi, hq0, hq1, hq2⟩ := info_parts Try.info_ea3
  have i4 := Try.info_li
  have i2 := Try.info_ea2
  obtain ⟨ba, oa, rfl, hba, _⟩ := hF1.at' (by decide)
  obtain ⟨x0, x1, x2, x3⟩ := BxS.cell4 p0
  go_enter Try.func66, Try.ntmps66
  refine wp_seq_k fun K0 hK0 => ?_
  have HK0 : Hid _ := hK0
  clear hK0
  go_wp2
  refine HK0.out _ _ ?_
  clear HK0
  refine wp_seq_k fun K1 hK1 => ?_
  have HK1 : Hid _ := hK1
  clear hK1
  go_wp2_with (at_make; refine wpList_make_full _ rfl _ _ 41 rfl w1.heap.size 68 i0 _ 2 Try.underlying41 hi hq0 hq1 .i64 .i64 7 7 7 rfl rfl rfl rfl (by rw [hq2]; omega) (by decide) (Nat.le_refl _) ?_; intro w2 hown g2)
  rw [made_ef] at hown
  have hO2 := OwT.zerosE (lo := w1.heap.size) (own_baseG hown) (Nat.le_refl _)
  have z2 := g2.size
  have p02 := p0.keep g2 (by simp)
  have b12 := b1.keep g2 (by simp)
  have hgl := (hO2.hi (x := w1.heap.size) (.inl rfl)).1
  clear hown x0 x1 x2 x3
  obtain ⟨x0, x1, x2, x3⟩ := BxS.cell4 p02
  refine HK1.out _ _ ?_
  clear HK1
  refine wp_seq_k fun K2 hK2 => ?_
  have HK2 : Hid _ := hK2
  clear hK2
  go_wp2
  go_loopw [13] (fun iv wr => ∃ (k : Nat) (es : List Er), iv = .int .i64 k ∧ k ≤ 7 ∧ OwT 68 2 wr w1.heap.size (some ⟨w1.heap.size, 0, none⟩) 7 7 (es.map Er.th) ∧ es.length = 7 ∧ (∀ i, i < k → (es.getD i er00).d = Es.getD i ed0) ∧ w1.grownBy wr none) (fun iv _ => 7 - (intOf iv).toNat)
  case atStart => exact ⟨0, _, by go_num, Nat.zero_le _, hO2, rfl, (fun i h => absurd h (by omega)), g2⟩
  case round =>
    obtain ⟨k, es, rfl, hk, hO, hle, hd, hgr⟩ := hrel
    have HD : Hid _ := hd
    clear hd
    have Gr := grown_trans G1 hgr
    have zr := hgr.size
    have hgw := (hO.hi (x := w1.heap.size) (.inl rfl)).1
    by_cases hlk : k < 7
    · have l1 : (k : Int) < 7 := by omega
      have h2 := hF1.keep Gr
      obtain ⟨_, _, ee, _, ca⟩ := h2.at' (by decide)
      cases ee
      obtain ⟨y0, y1⟩ := ca k hlk
      have hrk := h2.data k hlk
      obtain ⟨e1, e2⟩ := HF2.out k hlk
      have hm : Es.getD k ed0 ∈ Es := by rw [List.getD_eq_getElem?_getD, List.getElem?_eq_getElem (by omega)]; exact List.getElem_mem _
      have f1 := hF _ hm
      rw [← e2, hrk.len] at f1
      have HED : Hid (Es.getD k ed0 = ⟨(F k).x, (F k).r.D⟩) := by show _ = _; rw [e1, e2]
      clear ca h2 e1 e2
      generalize (F k).x = x at *
      generalize (F k).r.a = ra at *
      generalize (F k).r.n = rn at *
      generalize (F k).r.c = rc at *
      generalize (F k).r.D = RD at *
      refine wp_seq_k fun K5 hK5 => ?_
      have HK5 : Hid _ := hK5
      clear hK5
      go_wp2
      refine HK5.out _ _ ?_
      clear HK5
      refine wp_seq_k fun K6 hK6 => ?_
      have HK6 : Hid _ := hK6
      clear hK6
      go_wp2
      refine HK6.out _ _ ?_
      clear HK6
      refine wp_seq_k fun K7 hK7 => ?_
      have HK7 : Hid _ := hK7
      clear hK7
      refine wp_block ?_
      refine wp_seq_k fun K8 hK8 => ?_
      have HK8 : Hid _ := hK8
      clear hK8
      have bn := BxS.new wr 68 #[.int .i64 0, .slice none 0 0]
      have gn := World.grownBy_alloc wr (.cells #[.int .i64 0, .slice none 0 0] 68) none
      have s0 : True := trivial
      go_wp2_with (have _t := s0; clear s0; refine wpList_stX _ rfl _ (.tmp 5) (.tmp 17) rfl wr.heap.size _ _ rfl rfl bn i2 rfl (by simp [Value.oneCell']) ?_; intro w4 b4 u4)
      have Y4 := grown_far gn u4 (fun q e => by have e := Option.some.inj e; omega)
      refine HK8.out _ _ ?_
      clear HK8
      have hO4 := hO.keep Y4
      have hr4 := hrk.keep Y4
      clear y0 y1 hrk hO u4 gn bn
      have hz4 := Y4.size
      have b4d := b4.keep (grown_drew w4 none) (by simp)
      have hO4d := hO4.keep (grown_drew w4 none)
      have hr4d := hr4.keep (grown_drew w4 none)
      have Gd := grown_trans (grown_trans hgr Y4) (grown_drew w4 none)
      obtain ⟨g5, hg5⟩ : ∃ g5, wr.heap.size = g5 := ⟨_, rfl⟩
      rw [hg5] at b4d ⊢
      refine wp_regionL (fun wz => BxS wz g5 68 #[.int .i64 x, .slice ra rn rc]) [] #[false, false, false, false, false, false, false, false, false, false] rfl (by kernel_rfl) ?_
      refine wpAnyZ_take [] 0 (.slice (some ⟨w1.heap.size, 0, none⟩) 7 7) rfl (by kernel_rfl) (fun _ _ _ h => h) b4d rfl (by intro wz hz; go_simp) ?_
      try simp only [List.getElem_toArray, List.getElem_cons_succ, List.getElem_cons_zero, Act.put, List.setIfInBounds_toArray, List.set_cons_zero, List.set_cons_succ]
      refine wpAnyZ_take [] 1 (.int .i64 (k : Int)) rfl (by kernel_rfl) (fun _ _ _ h => h) b4d rfl (by intro wz hz; go_simp) ?_
      try simp only [List.getElem_toArray, List.getElem_cons_succ, List.getElem_cons_zero, Act.put, List.setIfInBounds_toArray, List.set_cons_zero, List.set_cons_succ]
      refine wpAnyZ_take [] 2 (.pointer (some ⟨g5, 0, none⟩)) rfl (by kernel_rfl) (fun _ _ _ h => h) b4d rfl (by intro wz hz; go_simp) ?_
      try simp only [List.getElem_toArray, List.getElem_cons_succ, List.getElem_cons_zero, Act.put, List.setIfInBounds_toArray, List.set_cons_zero, List.set_cons_succ]
      refine wpAnyZ_take [] 3 (.int .i64 x) rfl (by kernel_rfl) (fun _ _ _ h => h) b4d rfl (by intro wz hz; have q0 := hz.cell 0 (by show 0 < 2; decide); go_simp) ?_
      try simp only [List.getElem_toArray, List.getElem_cons_succ, List.getElem_cons_zero, Act.put, List.setIfInBounds_toArray, List.set_cons_zero, List.set_cons_succ]
      refine wpAnyZ_take [] 4 (.pointer (some ⟨g5, 1, none⟩)) rfl (by kernel_rfl) (fun _ _ _ h => h) b4d rfl (by intro wz hz; go_simp) ?_
      try simp only [List.getElem_toArray, List.getElem_cons_succ, List.getElem_cons_zero, Act.put, List.setIfInBounds_toArray, List.set_cons_zero, List.set_cons_succ]
      refine wpAnyZ_take [] 5 (.slice ra rn rc) rfl (by kernel_rfl) (fun _ _ _ h => h) b4d rfl (by intro wz hz; have q1 := hz.cell 1 (by show 1 < 2; decide); go_simp) ?_
      try simp only [List.getElem_toArray, List.getElem_cons_succ, List.getElem_cons_zero, Act.put, List.setIfInBounds_toArray, List.set_cons_zero, List.set_cons_succ]
      generalize w4.drew = w5 at *
      refine wpAnyZ_oneB 6 rfl (by kernel_rfl) (fun KK hKK => ?_)
      go_simp
      go_at_call 49
      refine (hclone_any ra rn rc RD w5 hr4d (by omega)).mono ?_
      rintro e w6 ⟨na, nc, rfl, hA6, g6⟩
      dsimp only
      have b6 := b4d.keep g6 (by simp)
      refine hKK _ _ (fun _ => b6) ?_
      try simp only [List.getElem_toArray, List.getElem_cons_succ, List.getElem_cons_zero, Act.put, List.setIfInBounds_toArray, List.set_cons_zero, List.set_cons_succ]
      refine wpAnyZ_take [] 7 (.agg #[.int .i64 x, .slice na rn nc]) rfl (by kernel_rfl) (fun _ _ _ h => h) b6 rfl (by intro wz hz; go_simp) ?_
      try simp only [List.getElem_toArray, List.getElem_cons_succ, List.getElem_cons_zero, Act.put, List.setIfInBounds_toArray, List.set_cons_zero, List.set_cons_succ]
      refine wpAnyZ_take [] 8 (.pointer (some ⟨w1.heap.size, k * 2, none⟩)) rfl (by kernel_rfl) (fun _ _ _ h => h) b6 rfl (by intro wz hz; go_simp) ?_
      try simp only [List.getElem_toArray, List.getElem_cons_succ, List.getElem_cons_zero, Act.put, List.setIfInBounds_toArray, List.set_cons_zero, List.set_cons_succ]
      have hO6 := hO4d.keep g6
      refine wpAnyZ_oneB 9 rfl (by kernel_rfl) (fun KK hKK => ?_)
      refine step_stTh i2 _ rfl _ _ rfl w1.heap.size k 7 7 _ (es.map Er.th) (Er.th ⟨x, ⟨na, rn, nc, RD⟩⟩) rfl rfl _ rfl rfl rfl (by intro u hu; simp only [Er.th, List.mem_cons, List.not_mem_nil, or_false] at hu; rcases hu with rfl | rfl <;> rfl) hO6.own hO6.sz hO6.len hlk ?_
      intro w7 ho7 u7
      have hlow5 : w1.heap.size ≤ w5.heap.size := by have := Gd.size; omega
      have hO7 := hO6.set (x' := Er.th ⟨x, ⟨na, rn, nc, RD⟩⟩) (by decide) ho7 u7 rfl (hA6.wide hlow5) (fun j y hj hy b e => (hO4d.each y (List.mem_of_getElem? hy)).later2 hA6 (Nat.le_refl _) b e)
      have b7 := b6.keep u7 (fun e => by have e := Option.some.inj e; omega)
      refine hKK _ _ (fun _ => b7) ?_
      try simp only [List.getElem_toArray, List.getElem_cons_succ, List.getElem_cons_zero, Act.put, List.setIfInBounds_toArray, List.set_cons_zero, List.set_cons_succ]
      refine wpAnyZ_doneB (by kernel_rfl) ?_ _
      simp only [Exit.inBlock, Exit.then]
      refine HK7.out _ _ ?_
      clear HK7
      have hwk : IntKind.i64.wrap ((k : Int) + 1) = (k : Int) + 1 := wrap_i64_in _ (by omega) (by omega)
      go_wp2
      go_roundw
      case rel =>
        refine ⟨k + 1, es.set k ⟨x, ⟨na, rn, nc, RD⟩⟩, by go_num, by omega, ?_, by rw [List.length_set]; exact hle, fun i hi => ?_, grown_far (grown_trans Gd g6) u7 (fun q e => by have e := Option.some.inj e; omega)⟩
        · rw [List.map_set]; exact hO7
        · by_cases e : i < k
          · rw [List.getD_eq_getElem?_getD, List.getElem?_set_ne (by omega), ← List.getD_eq_getElem?_getD]; exact HD.out i e
          · obtain rfl : i = k := by omega
            rw [List.getD_eq_getElem?_getD, List.getElem?_set_self (by omega)]; exact HED.out.symm
      case measure => simp [intOf]; omega
    · obtain rfl : k = 7 := by omega
      have l1 : ¬ ((7 : Nat) : Int) < 7 := by omega
      have p0r := p0.keep hgr (by simp)
      have b1r := b1.keep hgr (by simp)
      have hdat : es.map Er.d = Es := by
        apply List.ext_getElem (by rw [List.length_map]; omega)
        intro i h1 h2
        have := HD.out i (by omega)
        rw [List.getElem_map]
        rw [List.getD_eq_getElem?_getD, List.getElem?_eq_getElem (by omega), List.getD_eq_getElem?_getD, List.getElem?_eq_getElem (by omega)] at this
        exact this
      go_wp2
      refine HK2.out _ _ ?_
      clear HK2
      have s0 : True := trivial
      refine wp_seq_k fun K3 hK3 => ?_
      have HK3 : Hid _ := hK3
      clear hK3
      go_wp2_with (have _t := s0; clear s0; refine wpList_stC _ rfl _ _ _ rfl w.heap.size 3 43 _ #[.int .i64 cr, .int .i64 sz, .int .i64 ma, .slice (some ⟨w1.heap.size, 0, none⟩) 7 7] (.slice (some ⟨w1.heap.size, 0, none⟩) 7 7) rfl rfl p0r (stc_ears _ _ _ _ _) (by show 3 < 4; decide) rfl ?_; intro w6 b6 u6)
      have b16 := b1r.keep u6 (fun e => by have e := Option.some.inj e; omega)
      have hO6 := hO.far u6 (by omega)
      refine HK3.out _ _ ?_
      clear HK3
      refine wp_seq_k fun K4 hK4 => ?_
      have HK4 : Hid _ := hK4
      clear hK4
      have s0 : True := trivial
      go_wp2_with (first
        | (have _t := s0; clear s0; refine wpList_ldX _ rfl _ (.tmp 1) rfl w.heap.size _ rfl b6 Try.underlying43 i4 ?_; have s1 : True := trivial)
        | (have _t := s1; clear s1; refine wpList_stX _ rfl _ (.tmp 2) (.tmp 30) rfl (w.heap.size + 1) _ _ rfl rfl b16 i4 rfl (by simp [Value.oneCell']) ?_; intro w7 b7 u7))
      refine HK4.out _ _ ?_
      clear HK4
      refine wp_ret ?_
      refine bodyPost_ret (kres1 rfl _ _ _ ⟨w.heap.size + 1, 0, none⟩ _ rfl (BxS.load (t := 43) b7 Try.underlying43 i4)) rfl ?_
      exact ⟨_, es, rfl, ⟨(hO6.far u7 (by omega)).wide (by omega), hdat⟩, grown_far (grown_far (grown_trans G1 hgr) u6 (fun q e => by have e := Option.some.inj e; omega)) u7 (fun q e => by have e := Option.some.inj e; omega)⟩

/-- what is shown of an operation in a row serves in a region that draws, too -/
theorem step_of_list {ops : Array Oper} {o : Oper} {a : Act} {w : World} {K : Act → World → Prop} {Q : Exit → Act → World → Prop} {E : Prop} (hg : o.guard = none) (h : wpList Try.prog ops (Exit.then K (fun _ _ _ => False)) [o] a w) :
    if Region.wanted o (yielded ops a.tmps) = true then Oper.wp Try.prog o a w K Q else E := by
  have hw : Region.wanted o (yielded ops a.tmps) = true := by simp [Region.wanted, hg]
  rw [if_pos hw]
  unfold wpList at h
  rw [if_pos hw] at h
  rcases h with h | ⟨_, a', w', h⟩
  · unfold Oper.wp at *
    generalize (execOp a.eval o).run Try.prog w = r at *
    cases r with
    | ok n w' =>
      cases n <;> simp only [Oper.upon] at h ⊢ <;>
        first
          | exact h
          | exact Calls.mono h (fun e w'' he => by
              cases e with
              | returned v => exact he
              | panicked c => exact he.elim
              | outgrown => obtain ⟨a', w', he⟩ := he; exact he.elim)
          | exact Rows.mono h (fun _ _ he => he)
    | halt x w' =>
      cases x <;> simp only [Oper.upon] at h ⊢ <;> first | exact h | exact h.elim
  · exact h.elim

set_option maxHeartbeats 32000000 in
theorem listenerOf_any (cr sz ma : Int) (a : Option Addr) (n c : Nat) (Es : List Ed) (w : World) (h : RdL w a n c Es) (hF : ∀ e, e ∈ Es → e.D.length ≤ 140737488351232) (hn : n * 32 ≤ 140737488351232) :
    Calls Try.prog 36 #[.agg #[.int .i64 cr, .int .i64 sz, .int .i64 ma, .slice a n c]] w fun e w' => ∃ (a' : Option Addr) (c' : Nat) (es' : List Er), e = .returned (.agg #[.int .i64 cr, .int .i64 sz, .int .i64 ma, .slice a' n c']) ∧ OwL w' w.heap.size a' n c' es' Es ∧ w.grownBy w' none := by
  have hlQ := h.len
  obtain ⟨F, hF1, hF2⟩ := h.ex
  have HF2 : Hid _ := hF2
  clear hF2
  have b0 := BxS.new w 43 #[.int .i64 cr, .int .i64 sz, .int .i64 ma, .slice a n c]
  have g0 := World.grownBy_alloc w (.cells #[.int .i64 cr, .int .i64 sz, .int .i64 ma, .slice a n c] 43) none
  generalize hw0 : w.alloc (.cells #[.int .i64 cr, .int .i64 sz, .int .i64 ma, .slice a n c] 43) = w0 at b0 g0
  have hz0 : w0.heap.size = w.heap.size + 1 := by rw [← hw0]; simp
  have b1 := BxS.new w0 43 #[.int .i64 0, .int .i64 0, .int .i64 0, .slice none 0 0]
  have g1 := World.grownBy_alloc w0 (.cells #[.int .i64 0, .int .i64 0, .int .i64 0, .slice none 0 0] 43) none
  generalize hw1 : w0.alloc (.cells #[.int .i64 0, .int .i64 0, .int .i64 0, .slice none 0 0] 43) = w1 at b1 g1
  rw [hz0] at b1
  have sz1 : w.heap.size + 2 ≤ w1.heap.size := by rw [← hw1]; simp [hz0]
  have p0 := b0.keep g1 (by simp)
  have G1 := grown_trans g0 g1
  have i4 := Try.info_li
  have i2 := Try.info_ea2
  have hcap : n ≤ c := hF1.le
  have hcm : c ≤ maxLen := hF1.max
  unfold maxLen at hcm
  go_enter Try.func36, Try.ntmps36
  refine wp_seq_k fun K0 hK0 => ?_
  have HK0 : Hid _ := hK0
  clear hK0
  go_wp2
  refine HK0.out _ _ ?_
  clear HK0
  refine wp_seq_k fun K1 hK1 => ?_
  have HK1 : Hid _ := hK1
  clear hK1
  go_wp2
  refine HK1.out _ _ ?_
  clear HK1
  refine wp_seq_k fun K2 hK2 => ?_
  have HK2 : Hid _ := hK2
  clear hK2
  go_wp2
  go_loopw [3, 4] (fun lv iv wr => ∃ (k : Nat) (ao : Option Addr) (co : Nat) (es : List Er), iv = .int .i64 k ∧ lv = .slice ao k co ∧ k ≤ n ∧ OwT 68 2 wr w1.heap.size ao k co (es.map Er.th) ∧ es.length = k ∧ (∀ i, i < k → (es.getD i er00).d = Es.getD i ed0) ∧ w1.grownBy wr none) (fun _ iv _ => n - (intOf iv).toNat)
  case atStart => exact ⟨0, none, 0, [], by go_num, rfl, Nat.zero_le _, OwT.nil _ _ _ _, rfl, (fun i h => absurd h (by omega)), World.grownBy.refl _ _⟩
  case round =>
    obtain ⟨k, ao, co, es, rfl, rfl, hk, hO, hle, hd, hgr⟩ := hrel
    have HD : Hid _ := hd
    clear hd
    have Gr := grown_trans G1 hgr
    have zr := hgr.size
    have p0r := p0.keep hgr (by simp)
    by_cases hlk : k < n
    · have l1 : (k : Int) < (n : Int) := by omega
      have h2 := hF1.keep Gr
      obtain ⟨ba, oa, rfl, hba, ca⟩ := h2.at' (by omega)
      obtain ⟨_, _, ee0, hb1, _⟩ := hF1.at' (by omega)
      cases ee0
      obtain ⟨y0, y1⟩ := ca k hlk
      have hrk := h2.data k hlk
      obtain ⟨e1, e2⟩ := HF2.out k hlk
      have hm : Es.getD k ed0 ∈ Es := by rw [List.getD_eq_getElem?_getD, List.getElem?_eq_getElem (by omega)]; exact List.getElem_mem _
      have f1 := hF _ hm
      rw [← e2, hrk.len] at f1
      have HED : Hid (Es.getD k ed0 = ⟨(F k).x, (F k).r.D⟩) := by show _ = _; rw [e1, e2]
      clear ca h2 e1 e2
      generalize (F k).x = x at *
      generalize (F k).r.a = ra at *
      generalize (F k).r.n = rn at *
      generalize (F k).r.c = rc at *
      generalize (F k).r.D = RD at *
      obtain ⟨x0, x1, x2, x3⟩ := BxS.cell4 p0r
      refine wp_seq_k fun K5 hK5 => ?_
      have HK5 : Hid _ := hK5
      clear hK5
      go_wp2
      refine HK5.out _ _ ?_
      clear HK5
      refine wp_seq_k fun K7 hK7 => ?_
      have HK7 : Hid _ := hK7
      clear hK7
      refine wp_block ?_
      clear x0 x1 x2 x3
      have SS : BxS wr.drew w.heap.size 43 #[.int .i64 cr, .int .i64 sz, .int .i64 ma, .slice (some ⟨ba, oa, none⟩) n c] ∧ wr.drew.cell? ⟨ba, oa + k * 2, none⟩ = some (.int .i64 x) ∧ wr.drew.cell? ⟨ba, oa + k * 2 + 1, none⟩ = some (.slice ra rn rc) := ⟨p0r.keep (grown_drew wr none) (by simp), y0, y1⟩
      have hOd := hO.keep (grown_drew wr none)
      have hrd := hrk.keep (grown_drew wr none)
      have Gd := grown_trans hgr (grown_drew wr none)
      have hbd : ba < wr.drew.heap.size := hba
      clear y0 y1
      refine wp_regionL (fun wz => BxS wz w.heap.size 43 #[.int .i64 cr, .int .i64 sz, .int .i64 ma, .slice (some ⟨ba, oa, none⟩) n c] ∧ wz.cell? ⟨ba, oa + k * 2, none⟩ = some (.int .i64 x) ∧ wz.cell? ⟨ba, oa + k * 2 + 1, none⟩ = some (.slice ra rn rc)) [] #[false, false, false, false, false, false, false, false, false, false, false, false, false, false, false, false, false, false] rfl (by kernel_rfl) ?_
      refine wpAnyZ_take [] 0 (.slice ao k co) rfl (by kernel_rfl) (fun _ _ _ h => h) SS rfl (by intro wz hz; go_simp) ?_
      try simp only [List.getElem_toArray, List.getElem_cons_succ, List.getElem_cons_zero, Act.put, List.setIfInBounds_toArray, List.set_cons_zero, List.set_cons_succ]
      refine wpAnyZ_take [] 1 (.pointer (some ⟨w.heap.size, 3, none⟩)) rfl (by kernel_rfl) (fun _ _ _ h => h) SS rfl (by intro wz hz; go_simp) ?_
      try simp only [List.getElem_toArray, List.getElem_cons_succ, List.getElem_cons_zero, Act.put, List.setIfInBounds_toArray, List.set_cons_zero, List.set_cons_succ]
      refine wpAnyZ_take [] 2 (.slice (some ⟨ba, oa, none⟩) n c) rfl (by kernel_rfl) (fun _ _ _ h => h) SS rfl (by rintro wz ⟨hz, q0, q1⟩; obtain ⟨z0, z1, z2, z3⟩ := BxS.cell4 hz; go_simp) ?_
      try simp only [List.getElem_toArray, List.getElem_cons_succ, List.getElem_cons_zero, Act.put, List.setIfInBounds_toArray, List.set_cons_zero, List.set_cons_succ]
      refine wpAnyZ_take [] 3 (.int .i64 (k : Int)) rfl (by kernel_rfl) (fun _ _ _ h => h) SS rfl (by intro wz hz; go_simp) ?_
      try simp only [List.getElem_toArray, List.getElem_cons_succ, List.getElem_cons_zero, Act.put, List.setIfInBounds_toArray, List.set_cons_zero, List.set_cons_succ]
      refine wpAnyZ_take [] 4 (.pointer (some ⟨ba, oa + k * 2, none⟩)) rfl (by kernel_rfl) (fun _ _ _ h => h) SS rfl (by intro wz hz; go_simp) ?_
      try simp only [List.getElem_toArray, List.getElem_cons_succ, List.getElem_cons_zero, Act.put, List.setIfInBounds_toArray, List.set_cons_zero, List.set_cons_succ]
      refine wpAnyZ_take [] 5 (.pointer (some ⟨ba, oa + k * 2, none⟩)) rfl (by kernel_rfl) (fun _ _ _ h => h) SS rfl (by intro wz hz; go_simp) ?_
      try simp only [List.getElem_toArray, List.getElem_cons_succ, List.getElem_cons_zero, Act.put, List.setIfInBounds_toArray, List.set_cons_zero, List.set_cons_succ]
      refine wpAnyZ_take [] 6 (.int .i64 x) rfl (by kernel_rfl) (fun _ _ _ h => h) SS rfl (by rintro wz ⟨hz, q0, q1⟩; obtain ⟨z0, z1, z2, z3⟩ := BxS.cell4 hz; go_simp) ?_
      try simp only [List.getElem_toArray, List.getElem_cons_succ, List.getElem_cons_zero, Act.put, List.setIfInBounds_toArray, List.set_cons_zero, List.set_cons_succ]
      refine wpAnyZ_take [] 7 (.pointer (some ⟨w.heap.size, 3, none⟩)) rfl (by kernel_rfl) (fun _ _ _ h => h) SS rfl (by intro wz hz; go_simp) ?_
      try simp only [List.getElem_toArray, List.getElem_cons_succ, List.getElem_cons_zero, Act.put, List.setIfInBounds_toArray, List.set_cons_zero, List.set_cons_succ]
      refine wpAnyZ_take [] 8 (.slice (some ⟨ba, oa, none⟩) n c) rfl (by kernel_rfl) (fun _ _ _ h => h) SS rfl (by rintro wz ⟨hz, q0, q1⟩; obtain ⟨z0, z1, z2, z3⟩ := BxS.cell4 hz; go_simp) ?_
      try simp only [List.getElem_toArray, List.getElem_cons_succ, List.getElem_cons_zero, Act.put, List.setIfInBounds_toArray, List.set_cons_zero, List.set_cons_succ]
      refine wpAnyZ_take [] 9 (.int .i64 (k : Int)) rfl (by kernel_rfl) (fun _ _ _ h => h) SS rfl (by intro wz hz; go_simp) ?_
      try simp only [List.getElem_toArray, List.getElem_cons_succ, List.getElem_cons_zero, Act.put, List.setIfInBounds_toArray, List.set_cons_zero, List.set_cons_succ]
      refine wpAnyZ_take [] 10 (.pointer (some ⟨ba, oa + k * 2, none⟩)) rfl (by kernel_rfl) (fun _ _ _ h => h) SS rfl (by intro wz hz; go_simp) ?_
      try simp only [List.getElem_toArray, List.getElem_cons_succ, List.getElem_cons_zero, Act.put, List.setIfInBounds_toArray, List.set_cons_zero, List.set_cons_succ]
      refine wpAnyZ_take [] 11 (.pointer (some ⟨ba, oa + k * 2 + 1, none⟩)) rfl (by kernel_rfl) (fun _ _ _ h => h) SS rfl (by intro wz hz; go_simp) ?_
      try simp only [List.getElem_toArray, List.getElem_cons_succ, List.getElem_cons_zero, Act.put, List.setIfInBounds_toArray, List.set_cons_zero, List.set_cons_succ]
      refine wpAnyZ_take [] 12 (.slice ra rn rc) rfl (by kernel_rfl) (fun _ _ _ h => h) SS rfl (by rintro wz ⟨hz, q0, q1⟩; obtain ⟨z0, z1, z2, z3⟩ := BxS.cell4 hz; go_simp) ?_
      try simp only [List.getElem_toArray, List.getElem_cons_succ, List.getElem_cons_zero, Act.put, List.setIfInBounds_toArray, List.set_cons_zero, List.set_cons_succ]
      generalize wr.drew = w5 at *
      refine wpAnyZ_oneB 13 rfl (by kernel_rfl) (fun KK hKK => ?_)
      refine step_of_list rfl ?_
      refine wpList_clB w5 rfl _ _ rfl rfl ra rn rc RD rfl hrd (by omega) ?_
      intro na nc w6 g6 hA6
      show KK _ _
      have S6 := SS.1.keep g6 (by simp)
      have y60 := cell_grown SS.2.1 g6 hbd (by simp)
      have y61 := cell_grown SS.2.2 g6 hbd (by simp)
      refine hKK _ _ (fun _ => ⟨S6, y60, y61⟩) ?_
      try simp only [List.getElem_toArray, List.getElem_cons_succ, List.getElem_cons_zero, Act.put, List.setIfInBounds_toArray, List.set_cons_zero, List.set_cons_succ]
      refine wpAnyZ_take [] 14 (.agg #[.int .i64 x, .slice na rn nc]) rfl (by kernel_rfl) (fun _ _ _ h => h) ⟨S6, y60, y61⟩ rfl (by intro wz hz; go_simp) ?_
      try simp only [List.getElem_toArray, List.getElem_cons_succ, List.getElem_cons_zero, Act.put, List.setIfInBounds_toArray, List.set_cons_zero, List.set_cons_succ]
      have hO6 := hOd.keep g6
      have gl6 := World.grownBy_alloc w6 (.cells #[.int .i64 x, .slice na rn nc] 68) none
      refine wpAnyZ_oneB 15 rfl (by kernel_rfl) (fun KK hKK => ?_)
      go_simp
      refine hKK _ _ (fun _ => ⟨S6.keep gl6 (by simp), cell_grown y60 gl6 (Nat.lt_of_lt_of_le hbd g6.size) (by simp), cell_grown y61 gl6 (Nat.lt_of_lt_of_le hbd g6.size) (by simp)⟩) ?_
      try simp only [List.getElem_toArray, List.getElem_cons_succ, List.getElem_cons_zero, Act.put, List.setIfInBounds_toArray, List.set_cons_zero, List.set_cons_succ]
      refine wpAnyZ_oneB 16 rfl (by kernel_rfl) (fun KK hKK => ?_)
      refine step_psT 41 68 2 32 _ Try.underlying41 Try.info_ea3 rfl (by decide) (by decide) w6 w1.heap.size (Er.th ⟨x, ⟨na, rn, nc, RD⟩⟩) rfl _ _ rfl ao k co (es.map Er.th) rfl hO6 (by have := Gd.size; have := g6.size; omega) rfl (by omega) (by unfold maxLen; omega) _ rfl rfl (by intro u hu; simp only [Er.th, List.mem_cons, List.not_mem_nil, or_false] at hu; rcases hu with rfl | rfl <;> rfl) (hA6.wide (by have := Gd.size; omega)) (fun y hy b e => (hOd.each y hy).later2 hA6 (Nat.le_refl _) b e) ?_
      intro gx cx w8 hO8 u8 hor
      have hn8 : some ba ≠ (Value.slice ao k co).ownBlock ∧ some w.heap.size ≠ (Value.slice ao k co).ownBlock := ⟨fun e => by have := hO.new ba e.symm; have := hb1; omega, fun e => by have := hO.new w.heap.size e.symm; omega⟩
      have S8 := S6.keep u8 hn8.2
      have y80 := cell_grown y60 u8 (Nat.lt_of_lt_of_le hbd g6.size) hn8.1
      have y81 := cell_grown y61 u8 (Nat.lt_of_lt_of_le hbd g6.size) hn8.1
      refine hKK _ _ (fun _ => ⟨S8, y80, y81⟩) ?_
      try simp only [List.getElem_toArray, List.getElem_cons_succ, List.getElem_cons_zero, Act.put, List.setIfInBounds_toArray, List.set_cons_zero, List.set_cons_succ]
      refine wpAnyZ_take [] 17 (.slice (some ⟨gx, 0, none⟩) (k + 1) cx) rfl (by kernel_rfl) (fun _ _ _ h => h) ⟨S8, y80, y81⟩ rfl (by intro wz hz; go_simp) ?_
      try simp only [List.getElem_toArray, List.getElem_cons_succ, List.getElem_cons_zero, Act.put, List.setIfInBounds_toArray, List.set_cons_zero, List.set_cons_succ]
      refine wpAnyZ_doneB (by kernel_rfl) ?_ _
      simp only [Exit.inBlock, Exit.then]
      refine HK7.out _ _ ?_
      clear HK7
      have hwk : IntKind.i64.wrap ((k : Int) + 1) = (k : Int) + 1 := wrap_i64_in _ (by omega) (by omega)
      go_wp2
      go_roundw
      case rel =>
        refine ⟨k + 1, some ⟨gx, 0, none⟩, cx, es ++ [⟨x, ⟨na, rn, nc, RD⟩⟩], by go_num, rfl, by omega, ?_, by rw [List.length_append, hle]; rfl, fun i hi => ?_, grown_far (grown_trans Gd g6) u8 (fun q e => hO.new q e)⟩
        · rw [List.map_append]; exact hO8
        · by_cases e : i < k
          · rw [List.getD_eq_getElem?_getD, List.getElem?_append_left (by omega), ← List.getD_eq_getElem?_getD]; exact HD.out i e
          · obtain rfl : i = k := by omega
            rw [List.getD_eq_getElem?_getD, List.getElem?_append_right (by omega), hle, Nat.sub_self]; exact HED.out.symm
      case measure => simp [intOf]; omega
    · obtain rfl : k = n := by omega
      have l1 : ¬ (k : Int) < (k : Int) := by omega
      have b1r := b1.keep hgr (by simp)
      have hdat : es.map Er.d = Es := by
        apply List.ext_getElem (by rw [List.length_map]; omega)
        intro i h1 h2
        have := HD.out i (by omega)
        rw [List.getElem_map]
        rw [List.getD_eq_getElem?_getD, List.getElem?_eq_getElem (by omega), List.getD_eq_getElem?_getD, List.getElem?_eq_getElem (by omega)] at this
        exact this
      obtain ⟨x0, x1, x2, x3⟩ := BxS.cell4 p0r
      go_wp2
      clear x0 x1 x2 x3
      refine HK2.out _ _ ?_
      clear HK2
      have s0 : True := trivial
      refine wp_seq_k fun K3 hK3 => ?_
      have HK3 : Hid _ := hK3
      clear hK3
      go_wp2_with (have _t := s0; clear s0; refine wpList_stC _ rfl _ _ _ rfl w.heap.size 3 43 _ #[.int .i64 cr, .int .i64 sz, .int .i64 ma, .slice ao k co] (.slice ao k co) rfl rfl p0r (stc_ears _ _ _ _ _) (by show 3 < 4; decide) rfl ?_; intro w6 b6 u6)
      have b16 := b1r.keep u6 (fun e => by have e := Option.some.inj e; omega)
      have hO6 := hO.far u6 (by omega)
      refine HK3.out _ _ ?_
      clear HK3
      refine wp_seq_k fun K4 hK4 => ?_
      have HK4 : Hid _ := hK4
      clear hK4
      have s0 : True := trivial
      go_wp2_with (first
        | (have _t := s0; clear s0; refine wpList_ldX _ rfl _ (.tmp 1) rfl w.heap.size _ rfl b6 Try.underlying43 i4 ?_; have s1 : True := trivial)
        | (have _t := s1; clear s1; refine wpList_stX _ rfl _ (.tmp 2) (.tmp 31) rfl (w.heap.size + 1) _ _ rfl rfl b16 i4 rfl (by simp [Value.oneCell']) ?_; intro w7 b7 u7))
      refine HK4.out _ _ ?_
      clear HK4
      refine wp_ret ?_
      refine bodyPost_ret (kres1 rfl _ _ _ ⟨w.heap.size + 1, 0, none⟩ _ rfl (BxS.load (t := 43) b7 Try.underlying43 i4)) rfl ?_
      exact ⟨_, _, es, rfl, ⟨(hO6.far u7 (by omega)).wide (by omega), hdat⟩, grown_far (grown_far (grown_trans G1 hgr) u6 (fun q e => by have e := Option.some.inj e; omega)) u7 (fun q e => by have e := Option.some.inj e; omega)⟩
end Go.Proofs.Ytlmddjkplnbadaa
