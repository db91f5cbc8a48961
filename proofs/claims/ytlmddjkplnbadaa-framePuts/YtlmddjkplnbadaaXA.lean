import Derived.Test.YtlmddjkplnbadaaKHa
import Derived.Test.YtlmddjkplnbadaaNPu4
import Derived.Test.YtlmddjkplnbadaaZR
import Derived.Test.YtlmddjkplnbadaaZRs
import Derived.Test.YtlmddjkplnbadaaZSub
namespace Go.Proofs.Ytlmddjkplnbadaa
open Go.RowKit
set_option maxRecDepth 100000
set_option linter.unusedVariables false
set_option linter.unusedSimpArgs false
/-- a queue: where its rows lie, and what it says -/
structure Qw where
  ow : Int
  a : Option Addr
  n : Nat
  c : Nat
  go : Int
  rs : List Rw
/-- a queue as data -/
structure Qd where
  ow : Int
  go : Int
  P : List (List Nat)
def Qw.d (q : Qw) : Qd := ⟨q.ow, q.go, q.rs.map Rw.D⟩
def Qw.v (q : Qw) : Value := .slice q.a q.n q.c
def Qw.cells (q : Qw) : List Value := [.int .i64 q.ow, .slice q.a q.n q.c, .int .i64 q.go]
def Qw.u (q : Qw) : Qu := ⟨q.ow, q.a, q.n, q.c, q.go, fun i => q.rs.getD i kr0⟩
def qw0 : Qw := ⟨0, none, 0, 0, 0, []⟩
def qd0 : Qd := ⟨0, 0, []⟩
def flQ (qs : List Qw) : List Value := qs.flatMap Qw.cells
theorem flQ_len (qs : List Qw) : (flQ qs).length = qs.length * 3 := by
  induction qs with
  | nil => rfl
  | cons k qs ih => simp only [flQ, List.flatMap_cons, List.length_append, List.length_cons] at ih ⊢; rw [ih]; show 3 + _ = _; omega
theorem flQ_app (qs ls : List Qw) : flQ (qs ++ ls) = flQ qs ++ flQ ls := by simp [flQ]
theorem flQ_at (qs : List Qw) (i : Nat) (k : Qw) (h : qs[i]? = some k) (j : Nat) (hj : j < 3) : (flQ qs)[i * 3 + j]? = k.cells[j]? := by
  induction qs generalizing i with
  | nil => cases h
  | cons a qs ih =>
    cases i with
    | zero =>
      have h : some a = some k := h
      have h := Option.some.inj h
      subst h
      show (a.cells ++ flQ qs)[0 * 3 + j]? = _
      rw [List.getElem?_append_left (by show 0 * 3 + j < 3; omega), Nat.zero_mul, Nat.zero_add]
    | succ i =>
      have h : qs[i]? = some k := h
      show (a.cells ++ flQ qs)[(i + 1) * 3 + j]? = _
      rw [List.getElem?_append_right (by show 3 ≤ _; omega), show (i + 1) * 3 + j - a.cells.length = i * 3 + j by show _ - 3 = _; omega]
      exact ih i h
/-- one cell of a queue is written -/
theorem flQ_set (qs : List Qw) (i : Nat) (q q' : Qw) (h : qs[i]? = some q) (j : Nat) (hj : j < 3) (v : Value) (hc : q'.cells = q.cells.set j v) : (flQ qs).set (i * 3 + j) v = flQ (qs.set i q') := by
  induction qs generalizing i with
  | nil => cases h
  | cons a qs ih =>
    cases i with
    | zero =>
      have h : some a = some q := h
      have h := Option.some.inj h
      subst h
      show (a.cells ++ flQ qs).set (0 * 3 + j) v = q'.cells ++ flQ qs
      rw [hc, List.set_append_left _ _ (by show 0 * 3 + j < 3; omega), Nat.zero_mul, Nat.zero_add]
    | succ i =>
      have h : qs[i]? = some q := h
      show (a.cells ++ flQ qs).set ((i + 1) * 3 + j) v = a.cells ++ flQ (qs.set i q')
      rw [List.set_append_right _ _ (by show 3 ≤ _; omega), show (i + 1) * 3 + j - a.cells.length = i * 3 + j by show _ - 3 = _; omega, ih i h]
theorem flQ_take (qs : List Qw) (m : Nat) : (flQ qs).take (m * 3) = flQ (qs.take m) := by
  induction qs generalizing m with
  | nil => simp [flQ]
  | cons k qs ih =>
    cases m with
    | zero => simp [flQ]
    | succ m =>
      show (k.cells ++ flQ qs).take ((m + 1) * 3) = k.cells ++ flQ (qs.take m)
      rw [← ih m, List.take_append, List.take_of_length_le (by show 3 ≤ _; omega)]
      congr 2
      show _ - 3 = _
      omega
theorem flQ_drop (qs : List Qw) (m : Nat) : (flQ qs).drop (m * 3) = flQ (qs.drop m) := by
  induction qs generalizing m with
  | nil => simp [flQ]
  | cons k qs ih =>
    cases m with
    | zero => simp [flQ]
    | succ m =>
      show (k.cells ++ flQ qs).drop ((m + 1) * 3) = flQ (qs.drop m)
      rw [← ih m, List.drop_append, List.drop_of_length_le (by show 3 ≤ _; omega), List.nil_append]
      congr 1
      show _ - 3 = _
      omega
theorem Try.info_qu3 : (Try.prog.info? 83).map (fun i => i.size) = some 3 := by kernel_rfl
/-- queues, all of them in memory of the call's own -/
structure OwQ (w : World) (lo : Nat) (a : Option Addr) (n c : Nat) (qs : List Qw) : Prop where
  own : w.ownsRow 0 83 3 (.slice a n c) n (flQ qs)
  len : qs.length = n
  new : ∀ g, (Value.slice a n c).ownBlock = some g → lo ≤ g
  each : ∀ q, q ∈ qs → OwR w lo q.a q.n q.c q.rs
  apart : qs.Pairwise fun q r => ∀ x, Ofr q.v q.rs x → ¬ Ofr r.v r.rs x
/-- the blocks that queues own -/
def Qbl (v : Value) (qs : List Qw) (x : Nat) : Prop := v.ownBlock = some x ∨ ∃ q, q ∈ qs ∧ Ofr q.v q.rs x
theorem OwQ.nil (w : World) (lo : Nat) : OwQ w lo none 0 0 [] := ⟨World.ownsRow_nil _ _ _ _, rfl, (fun g h => by simp [Value.ownBlock] at h), (fun k h => by cases h), List.Pairwise.nil⟩
theorem OwQ.max {w : World} {lo : Nat} {a : Option Addr} {n c : Nat} {qs : List Qw} (h : OwQ w lo a n c qs) : n ≤ c ∧ c ≤ maxLen := by
  rcases h.own.2 with ⟨h1, h2⟩ | ⟨g, cap', cur, h1, _, h3, h4, h5, _⟩
  · simp only [Value.slice.injEq] at h1; obtain ⟨_, h6, h7⟩ := h1; subst h6; subst h7; exact ⟨Nat.le_refl _, Nat.zero_le _⟩
  · simp only [Value.slice.injEq] at h1; obtain ⟨_, _, h7⟩ := h1; subst h7; exact ⟨h4, h5⟩
theorem OwQ.someQ {w : World} {lo : Nat} {a : Option Addr} {n c : Nat} {qs : List Qw} (h : OwQ w lo a n c qs) (h0 : 0 < n) : ∃ g, a = some ⟨g, 0, none⟩ := by
  rcases h.own.2 with ⟨h1, h2⟩ | ⟨g, cap', cur, h1, _⟩
  · omega
  · simp only [Value.slice.injEq] at h1; exact ⟨g, h1.1⟩
theorem OwQ.cell {w : World} {lo g n c : Nat} {qs : List Qw} (h : OwQ w lo (some ⟨g, 0, none⟩) n c qs) {i : Nat} {q : Qw} (hi : qs[i]? = some q) :
    w.cell? ⟨g, i * 3, none⟩ = some (.int .i64 q.ow) ∧ w.cell? ⟨g, i * 3 + 1, none⟩ = some (.slice q.a q.n q.c) ∧ w.cell? ⟨g, i * 3 + 2, none⟩ = some (.int .i64 q.go) := by
  have hc : ∀ j, j < 3 → ∀ u, q.cells[j]? = some u → w.cell? ⟨g, i * 3 + j, none⟩ = some u := fun j hj u hu => by
    have hf := flQ_at qs i q hi j hj
    rw [hu] at hf
    have := h.own.cells (g := g) rfl (i * 3 + j) u hf
    rw [addr_add', Nat.zero_add] at this
    exact this
  exact ⟨hc 0 (by decide) _ rfl, hc 1 (by decide) _ rfl, hc 2 (by decide) _ rfl⟩
theorem OwQ.free {w : World} {lo g n c : Nat} {qs : List Qw} (h : OwQ w lo (some ⟨g, 0, none⟩) n c qs) (i : Nat) : w.frozen? ⟨g, i, none⟩ = false := h.own.frozenAt i
theorem OwQ.keep {w w' : World} {lo : Nat} {a : Option Addr} {n c : Nat} {qs : List Qw} (h : OwQ w lo a n c qs) (hg : w.grownBy w' none) : OwQ w' lo a n c qs :=
  ⟨h.own.kept hg (by cases (Value.slice a n c).ownBlock <;> simp), h.len, h.new, fun k hk => (h.each k hk).keep hg, h.apart⟩
theorem OwQ.wide {w : World} {lo lo' : Nat} {a : Option Addr} {n c : Nat} {qs : List Qw} (h : OwQ w lo a n c qs) (hl : lo' ≤ lo) : OwQ w lo' a n c qs :=
  ⟨h.own, h.len, fun g hg => Nat.le_trans hl (h.new g hg), fun k hk => (h.each k hk).wide hl, h.apart⟩
theorem OwQ.hi {w : World} {lo : Nat} {a : Option Addr} {n c : Nat} {qs : List Qw} (h : OwQ w lo a n c qs) {x : Nat} (hx : Qbl (.slice a n c) qs x) : x < w.heap.size ∧ lo ≤ x := by
  rcases hx with hx | ⟨k, hk, hx⟩
  · refine ⟨?_, h.new x hx⟩
    rcases h.own.2 with ⟨h1, _⟩ | ⟨g, cap', cur, h1, _, h3, _⟩
    · rw [h1] at hx; simp [Value.ownBlock] at hx
    · rw [h1] at hx
      have hx : g = x := Option.some.inj hx
      subst hx
      exact (Array.getElem?_eq_some_iff.1 h3).1
  · exact ⟨ofr_hi (h.each k hk).bef hx, ofr_lo (h.each k hk) hx⟩
theorem OwQ.fz {w w' : World} {p : Nat → Prop} {lo : Nat} {a : Option Addr} {n c : Nat} {qs : List Qw} (h : OwQ w lo a n c qs) (hF : Fz p w w') (hn : ∀ x, Qbl (.slice a n c) qs x → ¬ p x) : OwQ w' lo a n c qs := by
  refine ⟨⟨h.own.1, ?_⟩, h.len, h.new, fun k hk => (h.each k hk).fz hF (fun x e => hn x (.inr ⟨k, hk, e⟩)), h.apart⟩
  rcases h.own.2 with h1 | ⟨g, cap', cur, h1, h2, h3, h4⟩
  · exact .inl h1
  · refine .inr ⟨g, cap', cur, h1, h2, ?_, h4⟩
    rw [hF.block g (Array.getElem?_eq_some_iff.1 h3).1 (hn g (.inl (by rw [h1]; rfl)))]
    exact h3
theorem Fz.of1 {w w' : World} {g : Nat} (u : w.grownBy w' (some g)) : Fz (fun x => x = g) w w' := (Fz.refl _ w).step u (fun k e _ => (Option.some.inj e).symm)
theorem Fz.ofO {w w' : World} {r : Option Nat} (u : w.grownBy w' r) : Fz (fun x => r = some x) w w' := (Fz.refl _ w).step u (fun k e _ => e)
theorem OwQ.far {w w' : World} {lo x : Nat} {a : Option Addr} {n c : Nat} {qs : List Qw} (h : OwQ w lo a n c qs) (hg : w.grownBy w' (some x)) (hx : x < lo) : OwQ w' lo a n c qs :=
  h.fz (Fz.of1 hg) (fun y hy e => by have := (h.hi hy).2; have e : y = x := e; omega)
/-- no box of another type -/
theorem OwQ.box {w : World} {lo n c g : Nat} {a : Option Addr} {qs : List Qw} {t : TypeId} {cs : Array Value} (h : OwQ w lo a n c qs) (b : BxS w g t cs) (h0 : 83 ≠ t) (h1 : 22 ≠ t) (h2 : 5 ≠ t) : ¬ Qbl (.slice a n c) qs g := by
  rintro (e | ⟨q, hq, e⟩)
  · rcases h.own.2 with ⟨h1, _⟩ | ⟨x, cap, cur, h1, _, hh, _⟩
    · rw [h1] at e; simp [Value.ownBlock] at e
    · rw [h1] at e
      have e : x = g := Option.some.inj e
      subst e
      unfold BxS at b
      rw [hh] at b
      injection b with b
      injection b with _ b _
      exact h0 b
  · exact ofr_box (h.each q hq) b h1 h2 e rfl
theorem OwQ.rdq {w : World} {lo : Nat} {a : Option Addr} {n c : Nat} {qs : List Qw} (h : OwQ w lo a n c qs) : RdQ w a n c (fun i => (qs.getD i qw0).u) := by
  have hm := h.max
  have hl := h.len
  refine ⟨hm.1, hm.2, fun h0 => ?_, fun i hi => ?_⟩
  · obtain ⟨g, rfl⟩ := h.someQ h0
    have hb := (h.hi (x := g) (.inl rfl)).1
    refine ⟨g, 0, rfl, hb, fun i hi => ?_⟩
    have e : qs[i]? = some (qs.getD i qw0) := by rw [List.getD_eq_getElem?_getD, List.getElem?_eq_getElem (by omega)]; rfl
    have := h.cell e
    rw [Nat.zero_add]
    exact this
  · have hm : qs.getD i qw0 ∈ qs := by rw [List.getD_eq_getElem?_getD, List.getElem?_eq_getElem (by omega)]; exact List.getElem_mem _
    exact (h.each _ hm).rdr
/-- a row of queues is no row of theirs -/
theorem OwQ.row_ne {w : World} {lo lo' g n c : Nat} {qs : List Qw} (h : OwQ w lo (some ⟨g, 0, none⟩) n c qs) {a : Option Addr} {m k : Nat} {rs : List Rw} (hr : OwR w lo' a m k rs) {x : Nat} (hx : Ofr (.slice a m k) rs x) : x ≠ g := by
  rcases h.own.2 with ⟨h1, _⟩ | ⟨y, cap', cur, h1, _, hh, _⟩
  · simp at h1
  · simp only [Value.slice.injEq, Option.some.injEq, Addr.mk.injEq] at h1
    obtain ⟨⟨rfl, _⟩, _, rfl⟩ := h1
    exact ofr_box hr hh (by decide) (by decide) hx
/-- a queue is written into its row -/
theorem OwQ.set {w w' : World} {lo g n c i : Nat} {qs : List Qw} {q' : Qw} (h : OwQ w lo (some ⟨g, 0, none⟩) n c qs) (ho : w'.ownsRow 0 83 3 (.slice (some ⟨g, 0, none⟩) n c) n (flQ (qs.set i q'))) (u : w.grownBy w' (some g)) (hi : i < n)
    (hq : OwR w lo q'.a q'.n q'.c q'.rs) (hap : ∀ j r, j ≠ i → qs[j]? = some r → ∀ x, Ofr r.v r.rs x → ¬ Ofr q'.v q'.rs x) : OwQ w' lo (some ⟨g, 0, none⟩) n c (qs.set i q') := by
  have hl := h.len
  have hpw := List.pairwise_iff_getElem.1 h.apart
  have hk : ∀ r : Qw, OwR w lo r.a r.n r.c r.rs → OwR w' lo r.a r.n r.c r.rs := fun r hr => hr.fz (Fz.of1 u) (fun x hx e => h.row_ne hr hx e)
  refine ⟨ho, by rw [List.length_set]; exact hl, h.new, fun r hr => ?_, List.pairwise_iff_getElem.2 (fun k j hkl hjl hkj x hx e => ?_)⟩
  · rcases List.mem_or_eq_of_mem_set hr with hr | rfl
    · exact hk r (h.each r hr)
    · exact hk _ hq
  · have hkl' := hkl
    have hjl' := hjl
    rw [List.length_set] at hkl' hjl'
    by_cases hki : k = i
    · subst hki
      rw [List.getElem_set_self] at hx
      rw [List.getElem_set_ne (by omega)] at e
      exact hap j _ (by omega) (List.getElem?_eq_getElem hjl') x e hx
    · rw [List.getElem_set_ne (fun e => hki e.symm)] at hx
      by_cases hji : j = i
      · subst hji
        rw [List.getElem_set_self] at e
        exact hap k _ hki (List.getElem?_eq_getElem hkl') x hx e
      · rw [List.getElem_set_ne (fun e => hji e.symm)] at e
        exact hpw k j hkl' hjl' hkj x hx e
/-- a queue more -/
theorem OwQ.push {w w' : World} {lo : Nat} {ao : Option Addr} {n co : Nat} {qs : List Qw} (hA : OwQ w lo ao n co qs) (hlo : lo ≤ w.heap.size) {g cap : Nat} (hgx : (Value.slice ao n co).ownBlock = some g ∨ w.heap.size ≤ g)
    (hg : w.grownBy w' (Value.slice ao n co).ownBlock) {k : Qw} (hk : OwR w lo k.a k.n k.c k.rs) (hap : ∀ q, q ∈ qs → ∀ x, Ofr q.v q.rs x → ¬ Ofr k.v k.rs x)
    (hown : w'.ownsRow 0 83 3 (.slice (some ⟨g, 0, none⟩) (n + 1) cap) (n + 1) (flQ qs ++ k.cells)) : OwQ w' lo (some ⟨g, 0, none⟩) (n + 1) cap (qs ++ [k]) := by
  have hty : ∀ k : Qw, OwR w lo k.a k.n k.c k.rs → OwR w' lo k.a k.n k.c k.rs := fun k hk => hk.fz (Fz.ofO hg) (fun x hx e => by
    rcases hA.own.2 with ⟨h1, _⟩ | ⟨y, cap, cur, h1, _, hh, _⟩
    · rw [h1] at e; simp [Value.ownBlock] at e
    · rw [h1] at e
      have e : y = x := Option.some.inj e
      exact ofr_box hk hh (by decide) (by decide) hx e.symm)
  refine ⟨by rw [flQ_app]; simpa [flQ] using hown, by simp [hA.len], fun y hy => ?_, fun q hq => ?_, List.pairwise_append.2 ⟨hA.apart, List.pairwise_singleton _ _, fun r hr s hs => by rw [List.mem_singleton.1 hs]; exact hap r hr⟩⟩
  · have e : g = y := Option.some.inj hy
    subst e
    rcases hgx with h | h
    · exact hA.new g h
    · omega
  · rcases List.mem_append.1 hq with hq | hq
    · exact hty q (hA.each q hq)
    · have hq := List.mem_singleton.1 hq
      subst hq
      exact hty q hk
theorem three_row (w : World) (k : Qw) : ∀ j u, k.cells[j]? = some u → (w.alloc (.cells k.cells.toArray 83)).cell? ((⟨w.heap.size, 0, none⟩ : Addr).add j) = some u := by
  intro j u hu
  rw [addr_add', Nat.zero_add]
  have b := BxS.new w 83 k.cells.toArray
  have hj : j < k.cells.length := (List.getElem?_eq_some_iff.1 hu).1
  rw [b.cell j (by simpa using hj)]
  rw [← hu]
  simp
/-- 'append(v, q)' of queues -/
theorem wpList_psQ (w : World) (lo : Nat) (k : Qw) {ops : Array Oper} {rest : List Oper} {o : Oper} {a : Act} {Q : Exit → Act → World → Prop} (hg : o.guard = none) (s x : Operand)
    (hop : o.op = Op.call { callee := .builtin .append, args := #[s, x], argTypes := #[36, 36] }) (ao : Option Addr) (m co : Nat) (qs : List Qw) (hs : a.eval s = .slice ao m co)
    (hA : OwQ w lo ao m co qs) (hlo : lo ≤ w.heap.size) (hx : a.eval x = .slice (some ⟨w.heap.size, 0, none⟩) 1 1) (hb : (m + 1) * 40 ≤ 140737488355328) (cs : Array Value) (hcs : cs = k.cells.toArray) (hk : OwR w lo k.a k.n k.c k.rs) (hap : ∀ q, q ∈ qs → ∀ x, Ofr q.v q.rs x → ¬ Ofr k.v k.rs x)
    (hK : ∀ gx cx w', OwQ w' lo (some ⟨gx, 0, none⟩) (m + 1) cx (qs ++ [k]) → w.grownBy w' (Value.slice ao m co).ownBlock → ((Value.slice ao m co).ownBlock = some gx ∨ w.heap.size ≤ gx) → wpList Try.prog ops Q rest (a.put o.dst (.slice (some ⟨gx, 0, none⟩) (m + 1) cx)) w') :
    wpList Try.prog ops Q (o :: rest) a (w.alloc (.cells cs 83)) := by
  subst hcs
  obtain ⟨i0, hi, hz0, hz1, hz2⟩ := info_parts Try.info_qu
  have gA := World.grownBy_alloc w (.cells k.cells.toArray 83) none
  refine wpList_apS _ hg s x 36 83 i0 _ 3 40 Try.underlying36 hi hz0 hz1 hz2 rfl (by decide) hop (.slice ao m co) m (flQ qs) hs (hA.own.alloc _) ⟨w.heap.size, 0, none⟩ 1 1 k.cells hx rfl (three_row w k) (by simp [Qw.cells, Value.oneCell']) (by decide) (by unfold maxLen; omega) (by omega) ?_
  intro gx cx w' hgx hgr hown
  have hsz := gA.size
  have hor : (Value.slice ao m co).ownBlock = some gx ∨ w.heap.size ≤ gx := by
    rcases hgx with h | h
    · exact .inl h
    · exact .inr (by omega)
  have hgr' := grown_trans (grown_weak gA (Value.slice ao m co).ownBlock) hgr
  exact hK gx cx w' (hA.push hlo hor hgr' hk hap hown) hgr' hor
theorem run_stQueue (w : World) (g o : Nat) (v0 v1 v2 : Value) (h1 : ∀ v, v ∈ [v0, v1, v2] → v.oneCell' = true) (hc : ∀ j, j < 3 → (w.cell? ⟨g, o + j, none⟩).isSome = true) (hf : ∀ j, j < 3 → w.frozen? ⟨g, o + j, none⟩ = false) :
    (Instr.storeAt 83 (.pointer (some ⟨g, o, none⟩)) (.agg #[v0, v1, v2])).run Try.prog w = .ok () (w.setCells g o [v0, v1, v2]) := by
  have hst := run_storeCells_cells (P := Try.prog) g o [v0, v1, v2] 0 w (by simpa using hc) (by simpa using hf) h1
  simp only [Nat.add_zero] at hst
  have i4 := Try.info_qu3
  cases hq : Try.prog.info? 83 with
  | none => simp [hq] at i4
  | some i =>
    have hs : 3 = i.size := by simp [hq] at i4; omega
    simp [Instr.storeAt, Instr.sureAddr, storeVar, sizeOf, typeInfo, hq, Value.cells, ← hs, hst]
theorem setCells_ownQ {g n cap : Nat} {qs : List Qw} {w : World} (h : w.ownsRow 0 83 3 (.slice (some ⟨g, 0, none⟩) n cap) n (flQ qs)) (hl : qs.length = n) (i : Nat) (hi : i < n) (q : Qw) : (w.setCells g (i * 3) q.cells).ownsRow 0 83 3 (.slice (some ⟨g, 0, none⟩) n cap) n (flQ (qs.set i q)) ∧ w.grownBy (w.setCells g (i * 3) q.cells) (some g) := by
  have hsp : ∀ (vs : List Value) (o : Nat) (w : World) (X : List Value), w.ownsRow 0 83 3 (.slice (some ⟨g, 0, none⟩) n cap) n X → o + vs.length ≤ n * 3 → (w.setCells g o vs).ownsRow 0 83 3 (.slice (some ⟨g, 0, none⟩) n cap) n (X.take o ++ vs ++ X.drop (o + vs.length)) ∧ w.grownBy (w.setCells g o vs) (some g) := by
    intro vs
    induction vs with
    | nil =>
      intro o w X h ho
      refine ⟨?_, World.grownBy.refl _ _⟩
      rw [List.append_nil, List.length_nil, Nat.add_zero, List.take_append_drop]
      exact h
    | cons v vs ih =>
      intro o w X h ho
      rw [List.length_cons] at ho
      have hX := h.1
      have h1 : (w.setCell ⟨g, o, none⟩ v).ownsRow 0 83 3 (.slice (some ⟨g, 0, none⟩) n cap) n (X.set o v) := by
        refine ⟨by rw [List.length_set]; exact h.1, ?_⟩
        rcases h.2 with ⟨h1, _⟩ | ⟨g', cap', cur, h1, h2, h3, h4, h5, h6, h7⟩
        · simp at h1
        · simp only [Value.slice.injEq, Option.some.injEq, Addr.mk.injEq] at h1
          obtain ⟨⟨rfl, _⟩, _, rfl⟩ := h1
          refine .inr ⟨g, cap, cur.setIfInBounds o v, rfl, h2, heap_setCell_same w g o _ _ _ h3, h4, h5, by simpa using h6, ?_⟩
          rw [← h7, Array.toList_setIfInBounds, List.take_set]
      obtain ⟨k1, k2⟩ := ih (o + 1) _ _ h1 (by omega)
      refine ⟨?_, grown_trans (grown_set w g o v) k2⟩
      have e : (X.set o v).take (o + 1) ++ vs ++ (X.set o v).drop (o + 1 + vs.length) = X.take o ++ (v :: vs) ++ X.drop (o + (v :: vs).length) := by
        rw [List.drop_set_of_lt (by omega), List.take_add_one, List.take_set_of_le (Nat.le_refl _), List.getElem?_set_self (by omega), List.length_cons, show o + 1 + vs.length = o + (vs.length + 1) by omega]
        simp
      rw [← e]
      exact k1
  obtain ⟨k1, k2⟩ := hsp q.cells (i * 3) w _ h (by show i * 3 + 3 ≤ _; omega)
  refine ⟨?_, k2⟩
  have e : flQ (qs.set i q) = (flQ qs).take (i * 3) ++ q.cells ++ (flQ qs).drop (i * 3 + q.cells.length) := by
    rw [flQ_take, show i * 3 + q.cells.length = (i + 1) * 3 by show i * 3 + 3 = _; omega, flQ_drop, List.set_eq_take_append_cons_drop, if_pos (by omega), flQ_app]
    show flQ (qs.take i) ++ (q.cells ++ flQ (qs.drop (i + 1))) = _
    rw [List.append_assoc]
  rw [e]
  exact k1
/-- a queue is stored into a row of them -/
theorem wpList_stQ (w : World) {ops : Array Oper} {rest : List Oper} {o : Oper} {a : Act} {Q : Exit → Act → World → Prop} (hg : o.guard = none) (p x : Operand) (hop : o.op = Op.store 83 p x)
    (g i n cap : Nat) (qs : List Qw) (q : Qw) (hp : a.eval p = .pointer (some ⟨g, i * 3, none⟩)) (hx : a.eval x = .agg #[.int .i64 q.ow, .slice q.a q.n q.c, .int .i64 q.go]) (h : w.ownsRow 0 83 3 (.slice (some ⟨g, 0, none⟩) n cap) n (flQ qs)) (hl : qs.length = n) (hi : i < n)
    (hK : ∀ w', w'.ownsRow 0 83 3 (.slice (some ⟨g, 0, none⟩) n cap) n (flQ (qs.set i q)) → w.grownBy w' (some g) → wpList Try.prog ops Q rest (a.put o.dst undef) w') :
    wpList Try.prog ops Q (o :: rest) a w := by
  refine wpList_plain hg fun K hK' => ?_
  obtain ⟨k1, k2⟩ := setCells_ownQ h hl i hi q
  have hst : (Instr.storeAt 83 (.pointer (some ⟨g, i * 3, none⟩)) (.agg #[.int .i64 q.ow, .slice q.a q.n q.c, .int .i64 q.go])).run Try.prog w = .ok () (w.setCells g (i * 3) q.cells) := by
    rcases h.2 with ⟨h1, _⟩ | ⟨g', cap', cur, h1, _, h3, h4, _, h6, _⟩
    · simp at h1
    · simp only [Value.slice.injEq, Option.some.injEq, Addr.mk.injEq] at h1
      obtain ⟨⟨rfl, _⟩, _, rfl⟩ := h1
      refine run_stQueue w g (i * 3) _ _ _ (by intro v hv; simp only [List.mem_cons, List.not_mem_nil, or_false] at hv; rcases hv with rfl | rfl | rfl <;> rfl) (fun j hj => ?_) (fun j hj => frozen_of_row w g _ _ _ h3)
      rw [cell_of_row _ _ _ _ _ _ h3, Array.getElem?_eq_getElem (by omega)]
      rfl
  unfold Oper.wp
  simp [execOp, hop, hp, hx, hst, Result.andThen]
  exact hK' _ _ (hK _ k1 k2)
/-- a row is written into a row of rows -/
theorem OwR.set {w : World} {lo g n c i : Nat} {rs : List Rw} {r : Rw} (h : OwR w lo (some ⟨g, 0, none⟩) n c rs) (hi : i < n) (hr : Ans w lo r.a r.n r.c r.D) (hap : ∀ j q, j ≠ i → rs[j]? = some q → ∀ x, q.v.ownBlock = some x → r.v.ownBlock ≠ some x) :
    OwR (w.setCell ⟨g, i, none⟩ r.v) lo (some ⟨g, 0, none⟩) n c (rs.set i r) := by
  have hl := h.len
  have u := grown_set w g i r.v
  have ho := (h.own.stored i r.v).1
  have hpw := List.pairwise_iff_getElem.1 h.apart
  have hk : ∀ q : Rw, Ans w lo q.a q.n q.c q.D → Ans (w.setCell ⟨g, i, none⟩ r.v) lo q.a q.n q.c q.D := fun q hq => hq.fz (Fz.of1 u) (fun x hx e => by
    have e : x = g := e
    subst e
    exact own_apart hq.own h.own (fun e => ne_u8 e.symm) x hx rfl)
  refine ⟨?_, by rw [List.length_set]; exact hl, h.new, fun q hq => ?_, List.pairwise_iff_getElem.2 (fun k j hkl hjl hkj x hx e => ?_)⟩
  · have e : (flatR rs).set i r.v = flatR (rs.set i r) := by unfold flatR; rw [List.map_set]
    rw [← e]; exact ho
  · rcases List.mem_or_eq_of_mem_set hq with hq | rfl
    · exact hk q (h.each q hq)
    · exact hk _ hr
  · have hkl' := hkl
    have hjl' := hjl
    rw [List.length_set] at hkl' hjl'
    by_cases hki : k = i
    · subst hki
      rw [List.getElem_set_self] at hx
      rw [List.getElem_set_ne (by omega)] at e
      exact hap j _ (by omega) (List.getElem?_eq_getElem hjl') x e hx
    · rw [List.getElem_set_ne (fun e => hki e.symm)] at hx
      by_cases hji : j = i
      · subst hji
        rw [List.getElem_set_self] at e
        exact hap k _ hki (List.getElem?_eq_getElem hkl') x hx e
      · rw [List.getElem_set_ne (fun e => hji e.symm)] at e
        exact hpw k j hkl' hjl' hkj x hx e
/-- as data -/
structure RdS (w : World) (a : Option Addr) (n c : Nat) (Qs : List Qd) : Prop where
  len : Qs.length = n
  ex : ∃ F : Nat → Qu, RdQ w a n c F ∧ ∀ i, i < n → (F i).ow = (Qs.getD i qd0).ow ∧ (F i).go = (Qs.getD i qd0).go ∧ (F i).n = (Qs.getD i qd0).P.length ∧ ∀ j, j < (F i).n → ((F i).R j).D = (Qs.getD i qd0).P.getD j []
structure OwS (w : World) (lo : Nat) (a : Option Addr) (n c : Nat) (qs : List Qw) (Qs : List Qd) : Prop where
  o : OwQ w lo a n c qs
  d : qs.map Qw.d = Qs
theorem RdS.keep {w w' : World} {a : Option Addr} {n c : Nat} {Qs : List Qd} (h : RdS w a n c Qs) (hg : w.grownBy w' none) : RdS w' a n c Qs := by
  obtain ⟨F, h1, h2⟩ := h.ex
  exact ⟨h.len, F, h1.keep hg, h2⟩
theorem OwS.keep {w w' : World} {lo : Nat} {a : Option Addr} {n c : Nat} {qs : List Qw} {Qs : List Qd} (h : OwS w lo a n c qs Qs) (hg : w.grownBy w' none) : OwS w' lo a n c qs Qs := ⟨h.o.keep hg, h.d⟩
theorem OwS.wide {w : World} {lo lo' : Nat} {a : Option Addr} {n c : Nat} {qs : List Qw} {Qs : List Qd} (h : OwS w lo a n c qs Qs) (hl : lo' ≤ lo) : OwS w lo' a n c qs Qs := ⟨h.o.wide hl, h.d⟩
theorem OwS.fz {w w' : World} {p : Nat → Prop} {lo : Nat} {a : Option Addr} {n c : Nat} {qs : List Qw} {Qs : List Qd} (h : OwS w lo a n c qs Qs) (hF : Fz p w w') (hn : ∀ x, Qbl (.slice a n c) qs x → ¬ p x) : OwS w' lo a n c qs Qs := ⟨h.o.fz hF hn, h.d⟩
theorem OwS.far {w w' : World} {lo x : Nat} {a : Option Addr} {n c : Nat} {qs : List Qw} {Qs : List Qd} (h : OwS w lo a n c qs Qs) (hg : w.grownBy w' (some x)) (hx : x < lo) : OwS w' lo a n c qs Qs := ⟨h.o.far hg hx, h.d⟩
theorem OwS.len {w : World} {lo : Nat} {a : Option Addr} {n c : Nat} {qs : List Qw} {Qs : List Qd} (h : OwS w lo a n c qs Qs) : Qs.length = n := by rw [← h.d, List.length_map]; exact h.o.len
theorem OwS.rd {w : World} {lo : Nat} {a : Option Addr} {n c : Nat} {qs : List Qw} {Qs : List Qd} (h : OwS w lo a n c qs Qs) : RdS w a n c Qs := by
  refine ⟨h.len, _, h.o.rdq, fun i hi => ?_⟩
  have hl := h.o.len
  have hg : qs.getD i qw0 = qs[i]'(by omega) := by rw [List.getD_eq_getElem?_getD, List.getElem?_eq_getElem (by omega)]; rfl
  have e : Qs.getD i qd0 = (qs[i]'(by omega)).d := by rw [← h.d, List.getD_eq_getElem?_getD, List.getElem?_map, List.getElem?_eq_getElem (by omega)]; rfl
  rw [e, hg]
  have hO := h.o.each (qs[i]'(by omega)) (List.getElem_mem _)
  refine ⟨rfl, rfl, ?_, fun j hj => ?_⟩
  · show (qs[i]'(by omega)).n = ((qs[i]'(by omega)).rs.map Rw.D).length
    rw [List.length_map]; exact hO.len.symm
  · show ((qs[i]'(by omega)).rs.getD j kr0).D = ((qs[i]'(by omega)).rs.map Rw.D).getD j []
    rw [getD_map_D _ j (by rw [hO.len]; exact hj)]
theorem RdS.nil (w : World) : RdS w none 0 0 [] := (⟨OwQ.nil w 0, rfl⟩ : OwS w 0 none 0 0 [] []).rd
theorem OwS.nil (w : World) (lo : Nat) : OwS w lo none 0 0 [] [] := ⟨OwQ.nil w lo, rfl⟩
/-- the law's sameSender -/
theorem sameSender2_any (cr sz ma tu : Int) (a b : Option Addr) (n m cap cap' : Nat) (Qs : List Qd) (w : World) (h : RdS w a n cap Qs) (k : RdS w b m cap' Qs) :
    Calls Try.prog 25 #[.agg #[.int .i64 cr, .int .i64 sz, .int .i64 ma, .int .i64 tu, .slice a n cap], .agg #[.int .i64 cr, .int .i64 sz, .int .i64 ma, .int .i64 tu, .slice b m cap']] w fun e w' => e = .returned (.bool true) ∧ w.grownBy w' none := by
  have e : n = m := by rw [← h.len, ← k.len]
  subst e
  obtain ⟨F, h1, h2⟩ := h.ex
  obtain ⟨G, k1, k2⟩ := k.ex
  refine sameSender_any cr sz ma tu a b n cap cap' F G w h1 k1 (fun i hi => ?_)
  obtain ⟨a1, a2, a3, a4⟩ := h2 i hi
  obtain ⟨b1, b2, b3, b4⟩ := k2 i hi
  exact ⟨by rw [a1, b1], by rw [a2, b2], by rw [a3, b3], fun j hj => by rw [a4 j hj, b4 j (by rw [b3, ← a3]; exact hj)]⟩
/-- which senders may be, as data -/
def quD (q : Qd) : Bool := wiB q.ow 255 && decide (q.P.length ≤ 200) && q.P.all onP && (if q.P.length = 0 then decide (q.go = 0) else wiB q.go (((q.P.getD 0 []).length : Int) - 1))
def seD (cr sz ma tu : Int) (Qs : List Qd) : Bool := decide (opE cr sz = 0) && wiB ma 255 && wiB tu 6 && decide (Qs.length = 7) && Qs.all quD
theorem alP_eq (F : Nat → Rw) (P : List (List Nat)) (n : Nat) (hn : n ≤ P.length) (h : ∀ j, j < n → (F j).D = P.getD j []) : alP F n = (P.take n).all onP := by
  induction n with
  | zero => rfl
  | succ n ih =>
    show (alP F n && onP (F n).D) = _
    rw [ih (by omega) (fun j hj => h j (by omega)), h n (by omega)]
    have e : P.take (n + 1) = P.take n ++ [P.getD n []] := by
      rw [List.take_add_one, List.getD_eq_getElem?_getD, List.getElem?_eq_getElem (by omega)]; rfl
    rw [e, List.all_append]
    simp
theorem alQ_eq (F : Nat → Qu) (Qs : List Qd) (n : Nat) (hn : n ≤ Qs.length) (h : ∀ j, j < n → quB (F j) = quD (Qs.getD j qd0)) : alQ F n = (Qs.take n).all quD := by
  induction n with
  | zero => rfl
  | succ n ih =>
    show (alQ F n && quB (F n)) = _
    rw [ih (by omega) (fun j hj => h j (by omega)), h n (by omega)]
    have e : Qs.take (n + 1) = Qs.take n ++ [Qs.getD n qd0] := by
      rw [List.take_add_one, List.getD_eq_getElem?_getD, List.getElem?_eq_getElem (by omega)]; rfl
    rw [e, List.all_append]
    simp
theorem seB_seD {w : World} {a : Option Addr} {n c : Nat} {F : Nat → Qu} {Qs : List Qd} (cr sz ma tu : Int) (hl : Qs.length = n) (h1 : RdQ w a n c F) (h2 : ∀ i, i < n → (F i).ow = (Qs.getD i qd0).ow ∧ (F i).go = (Qs.getD i qd0).go ∧ (F i).n = (Qs.getD i qd0).P.length ∧ ∀ j, j < (F i).n → ((F i).R j).D = (Qs.getD i qd0).P.getD j []) :
    seB cr sz ma tu n F = seD cr sz ma tu Qs := by
  unfold seB seD
  rw [hl]
  congr 1
  rw [alQ_eq F Qs n (by omega) (fun j hj => ?_), List.take_of_length_le (by omega)]
  obtain ⟨a1, a2, a3, a4⟩ := h2 j hj
  unfold quB quD goB
  rw [a1, a2, alP_eq (F j).R (Qs.getD j qd0).P (F j).n (by omega) a4, a3, List.take_of_length_le (Nat.le_refl _)]
  congr 1
  by_cases h0 : (Qs.getD j qd0).P.length = 0
  · rw [if_pos h0, if_pos h0]
  · rw [if_neg h0, if_neg h0]
    have hr := (h1.data j hj).data 0 (by omega)
    rw [← a4 0 (by omega), hr.len]
theorem senderMay2_any (cr sz ma tu : Int) (a : Option Addr) (n cap : Nat) (Qs : List Qd) (w : World) (h : RdS w a n cap Qs) :
    Calls Try.prog 56 #[.agg #[.int .i64 cr, .int .i64 sz, .int .i64 ma, .int .i64 tu, .slice a n cap]] w fun e w' => e = .returned (.bool (seD cr sz ma tu Qs)) ∧ w.grownBy w' none := by
  obtain ⟨F, h1, h2⟩ := h.ex
  rw [← seB_seD cr sz ma tu h.len h1 h2]
  exact senderMay_any cr sz ma tu a n cap F w h1
/-- rows that are short enough -/
def FitQ (b : Nat) (Qs : List Qd) : Prop := ∀ q, q ∈ Qs → Fit b q.P
theorem rsenderMay2_any (cr sz ma tu : Int) (a : Option Addr) (n cap : Nat) (Qs : List Qd) (w : World) (h : RdS w a n cap Qs) (hF : FitQ 140737488351232 Qs) :
    Calls Try.prog 53 #[.agg #[.int .i64 cr, .int .i64 sz, .int .i64 ma, .int .i64 tu, .slice a n cap]] w fun e w' => e = .returned (.bool (seD cr sz ma tu Qs)) ∧ w.grownBy w' none := by
  obtain ⟨F, h1, h2⟩ := h.ex
  rw [← seB_seD cr sz ma tu h.len h1 h2]
  have hl := h.len
  refine rsenderMay_any cr sz ma tu a n cap F w h1 (fun i hi j hj => ?_)
  obtain ⟨_, _, a3, a4⟩ := h2 i hi
  have hr := (h1.data i hi).data j hj
  rw [← hr.len, a4 j hj]
  have hm : Qs.getD i qd0 ∈ Qs := by rw [List.getD_eq_getElem?_getD, List.getElem?_eq_getElem (by omega)]; exact List.getElem_mem _
  have := (hF _ hm).at' j (by omega)
  omega
end Go.Proofs.Ytlmddjkplnbadaa
