import Derived.Test.YtlmddjkplnbadaaKHa
import Derived.Test.YtlmddjkplnbadaaNPu
import Derived.Test.YtlmddjkplnbadaaZR
import Derived.Test.YtlmddjkplnbadaaZRs
import Derived.Test.YtlmddjkplnbadaaZSub
namespace Go.Proofs.Ytlmddjkplnbadaa
open Go.RowKit
set_option maxRecDepth 100000
set_option linter.unusedVariables false
set_option linter.unusedSimpArgs false

/-- a queue: where its rows lie, and what it says -/
structure Qw where
  ow : Int
  a : Option Addr
  n : Nat
  c : Nat
  go : Int
  rs : List Rw
/-- a queue as data -/
structure Qd where
  ow : Int
  go : Int
  P : List (List Nat)
def Qw.d (q : Qw) : Qd := ⟨q.ow, q.go, q.rs.map Rw.D⟩
def Qw.v (q : Qw) : Value := .slice q.a q.n q.c
def Qw.cells (q : Qw) : List Value := [.int .i64 q.ow, .slice q.a q.n q.c, .int .i64 q.go]
def Qw.u (q : Qw) : Qu := ⟨q.ow, q.a, q.n, q.c, q.go, fun i => q.rs.getD i kr0⟩
def qw0 : Qw := ⟨0, none, 0, 0, 0, []⟩
def qd0 : Qd := ⟨0, 0, []⟩
def flQ (qs : List Qw) : List Value := qs.flatMap Qw.cells
theorem flQ_app (qs ls : List Qw) : flQ (qs ++ ls) = flQ qs ++ flQ ls := by simp [flQ]
theorem flQ_at (qs : List Qw) (i : Nat) (k : Qw) (h : qs[i]? = some k) (j : Nat) (hj : j < 3) : (flQ qs)[i * 3 + j]? = k.cells[j]? := by
  induction qs generalizing i with
  | nil => cases h
  | cons a qs ih =>
    cases i with
    | zero =>
      have h : some a = some k := h
      have h := Option.some.inj h
      subst h
      show (a.cells ++ flQ qs)[0 * 3 + j]? = _
      rw [List.getElem?_append_left (by show 0 * 3 + j < 3; omega), Nat.zero_mul, Nat.zero_add]
    | succ i =>
      have h : qs[i]? = some k := h
      show (a.cells ++ flQ qs)[(i + 1) * 3 + j]? = _
      rw [List.getElem?_append_right (by show 3 ≤ _; omega), show (i + 1) * 3 + j - a.cells.length = i * 3 + j by show _ - 3 = _; omega]
      exact ih i h
/-- one cell of a queue is written -/
theorem flQ_set (qs : List Qw) (i : Nat) (q q' : Qw) (h : qs[i]? = some q) (j : Nat) (hj : j < 3) (v : Value) (hc : q'.cells = q.cells.set j v) : (flQ qs).set (i * 3 + j) v = flQ (qs.set i q') := by
  induction qs generalizing i with
  | nil => cases h
  | cons a qs ih =>
    cases i with
    | zero =>
      have h : some a = some q := h
      have h := Option.some.inj h
      subst h
      show (a.cells ++ flQ qs).set (0 * 3 + j) v = q'.cells ++ flQ qs
      rw [hc, List.set_append_left _ _ (by show 0 * 3 + j < 3; omega), Nat.zero_mul, Nat.zero_add]
    | succ i =>
      have h : qs[i]? = some q := h
      show (a.cells ++ flQ qs).set ((i + 1) * 3 + j) v = a.cells ++ flQ (qs.set i q')
      rw [List.set_append_right _ _ (by show 3 ≤ _; omega), show (i + 1) * 3 + j - a.cells.length = i * 3 + j by show _ - 3 = _; omega, ih i h]
theorem flQ_take (qs : List Qw) (m : Nat) : (flQ qs).take (m * 3) = flQ (qs.take m) := by
  induction qs generalizing m with
  | nil => simp [flQ]
  | cons k qs ih =>
    cases m with
    | zero => simp [flQ]
    | succ m =>
      show (k.cells ++ flQ qs).take ((m + 1) * 3) = k.cells ++ flQ (qs.take m)
      rw [← ih m, List.take_append, List.take_of_length_le (by show 3 ≤ _; omega)]
      congr 2
      show _ - 3 = _
      omega
theorem flQ_drop (qs : List Qw) (m : Nat) : (flQ qs).drop (m * 3) = flQ (qs.drop m) := by
  induction qs generalizing m with
  | nil => simp [flQ]
  | cons k qs ih =>
    cases m with
    | zero => simp [flQ]
    | succ m =>
      show (k.cells ++ flQ qs).drop ((m + 1) * 3) = flQ (qs.drop m)
      rw [← ih m, List.drop_append, List.drop_of_length_le (by show 3 ≤ _; omega), List.nil_append]
      congr 1
      show _ - 3 = _
      omega
theorem Try.info_qu3 : (Try.prog.info? 83).map (fun i => i.size) = some 3 := by kernel_rfl
/-- queues, all of them in memory of the call's own -/
structure OwQ (w : World) (lo : Nat) (a : Option Addr) (n c : Nat) (qs : List Qw) : Prop where
  own : w.ownsRow 0 83 3 (.slice a n c) n (flQ qs)
  len : qs.length = n
  new : ∀ g, (Value.slice a n c).ownBlock = some g → lo ≤ g
  each : ∀ q, q ∈ qs → OwR w lo q.a q.n q.c q.rs
  apart : qs.Pairwise fun q r => ∀ x, Ofr q.v q.rs x → ¬ Ofr r.v r.rs x
/-- the blocks that queues own -/
def Qbl (v : Value) (qs : List Qw) (x : Nat) : Prop := v.ownBlock = some x ∨ ∃ q, q ∈ qs ∧ Ofr q.v q.rs x
theorem OwQ.nil (w : World) (lo : Nat) : OwQ w lo none 0 0 [] := ⟨World.ownsRow_nil _ _ _ _, rfl, (fun g h => by simp [Value.ownBlock] at h), (fun k h => by cases h), List.Pairwise.nil⟩
theorem OwQ.max {w : World} {lo : Nat} {a : Option Addr} {n c : Nat} {qs : List Qw} (h : OwQ w lo a n c qs) : n ≤ c ∧ c ≤ maxLen := by
  rcases h.own.2 with ⟨h1, h2⟩ | ⟨g, cap', cur, h1, _, h3, h4, h5, _⟩
  · simp only [Value.slice.injEq] at h1; obtain ⟨_, h6, h7⟩ := h1; subst h6; subst h7; exact ⟨Nat.le_refl _, Nat.zero_le _⟩
  · simp only [Value.slice.injEq] at h1; obtain ⟨_, _, h7⟩ := h1; subst h7; exact ⟨h4, h5⟩
theorem OwQ.someQ {w : World} {lo : Nat} {a : Option Addr} {n c : Nat} {qs : List Qw} (h : OwQ w lo a n c qs) (h0 : 0 < n) : ∃ g, a = some ⟨g, 0, none⟩ := by
  rcases h.own.2 with ⟨h1, h2⟩ | ⟨g, cap', cur, h1, _⟩
  · omega
  · simp only [Value.slice.injEq] at h1; exact ⟨g, h1.1⟩
theorem OwQ.cell {w : World} {lo g n c : Nat} {qs : List Qw} (h : OwQ w lo (some ⟨g, 0, none⟩) n c qs) {i : Nat} {q : Qw} (hi : qs[i]? = some q) :
    w.cell? ⟨g, i * 3, none⟩ = some (.int .i64 q.ow) ∧ w.cell? ⟨g, i * 3 + 1, none⟩ = some (.slice q.a q.n q.c) ∧ w.cell? ⟨g, i * 3 + 2, none⟩ = some (.int .i64 q.go) := by
  have hc : ∀ j, j < 3 → ∀ u, q.cells[j]? = some u → w.cell? ⟨g, i * 3 + j, none⟩ = some u := fun j hj u hu => by
    have hf := flQ_at qs i q hi j hj
    rw [hu] at hf
    have := h.own.cells (g := g) rfl (i * 3 + j) u hf
    rw [addr_add', Nat.zero_add] at this
    exact this
  exact ⟨hc 0 (by decide) _ rfl, hc 1 (by decide) _ rfl, hc 2 (by decide) _ rfl⟩
theorem OwQ.free {w : World} {lo g n c : Nat} {qs : List Qw} (h : OwQ w lo (some ⟨g, 0, none⟩) n c qs) (i : Nat) : w.frozen? ⟨g, i, none⟩ = false := h.own.frozenAt i
theorem OwQ.keep {w w' : World} {lo : Nat} {a : Option Addr} {n c : Nat} {qs : List Qw} (h : OwQ w lo a n c qs) (hg : w.grownBy w' none) : OwQ w' lo a n c qs :=
  ⟨h.own.kept hg (by cases (Value.slice a n c).ownBlock <;> simp), h.len, h.new, fun k hk => (h.each k hk).keep hg, h.apart⟩
theorem OwQ.wide {w : World} {lo lo' : Nat} {a : Option Addr} {n c : Nat} {qs : List Qw} (h : OwQ w lo a n c qs) (hl : lo' ≤ lo) : OwQ w lo' a n c qs :=
  ⟨h.own, h.len, fun g hg => Nat.le_trans hl (h.new g hg), fun k hk => (h.each k hk).wide hl, h.apart⟩
theorem OwQ.hi {w : World} {lo : Nat} {a : Option Addr} {n c : Nat} {qs : List Qw} (h : OwQ w lo a n c qs) {x : Nat} (hx : Qbl (.slice a n c) qs x) : x < w.heap.size ∧ lo ≤ x := by
  rcases hx with hx | ⟨k, hk, hx⟩
  · refine ⟨?_, h.new x hx⟩
    rcases h.own.2 with ⟨h1, _⟩ | ⟨g, cap', cur, h1, _, h3, _⟩
    · rw [h1] at hx; simp [Value.ownBlock] at hx
    · rw [h1] at hx
      have hx : g = x := Option.some.inj hx
      subst hx
      exact (Array.getElem?_eq_some_iff.1 h3).1
  · exact ⟨ofr_hi (h.each k hk).bef hx, ofr_lo (h.each k hk) hx⟩
theorem OwQ.fz {w w' : World} {p : Nat → Prop} {lo : Nat} {a : Option Addr} {n c : Nat} {qs : List Qw} (h : OwQ w lo a n c qs) (hF : Fz p w w') (hn : ∀ x, Qbl (.slice a n c) qs x → ¬ p x) : OwQ w' lo a n c qs := by
  refine ⟨⟨h.own.1, ?_⟩, h.len, h.new, fun k hk => (h.each k hk).fz hF (fun x e => hn x (.inr ⟨k, hk, e⟩)), h.apart⟩
  rcases h.own.2 with h1 | ⟨g, cap', cur, h1, h2, h3, h4⟩
  · exact .inl h1
  · refine .inr ⟨g, cap', cur, h1, h2, ?_, h4⟩
    rw [hF.block g (Array.getElem?_eq_some_iff.1 h3).1 (hn g (.inl (by rw [h1]; rfl)))]
    exact h3
theorem Fz.of1 {w w' : World} {g : Nat} (u : w.grownBy w' (some g)) : Fz (fun x => x = g) w w' := (Fz.refl _ w).step u (fun k e _ => (Option.some.inj e).symm)
theorem Fz.ofO {w w' : World} {r : Option Nat} (u : w.grownBy w' r) : Fz (fun x => r = some x) w w' := (Fz.refl _ w).step u (fun k e _ => e)
theorem OwQ.far {w w' : World} {lo x : Nat} {a : Option Addr} {n c : Nat} {qs : List Qw} (h : OwQ w lo a n c qs) (hg : w.grownBy w' (some x)) (hx : x < lo) : OwQ w' lo a n c qs :=
  h.fz (Fz.of1 hg) (fun y hy e => by have := (h.hi hy).2; have e : y = x := e; omega)
/-- no box of another type -/
theorem OwQ.box {w : World} {lo n c g : Nat} {a : Option Addr} {qs : List Qw} {t : TypeId} {cs : Array Value} (h : OwQ w lo a n c qs) (b : BxS w g t cs) (h0 : 83 ≠ t) (h1 : 22 ≠ t) (h2 : 5 ≠ t) : ¬ Qbl (.slice a n c) qs g := by
  rintro (e | ⟨q, hq, e⟩)
  · rcases h.own.2 with ⟨h1, _⟩ | ⟨x, cap, cur, h1, _, hh, _⟩
    · rw [h1] at e; simp [Value.ownBlock] at e
    · rw [h1] at e
      have e : x = g := Option.some.inj e
      subst e
      unfold BxS at b
      rw [hh] at b
      injection b with b
      injection b with _ b _
      exact h0 b
  · exact ofr_box (h.each q hq) b h1 h2 e rfl
theorem OwQ.rdq {w : World} {lo : Nat} {a : Option Addr} {n c : Nat} {qs : List Qw} (h : OwQ w lo a n c qs) : RdQ w a n c (fun i => (qs.getD i qw0).u) := by
  have hm := h.max
  have hl := h.len
  refine ⟨hm.1, hm.2, fun h0 => ?_, fun i hi => ?_⟩
  · obtain ⟨g, rfl⟩ := h.someQ h0
    have hb := (h.hi (x := g) (.inl rfl)).1
    refine ⟨g, 0, rfl, hb, fun i hi => ?_⟩
    have e : qs[i]? = some (qs.getD i qw0) := by rw [List.getD_eq_getElem?_getD, List.getElem?_eq_getElem (by omega)]; rfl
    have := h.cell e
    rw [Nat.zero_add]
    exact this
  · have hm : qs.getD i qw0 ∈ qs := by rw [List.getD_eq_getElem?_getD, List.getElem?_eq_getElem (by omega)]; exact List.getElem_mem _
    exact (h.each _ hm).rdr
/-- a row of queues is no row of theirs -/
theorem OwQ.row_ne {w : World} {lo lo' g n c : Nat} {qs : List Qw} (h : OwQ w lo (some ⟨g, 0, none⟩) n c qs) {a : Option Addr} {m k : Nat} {rs : List Rw} (hr : OwR w lo' a m k rs) {x : Nat} (hx : Ofr (.slice a m k) rs x) : x ≠ g := by
  rcases h.own.2 with ⟨h1, _⟩ | ⟨y, cap', cur, h1, _, hh, _⟩
  · simp at h1
  · simp only [Value.slice.injEq, Option.some.injEq, Addr.mk.injEq] at h1
    obtain ⟨⟨rfl, _⟩, _, rfl⟩ := h1
    exact ofr_box hr hh (by decide) (by decide) hx
/-- a queue is written into its row -/
theorem OwQ.set {w w' : World} {lo g n c i : Nat} {qs : List Qw} {q' : Qw} (h : OwQ w lo (some ⟨g, 0, none⟩) n c qs) (ho : w'.ownsRow 0 83 3 (.slice (some ⟨g, 0, none⟩) n c) n (flQ (qs.set i q'))) (u : w.grownBy w' (some g)) (hi : i < n)
    (hq : OwR w lo q'.a q'.n q'.c q'.rs) (hap : ∀ j r, j ≠ i → qs[j]? = some r → ∀ x, Ofr r.v r.rs x → ¬ Ofr q'.v q'.rs x) : OwQ w' lo (some ⟨g, 0, none⟩) n c (qs.set i q') := by
  have hl := h.len
  have hpw := List.pairwise_iff_getElem.1 h.apart
  have hk : ∀ r : Qw, OwR w lo r.a r.n r.c r.rs → OwR w' lo r.a r.n r.c r.rs := fun r hr => hr.fz (Fz.of1 u) (fun x hx e => h.row_ne hr hx e)
  refine ⟨ho, by rw [List.length_set]; exact hl, h.new, fun r hr => ?_, List.pairwise_iff_getElem.2 (fun k j hkl hjl hkj x hx e => ?_)⟩
  · rcases List.mem_or_eq_of_mem_set hr with hr | rfl
    · exact hk r (h.each r hr)
    · exact hk _ hq
  · have hkl' := hkl
    have hjl' := hjl
    rw [List.length_set] at hkl' hjl'
    by_cases hki : k = i
    · subst hki
      rw [List.getElem_set_self] at hx
      rw [List.getElem_set_ne (by omega)] at e
      exact hap j _ (by omega) (List.getElem?_eq_getElem hjl') x e hx
    · rw [List.getElem_set_ne (fun e => hki e.symm)] at hx
      by_cases hji : j = i
      · subst hji
        rw [List.getElem_set_self] at e
        exact hap k _ hki (List.getElem?_eq_getElem hkl') x hx e
      · rw [List.getElem_set_ne (fun e => hji e.symm)] at e
        exact hpw k j hkl' hjl' hkj x hx e
/-- a queue more -/
theorem OwQ.push {w w' : World} {lo : Nat} {ao : Option Addr} {n co : Nat} {qs : List Qw} (hA : OwQ w lo ao n co qs) (hlo : lo ≤ w.heap.size) {g cap : Nat} (hgx : (Value.slice ao n co).ownBlock = some g ∨ w.heap.size ≤ g)
    (hg : w.grownBy w' (Value.slice ao n co).ownBlock) {k : Qw} (hk : OwR w lo k.a k.n k.c k.rs) (hap : ∀ q, q ∈ qs → ∀ x, Ofr q.v q.rs x → ¬ Ofr k.v k.rs x)
    (hown : w'.ownsRow 0 83 3 (.slice (some ⟨g, 0, none⟩) (n + 1) cap) (n + 1) (flQ qs ++ k.cells)) : OwQ w' lo (some ⟨g, 0, none⟩) (n + 1) cap (qs ++ [k]) := by
  have hty : ∀ k : Qw, OwR w lo k.a k.n k.c k.rs → OwR w' lo k.a k.n k.c k.rs := fun k hk => hk.fz (Fz.ofO hg) (fun x hx e => by
    rcases hA.own.2 with ⟨h1, _⟩ | ⟨y, cap, cur, h1, _, hh, _⟩
    · rw [h1] at e; simp [Value.ownBlock] at e
    · rw [h1] at e
      have e : y = x := Option.some.inj e
      exact ofr_box hk hh (by decide) (by decide) hx e.symm)
  refine ⟨by rw [flQ_app]; simpa [flQ] using hown, by simp [hA.len], fun y hy => ?_, fun q hq => ?_, List.pairwise_append.2 ⟨hA.apart, List.pairwise_singleton _ _, fun r hr s hs => by rw [List.mem_singleton.1 hs]; exact hap r hr⟩⟩
  · have e : g = y := Option.some.inj hy
    subst e
    rcases hgx with h | h
    · exact hA.new g h
    · omega
  · rcases List.mem_append.1 hq with hq | hq
    · exact hty q (hA.each q hq)
    · have hq := List.mem_singleton.1 hq
      subst hq
      exact hty q hk
theorem run_stQueue (w : World) (g o : Nat) (v0 v1 v2 : Value) (h1 : ∀ v, v ∈ [v0, v1, v2] → v.oneCell' = true) (hc : ∀ j, j < 3 → (w.cell? ⟨g, o + j, none⟩).isSome = true) (hf : ∀ j, j < 3 → w.frozen? ⟨g, o + j, none⟩ = false) :
    (Instr.storeAt 83 (.pointer (some ⟨g, o, none⟩)) (.agg #[v0, v1, v2])).run Try.prog w = .ok () (w.setCells g o [v0, v1, v2]) := by
  have hst := run_storeCells_cells (P := Try.prog) g o [v0, v1, v2] 0 w (by simpa using hc) (by simpa using hf) h1
  simp only [Nat.add_zero] at hst
  have i4 := Try.info_qu3
  cases hq : Try.prog.info? 83 with
  | none => simp [hq] at i4
  | some i =>
    have hs : 3 = i.size := by simp [hq] at i4; omega
    simp [Instr.storeAt, Instr.sureAddr, storeVar, sizeOf, typeInfo, hq, Value.cells, ← hs, hst]
theorem setCells_ownQ {g n cap : Nat} {qs : List Qw} {w : World} (h : w.ownsRow 0 83 3 (.slice (some ⟨g, 0, none⟩) n cap) n (flQ qs)) (hl : qs.length = n) (i : Nat) (hi : i < n) (q : Qw) : (w.setCells g (i * 3) q.cells).ownsRow 0 83 3 (.slice (some ⟨g, 0, none⟩) n cap) n (flQ (qs.set i q)) ∧ w.grownBy (w.setCells g (i * 3) q.cells) (some g) := by
  have hsp : ∀ (vs : List Value) (o : Nat) (w : World) (X : List Value), w.ownsRow 0 83 3 (.slice (some ⟨g, 0, none⟩) n cap) n X → o + vs.length ≤ n * 3 → (w.setCells g o vs).ownsRow 0 83 3 (.slice (some ⟨g, 0, none⟩) n cap) n (X.take o ++ vs ++ X.drop (o + vs.length)) ∧ w.grownBy (w.setCells g o vs) (some g) := by
    intro vs
    induction vs with
    | nil =>
      intro o w X h ho
      refine ⟨?_, World.grownBy.refl _ _⟩
      rw [List.append_nil, List.length_nil, Nat.add_zero, List.take_append_drop]
      exact h
    | cons v vs ih =>
      intro o w X h ho
      rw [List.length_cons] at ho
      have hX := h.1
      have h1 : (w.setCell ⟨g, o, none⟩ v).ownsRow 0 83 3 (.slice (some ⟨g, 0, none⟩) n cap) n (X.set o v) := by
        refine ⟨by rw [List.length_set]; exact h.1, ?_⟩
        rcases h.2 with ⟨h1, _⟩ | ⟨g', cap', cur, h1, h2, h3, h4, h5, h6, h7⟩
        · simp at h1
        · simp only [Value.slice.injEq, Option.some.injEq, Addr.mk.injEq] at h1
          obtain ⟨⟨rfl, _⟩, _, rfl⟩ := h1
          refine .inr ⟨g, cap, cur.setIfInBounds o v, rfl, h2, heap_setCell_same w g o _ _ _ h3, h4, h5, by simpa using h6, ?_⟩
          rw [← h7, Array.toList_setIfInBounds, List.take_set]
      obtain ⟨k1, k2⟩ := ih (o + 1) _ _ h1 (by omega)
      refine ⟨?_, grown_trans (grown_set w g o v) k2⟩
      have e : (X.set o v).take (o + 1) ++ vs ++ (X.set o v).drop (o + 1 + vs.length) = X.take o ++ (v :: vs) ++ X.drop (o + (v :: vs).length) := by
        rw [List.drop_set_of_lt (by omega), List.take_add_one, List.take_set_of_le (Nat.le_refl _), List.getElem?_set_self (by omega), List.length_cons, show o + 1 + vs.length = o + (vs.length + 1) by omega]
        simp
      rw [← e]
      exact k1
  obtain ⟨k1, k2⟩ := hsp q.cells (i * 3) w _ h (by show i * 3 + 3 ≤ _; omega)
  refine ⟨?_, k2⟩
  have e : flQ (qs.set i q) = (flQ qs).take (i * 3) ++ q.cells ++ (flQ qs).drop (i * 3 + q.cells.length) := by
    rw [flQ_take, show i * 3 + q.cells.length = (i + 1) * 3 by show i * 3 + 3 = _; omega, flQ_drop, List.set_eq_take_append_cons_drop, if_pos (by omega), flQ_app]
    show flQ (qs.take i) ++ (q.cells ++ flQ (qs.drop (i + 1))) = _
    rw [List.append_assoc]
  rw [e]
  exact k1
/-- a queue is stored into a row of them -/
theorem wpList_stQ (w : World) {ops : Array Oper} {rest : List Oper} {o : Oper} {a : Act} {Q : Exit → Act → World → Prop} (hg : o.guard = none) (p x : Operand) (hop : o.op = Op.store 83 p x)
    (g i n cap : Nat) (qs : List Qw) (q : Qw) (hp : a.eval p = .pointer (some ⟨g, i * 3, none⟩)) (hx : a.eval x = .agg #[.int .i64 q.ow, .slice q.a q.n q.c, .int .i64 q.go]) (h : w.ownsRow 0 83 3 (.slice (some ⟨g, 0, none⟩) n cap) n (flQ qs)) (hl : qs.length = n) (hi : i < n)
    (hK : ∀ w', w'.ownsRow 0 83 3 (.slice (some ⟨g, 0, none⟩) n cap) n (flQ (qs.set i q)) → w.grownBy w' (some g) → wpList Try.prog ops Q rest (a.put o.dst undef) w') :
    wpList Try.prog ops Q (o :: rest) a w := by
  refine wpList_plain hg fun K hK' => ?_
  obtain ⟨k1, k2⟩ := setCells_ownQ h hl i hi q
  have hst : (Instr.storeAt 83 (.pointer (some ⟨g, i * 3, none⟩)) (.agg #[.int .i64 q.ow, .slice q.a q.n q.c, .int .i64 q.go])).run Try.prog w = .ok () (w.setCells g (i * 3) q.cells) := by
    rcases h.2 with ⟨h1, _⟩ | ⟨g', cap', cur, h1, _, h3, h4, _, h6, _⟩
    · simp at h1
    · simp only [Value.slice.injEq, Option.some.injEq, Addr.mk.injEq] at h1
      obtain ⟨⟨rfl, _⟩, _, rfl⟩ := h1
      refine run_stQueue w g (i * 3) _ _ _ (by intro v hv; simp only [List.mem_cons, List.not_mem_nil, or_false] at hv; rcases hv with rfl | rfl | rfl <;> rfl) (fun j hj => ?_) (fun j hj => frozen_of_row w g _ _ _ h3)
      rw [cell_of_row _ _ _ _ _ _ h3, Array.getElem?_eq_getElem (by omega)]
      rfl
  unfold Oper.wp
  simp [execOp, hop, hp, hx, hst, Result.andThen]
  exact hK' _ _ (hK _ k1 k2)
/-- a row is written into a row of rows -/
theorem OwR.set {w : World} {lo g n c i : Nat} {rs : List Rw} {r : Rw} (h : OwR w lo (some ⟨g, 0, none⟩) n c rs) (hi : i < n) (hr : Ans w lo r.a r.n r.c r.D) (hap : ∀ j q, j ≠ i → rs[j]? = some q → ∀ x, q.v.ownBlock = some x → r.v.ownBlock ≠ some x) :
    OwR (w.setCell ⟨g, i, none⟩ r.v) lo (some ⟨g, 0, none⟩) n c (rs.set i r) := by
  have hl := h.len
  have u := grown_set w g i r.v
  have ho := (h.own.stored i r.v).1
  have hpw := List.pairwise_iff_getElem.1 h.apart
  have hk : ∀ q : Rw, Ans w lo q.a q.n q.c q.D → Ans (w.setCell ⟨g, i, none⟩ r.v) lo q.a q.n q.c q.D := fun q hq => hq.fz (Fz.of1 u) (fun x hx e => by
    have e : x = g := e
    subst e
    exact own_apart hq.own h.own (fun e => ne_u8 e.symm) x hx rfl)
  refine ⟨?_, by rw [List.length_set]; exact hl, h.new, fun q hq => ?_, List.pairwise_iff_getElem.2 (fun k j hkl hjl hkj x hx e => ?_)⟩
  · have e : (flatR rs).set i r.v = flatR (rs.set i r) := by unfold flatR; rw [List.map_set]
    rw [← e]; exact ho
  · rcases List.mem_or_eq_of_mem_set hq with hq | rfl
    · exact hk q (h.each q hq)
    · exact hk _ hr
  · have hkl' := hkl
    have hjl' := hjl
    rw [List.length_set] at hkl' hjl'
    by_cases hki : k = i
    · subst hki
      rw [List.getElem_set_self] at hx
      rw [List.getElem_set_ne (by omega)] at e
      exact hap j _ (by omega) (List.getElem?_eq_getElem hjl') x e hx
    · rw [List.getElem_set_ne (fun e => hki e.symm)] at hx
      by_cases hji : j = i
      · subst hji
        rw [List.getElem_set_self] at e
        exact hap k _ hki (List.getElem?_eq_getElem hkl') x hx e
      · rw [List.getElem_set_ne (fun e => hji e.symm)] at e
        exact hpw k j hkl' hjl' hkj x hx e
/-- as data -/
structure RdS (w : World) (a : Option Addr) (n c : Nat) (Qs : List Qd) : Prop where
  len : Qs.length = n
  ex : ∃ F : Nat → Qu, RdQ w a n c F ∧ ∀ i, i < n → (F i).ow = (Qs.getD i qd0).ow ∧ (F i).go = (Qs.getD i qd0).go ∧ (F i).n = (Qs.getD i qd0).P.length ∧ ∀ j, j < (F i).n → ((F i).R j).D = (Qs.getD i qd0).P.getD j []
structure OwS (w : World) (lo : Nat) (a : Option Addr) (n c : Nat) (qs : List Qw) (Qs : List Qd) : Prop where
  o : OwQ w lo a n c qs
  d : qs.map Qw.d = Qs
theorem RdS.keep {w w' : World} {a : Option Addr} {n c : Nat} {Qs : List Qd} (h : RdS w a n c Qs) (hg : w.grownBy w' none) : RdS w' a n c Qs := by
  obtain ⟨F, h1, h2⟩ := h.ex
  exact ⟨h.len, F, h1.keep hg, h2⟩
theorem OwS.keep {w w' : World} {lo : Nat} {a : Option Addr} {n c : Nat} {qs : List Qw} {Qs : List Qd} (h : OwS w lo a n c qs Qs) (hg : w.grownBy w' none) : OwS w' lo a n c qs Qs := ⟨h.o.keep hg, h.d⟩
theorem OwS.wide {w : World} {lo lo' : Nat} {a : Option Addr} {n c : Nat} {qs : List Qw} {Qs : List Qd} (h : OwS w lo a n c qs Qs) (hl : lo' ≤ lo) : OwS w lo' a n c qs Qs := ⟨h.o.wide hl, h.d⟩
theorem OwS.fz {w w' : World} {p : Nat → Prop} {lo : Nat} {a : Option Addr} {n c : Nat} {qs : List Qw} {Qs : List Qd} (h : OwS w lo a n c qs Qs) (hF : Fz p w w') (hn : ∀ x, Qbl (.slice a n c) qs x → ¬ p x) : OwS w' lo a n c qs Qs := ⟨h.o.fz hF hn, h.d⟩
theorem OwS.far {w w' : World} {lo x : Nat} {a : Option Addr} {n c : Nat} {qs : List Qw} {Qs : List Qd} (h : OwS w lo a n c qs Qs) (hg : w.grownBy w' (some x)) (hx : x < lo) : OwS w' lo a n c qs Qs := ⟨h.o.far hg hx, h.d⟩
theorem OwS.len {w : World} {lo : Nat} {a : Option Addr} {n c : Nat} {qs : List Qw} {Qs : List Qd} (h : OwS w lo a n c qs Qs) : Qs.length = n := by rw [← h.d, List.length_map]; exact h.o.len
theorem OwS.rd {w : World} {lo : Nat} {a : Option Addr} {n c : Nat} {qs : List Qw} {Qs : List Qd} (h : OwS w lo a n c qs Qs) : RdS w a n c Qs := by
  refine ⟨h.len, _, h.o.rdq, fun i hi => ?_⟩
  have hl := h.o.len
  have hg : qs.getD i qw0 = qs[i]'(by omega) := by rw [List.getD_eq_getElem?_getD, List.getElem?_eq_getElem (by omega)]; rfl
  have e : Qs.getD i qd0 = (qs[i]'(by omega)).d := by rw [← h.d, List.getD_eq_getElem?_getD, List.getElem?_map, List.getElem?_eq_getElem (by omega)]; rfl
  rw [e, hg]
  have hO := h.o.each (qs[i]'(by omega)) (List.getElem_mem _)
  refine ⟨rfl, rfl, ?_, fun j hj => ?_⟩
  · show (qs[i]'(by omega)).n = ((qs[i]'(by omega)).rs.map Rw.D).length
    rw [List.length_map]; exact hO.len.symm
  · show ((qs[i]'(by omega)).rs.getD j kr0).D = ((qs[i]'(by omega)).rs.map Rw.D).getD j []
    rw [getD_map_D _ j (by rw [hO.len]; exact hj)]
theorem RdS.nil (w : World) : RdS w none 0 0 [] := (⟨OwQ.nil w 0, rfl⟩ : OwS w 0 none 0 0 [] []).rd
theorem OwS.nil (w : World) (lo : Nat) : OwS w lo none 0 0 [] [] := ⟨OwQ.nil w lo, rfl⟩
/-- which senders may be, as data -/
def quD (q : Qd) : Bool := wiB q.ow 255 && decide (q.P.length ≤ 200) && q.P.all onP && (if q.P.length = 0 then decide (q.go = 0) else wiB q.go (((q.P.getD 0 []).length : Int) - 1))
def seD (cr sz ma tu : Int) (Qs : List Qd) : Bool := decide (opE cr sz = 0) && wiB ma 255 && wiB tu 6 && decide (Qs.length = 7) && Qs.all quD
theorem alP_eq (F : Nat → Rw) (P : List (List Nat)) (n : Nat) (hn : n ≤ P.length) (h : ∀ j, j < n → (F j).D = P.getD j []) : alP F n = (P.take n).all onP := by
  induction n with
  | zero => rfl
  | succ n ih =>
    show (alP F n && onP (F n).D) = _
    rw [ih (by omega) (fun j hj => h j (by omega)), h n (by omega)]
    have e : P.take (n + 1) = P.take n ++ [P.getD n []] := by
      rw [List.take_add_one, List.getD_eq_getElem?_getD, List.getElem?_eq_getElem (by omega)]; rfl
    rw [e, List.all_append]
    simp
theorem alQ_eq (F : Nat → Qu) (Qs : List Qd) (n : Nat) (hn : n ≤ Qs.length) (h : ∀ j, j < n → quB (F j) = quD (Qs.getD j qd0)) : alQ F n = (Qs.take n).all quD := by
  induction n with
  | zero => rfl
  | succ n ih =>
    show (alQ F n && quB (F n)) = _
    rw [ih (by omega) (fun j hj => h j (by omega)), h n (by omega)]
    have e : Qs.take (n + 1) = Qs.take n ++ [Qs.getD n qd0] := by
      rw [List.take_add_one, List.getD_eq_getElem?_getD, List.getElem?_eq_getElem (by omega)]; rfl
    rw [e, List.all_append]
    simp
theorem seB_seD {w : World} {a : Option Addr} {n c : Nat} {F : Nat → Qu} {Qs : List Qd} (cr sz ma tu : Int) (hl : Qs.length = n) (h1 : RdQ w a n c F) (h2 : ∀ i, i < n → (F i).ow = (Qs.getD i qd0).ow ∧ (F i).go = (Qs.getD i qd0).go ∧ (F i).n = (Qs.getD i qd0).P.length ∧ ∀ j, j < (F i).n → ((F i).R j).D = (Qs.getD i qd0).P.getD j []) :
    seB cr sz ma tu n F = seD cr sz ma tu Qs := by
  unfold seB seD
  rw [hl]
  congr 1
  rw [alQ_eq F Qs n (by omega) (fun j hj => ?_), List.take_of_length_le (by omega)]
  obtain ⟨a1, a2, a3, a4⟩ := h2 j hj
  unfold quB quD goB
  rw [a1, a2, alP_eq (F j).R (Qs.getD j qd0).P (F j).n (by omega) a4, a3, List.take_of_length_le (Nat.le_refl _)]
  congr 1
  by_cases h0 : (Qs.getD j qd0).P.length = 0
  · rw [if_pos h0, if_pos h0]
  · rw [if_neg h0, if_neg h0]
    have hr := (h1.data j hj).data 0 (by omega)
    rw [← a4 0 (by omega), hr.len]
theorem senderMay2_any (cr sz ma tu : Int) (a : Option Addr) (n cap : Nat) (Qs : List Qd) (w : World) (h : RdS w a n cap Qs) :
    Calls Try.prog 56 #[.agg #[.int .i64 cr, .int .i64 sz, .int .i64 ma, .int .i64 tu, .slice a n cap]] w fun e w' => e = .returned (.bool (seD cr sz ma tu Qs)) ∧ w.grownBy w' none := by
  obtain ⟨F, h1, h2⟩ := h.ex
  rw [← seB_seD cr sz ma tu h.len h1 h2]
  exact senderMay_any cr sz ma tu a n cap F w h1
/-- the same in a region that draws -/
theorem step_psR (w : World) (lo : Nat) (r : Rw) {ops : Array Oper} {o : Oper} {a : Act} {K : Act → World → Prop} {Q : Exit → Act → World → Prop} {E : Prop} (hg : o.guard = none) (s x : Operand)
    (hop : o.op = Op.call { callee := .builtin .append, args := #[s, x], argTypes := #[81, 81] }) (ao : Option Addr) (m co : Nat) (rs : List Rw) (hs : a.eval s = .slice ao m co)
    (hA : OwR w lo ao m co rs) (hlo : lo ≤ w.heap.size) (hx : a.eval x = .slice (some ⟨w.heap.size, 0, none⟩) 1 1) (hb : (m + 1) * 24 ≤ 140737488355328) (hr : Ans w lo r.a r.n r.c r.D) (hap : ∀ q, q ∈ rs → ∀ y, q.v.ownBlock = some y → r.v.ownBlock ≠ some y)
    (hK : ∀ gx cx w', OwR w' lo (some ⟨gx, 0, none⟩) (m + 1) cx (rs ++ [r]) → w.grownBy w' (Value.slice ao m co).ownBlock → ((Value.slice ao m co).ownBlock = some gx ∨ w.heap.size ≤ gx) → K (a.put o.dst (.slice (some ⟨gx, 0, none⟩) (m + 1) cx)) w') :
    if Region.wanted o (yielded ops a.tmps) = true then Oper.wp Try.prog o a (w.alloc (.cells #[r.v] 22)) K Q else E := by
  obtain ⟨i0, hi, hz0, hz1, hz2⟩ := info_parts Try.info_rw
  have gA := World.grownBy_alloc w (.cells #[r.v] 22) none
  refine step_apS _ hg s x 81 22 i0 _ 1 24 Try.underlying81 hi hz0 hz1 hz2 rfl (by decide) hop (.slice ao m co) m (flatR rs) hs (hA.own.alloc _) ⟨w.heap.size, 0, none⟩ 1 1 [r.v] hx rfl (one_row w _) (by simp [Rw.v, Value.oneCell']) (by decide) (by unfold maxLen; omega) (by omega) ?_
  intro gx cx w' hgx hgr hown
  have hsz := gA.size
  have hor : (Value.slice ao m co).ownBlock = some gx ∨ w.heap.size ≤ gx := by
    rcases hgx with h | h
    · exact .inl h
    · exact .inr (by omega)
  have hgr' := grown_trans (grown_weak gA (Value.slice ao m co).ownBlock) hgr
  exact hK gx cx w' (OwR.push hA hr hap hgr' hown (by rcases hor with h | h; exact .inl h; exact .inr (by omega))) hgr' hor
theorem Ans.later2 {w : World} {lo lo' : Nat} {a a' : Option Addr} {n c n' c' : Nat} {L L' : List Nat} (h : Ans w lo a n c L) {w' : World} (h' : Ans w' lo' a' n' c' L') (hl : w.heap.size ≤ lo') : ∀ y, (Value.slice a n c).ownBlock = some y → (Value.slice a' n' c').ownBlock ≠ some y := fun y e e' => by
  have h1 := h'.new y e'
  rcases h.cases with ⟨e1, _, _⟩ | ⟨x, e1, _, hx⟩
  · rw [e1] at e; simp [Value.ownBlock] at e
  · rw [e1] at e
    have e2 : x = y := Option.some.inj e
    omega

theorem stc_queues (g i : Nat) (p : Option Addr) (l c : Nat) (w : World) (hc : ∃ u, w.cell? ⟨g, i, none⟩ = some u) (hf : w.frozen? ⟨g, i, none⟩ = false) : (Instr.storeAt 36 (.pointer (some ⟨g, i, none⟩)) (.slice p l c)).run Try.prog w = .ok () (w.setCell ⟨g, i, none⟩ (.slice p l c)) := by
  obtain ⟨u, hc⟩ := hc
  simp [go_sem, hc, hf]

theorem OwR.zeros {w : World} {lo g n : Nat} (h : w.ownsRow 0 22 1 (.slice (some ⟨g, 0, none⟩) n n) n (List.replicate n zr)) (hl : lo ≤ g) : OwR w lo (some ⟨g, 0, none⟩) n n (List.replicate n kr0) := by
  refine ⟨by unfold flatR; rw [List.map_replicate]; exact h, List.length_replicate, fun x e => by have e : g = x := Option.some.inj e; omega, fun r hr => ?_, ?_⟩
  · rw [(List.mem_replicate.1 hr).2]; exact ans_nil _ _
  · refine List.pairwise_iff_getElem.2 (fun i j hi hj _ y e => ?_)
    rw [List.getElem_replicate] at e
    simp [kr0, Rw.v, Value.ownBlock] at e
theorem getD_set_self (L : List Rw) (i : Nat) (r : Rw) (h : i < L.length) : (L.set i r).getD i kr0 = r := by rw [List.getD_eq_getElem?_getD, List.getElem?_set_self h]; rfl
theorem getD_set_ne (L : List Rw) (i j : Nat) (r : Rw) (h : i ≠ j) : (L.set i r).getD j kr0 = L.getD j kr0 := by rw [List.getD_eq_getElem?_getD, List.getElem?_set_ne h, ← List.getD_eq_getElem?_getD]
theorem getD_setq_self (L : List Qw) (i : Nat) (r : Qw) (h : i < L.length) : (L.set i r).getD i qw0 = r := by rw [List.getD_eq_getElem?_getD, List.getElem?_set_self h]; rfl
theorem getD_setq_ne (L : List Qw) (i j : Nat) (r : Qw) (h : i ≠ j) : (L.set i r).getD j qw0 = L.getD j qw0 := by rw [List.getD_eq_getElem?_getD, List.getElem?_set_ne h, ← List.getD_eq_getElem?_getD]
theorem getD_some {L : List Rw} {j : Nat} {q : Rw} (h : L[j]? = some q) : L.getD j kr0 = q := by rw [List.getD_eq_getElem?_getD, h]; rfl
theorem OwQ.zeros {w : World} {lo g : Nat} (h : w.ownsRow 0 83 3 (.slice (some ⟨g, 0, none⟩) 7 7) 7 (flQ (List.replicate 7 qw0))) (hl : lo ≤ g) : OwQ w lo (some ⟨g, 0, none⟩) 7 7 (List.replicate 7 qw0) := by
  refine ⟨h, List.length_replicate, fun x e => by have e : g = x := Option.some.inj e; omega, fun r hr => ?_, ?_⟩
  · rw [(List.mem_replicate.1 hr).2]; exact OwR.nil _ _
  · refine List.pairwise_iff_getElem.2 (fun i j hi hj _ y e => ?_)
    rw [List.getElem_replicate] at e
    exact absurd e (ofr_nil y)
theorem made_qf : (madeCells zq.cells (7 * 3)).toList = flQ (List.replicate 7 qw0) := by kernel_rfl

set_option maxHeartbeats 32000000 in
theorem cs_t5 {u0 u1 u2 u6 u7 u8 u9 u10 u11 u12 u13 u14 u15 u16 u17 u18 u19 u20 u21 u22 u23 u24 u25 u26 u27 u28 u29 u30 u31 u32 u33 u34 u35 u36 u37 u38 u39 u40 u41 u42 u43 u44 u45 u46 u47 u48 : Value} (Q : Exit → Act → World → Prop) (w0 w : World) (lo gq g5 k pn pc : Nat) (pa : Option Addr) (qs : List Qw) (ow go : Int) (R : Nat → Rw) (P : List (List Nat)) (G0 : w0.grownBy w none) (hlo : w0.heap.size ≤ lo) (hlw : lo ≤ g5) (b5 : BxS w g5 83 #[.int .i64 ow, .slice pa pn pc, .int .i64 go]) (hR : RdR w pa pn pc R) (hP : P.length = pn ∧ ∀ j, j < pn → (R j).D = P.getD j []) (hF : ∀ j, j < pn → 1 ≤ (R j).n ∧ (R j).n ≤ 100000) (hpn : pn ≤ 200) (hO : OwQ w lo (some ⟨gq, 0, none⟩) 7 7 qs) (hlt : ∀ x, Qbl (.slice (some ⟨gq, 0, none⟩) 7 7) qs x → x < g5) (hk : k < 7)
    (hQ : ∀ (z6 z7 z8 z21 z22 z23 z24 z25 z26 z27 z28 z29 z30 z31 z32 z33 z34 z35 z36 z37 z38 z39 z40 z41 z42 z43 z44 : Value) (q : Qw) (w' : World), OwQ w' lo (some ⟨gq, 0, none⟩) 7 7 (qs.set k q) → q.d = ⟨ow, go, P⟩ → w0.grownBy w' none → Q .normal (Act.mk (List.toArray (u0 :: u1 :: u2 :: (.slice (some ⟨gq, 0, none⟩) 7 7) :: (.int .i64 (k : Int)) :: (.pointer (some ⟨g5, 0, none⟩)) :: z6 :: z7 :: z8 :: u9 :: u10 :: u11 :: u12 :: u13 :: u14 :: u15 :: u16 :: u17 :: u18 :: u19 :: u20 :: z21 :: z22 :: z23 :: z24 :: z25 :: z26 :: z27 :: z28 :: z29 :: z30 :: z31 :: z32 :: z33 :: z34 :: z35 :: z36 :: z37 :: z38 :: z39 :: z40 :: z41 :: z42 :: z43 :: z44 :: u45 :: u46 :: u47 :: u48 :: [])) []) w') :
    Code.wp Try.prog (tailR 5 (Try.f57.body.getD .skip)) Q (Act.mk (List.toArray (u0 :: u1 :: u2 :: (.slice (some ⟨gq, 0, none⟩) 7 7) :: (.int .i64 (k : Int)) :: (.pointer (some ⟨g5, 0, none⟩)) :: u6 :: u7 :: u8 :: u9 :: u10 :: u11 :: u12 :: u13 :: u14 :: u15 :: u16 :: u17 :: u18 :: u19 :: u20 :: u21 :: u22 :: u23 :: u24 :: u25 :: u26 :: u27 :: u28 :: u29 :: u30 :: u31 :: u32 :: u33 :: u34 :: u35 :: u36 :: u37 :: u38 :: u39 :: u40 :: u41 :: u42 :: u43 :: u44 :: u45 :: u46 :: u47 :: u48 :: [])) []) w := by
  let pq : Exit → Act → World → Prop := bodyPost Try.prog Try.f57 (fun _ _ => True)
  conv => enter [2]; whnf
  have HQ : Hid _ := hQ
  clear hQ
  have b5l := b5.lt
  obtain ⟨i0, hi, hz0, hz1, hz2⟩ := info_parts Try.info_rw
  obtain ⟨x0, x1, x2⟩ := BxS.cell3 b5
  have hgq := hlt gq (.inl rfl)
  refine wp_seq_k fun K1 hK1 => ?_
  have HK1 : Hid _ := hK1
  clear hK1
  go_wp2_with (at_make; refine wpList_make_full _ rfl _ _ 81 rfl w.heap.size 22 i0 zr 1 Try.underlying81 hi hz0 hz1 .i64 .i64 pn pn pn rfl rfl rfl rfl (by rw [hz2]; omega) (by unfold maxLen; omega) (Nat.le_refl _) ?_; intro w4 hown g4)
  have hmk : (madeCells zr.cells (pn * 1)).toList = List.replicate pn zr := by rw [Nat.mul_one]; exact toList_madeCells_one _ _
  rw [hmk] at hown
  have hA4 := OwR.zeros (lo := w.heap.size) (own_baseG hown) (Nat.le_refl _)
  have z4 : w.heap.size < w4.heap.size := ofr_hi hA4.bef (.inl rfl)
  have b54 := b5.keep g4 (by simp)
  clear x0 x1 x2 hown hmk
  obtain ⟨x0, x1, x2⟩ := BxS.cell3 b54
  refine HK1.out _ _ ?_
  clear HK1
  refine wp_seq_k fun K2 hK2 => ?_
  have HK2 : Hid _ := hK2
  clear hK2
  go_wp2
  go_loopw [28] (fun jv wr => ∃ (j : Nat) (rs : List Rw), jv = .int .i64 j ∧ j ≤ pn ∧ OwR wr w.heap.size (some ⟨w.heap.size, 0, none⟩) pn pn rs ∧ (∀ i, i < j → (rs.getD i kr0).D = (R i).D) ∧ (∀ i, j ≤ i → rs.getD i kr0 = kr0) ∧ w.grownBy wr none ∧ w.heap.size < wr.heap.size) (fun jv _ => pn - (intOf jv).toNat)
  case atStart => exact ⟨0, _, by go_num, Nat.zero_le _, hA4, (fun i h => absurd h (by omega)), (fun i _ => by rw [List.getD_eq_getElem?_getD, List.getElem?_replicate]; split <;> rfl), g4, z4⟩
  case round =>
    obtain ⟨j, rs, rfl, hj, hr, hd, hz, hgr, hlw2⟩ := hrel
    have hll := hr.len
    have HD : Hid (∀ i, i < j → (rs.getD i kr0).D = (R i).D) := hd
    have HZ : Hid (∀ i, j ≤ i → rs.getD i kr0 = kr0) := hz
    clear hd hz
    by_cases hjl : j < pn
    · have h2 := hR.keep hgr
      obtain ⟨ba, oa, rfl, hba, ca⟩ := h2.at' (by omega)
      have d1 := ca j hjl
      have hrj := h2.data j hjl
      obtain ⟨f1, f2⟩ := hF j hjl
      obtain ⟨bd, od, hfa, hbd, _⟩ := hrj.at' (by omega)
      rw [hfa] at d1 hrj
      obtain ⟨Dk, hDk⟩ : ∃ Dk, Dk = (R j).D := ⟨_, rfl⟩
      rw [← hDk] at hrj
      have HDk : Hid (Dk = (R j).D) := hDk
      clear hDk hfa
      generalize (R j).n = nk at *
      generalize (R j).c = ck at *
      have hC := pclone_any bd od nk ck Dk wr hrj (by omega) (by omega)
      have l1 : (j : Int) < (pn : Int) := by omega
      clear ca h2
      have t1 : True := trivial
      go_wp2_with (go_at_call 49; have _t := t1; clear t1; refine hC.mono ?_; rintro e w5 ⟨ga, cg, rfl, hA5, g5'⟩; have hr5 := hr.keep g5'; have hf5 := hr5.own.frozenAt j; obtain ⟨_, _, ee, _, cc5⟩ := hr5.rdr.at' (by omega); cases ee; have hc5 := cc5 j hjl; rw [Nat.zero_add] at hc5; clear cc5)
      have hS := hr5.set (i := j) (r := ⟨some ⟨ga, 0, none⟩, nk, cg, Dk⟩) hjl (hA5.wide (by have := hgr.size; omega)) (fun i q hij hq y e => by
        rcases Nat.lt_or_ge i j with hlt' | hge
        · exact (hr.each q (List.mem_of_getElem? hq)).later2 hA5 (Nat.le_refl _) y e
        · rw [← getD_some hq, HZ.out i hge] at e
          simp [kr0, Rw.v, Value.ownBlock] at e)
      have uS := grown_set w5 w.heap.size j (Rw.mk (some ⟨ga, 0, none⟩) nk cg Dk).v
      go_roundw
      case rel =>
        refine ⟨j + 1, _, by go_num, by omega, hS, fun i hi => ?_, fun i hi => ?_, grown_far (grown_trans hgr g5') uS (fun q e => by have e := Option.some.inj e; omega), ?_⟩
        · by_cases e : i < j
          · rw [getD_set_ne _ _ _ _ (by omega)]; exact HD.out i e
          · obtain rfl : i = j := by omega
            rw [getD_set_self _ _ _ (by omega)]; exact HDk.out
        · rw [getD_set_ne _ _ _ _ (by omega)]; exact HZ.out i (by omega)
        · exact Nat.lt_of_lt_of_le (Nat.lt_of_lt_of_le hlw2 g5'.size) uS.size
      case measure => simp [intOf]; omega
    · obtain rfl : j = pn := by omega
      have l1 : ¬ (j : Int) < (j : Int) := by omega
      have b5r := b5.keep hgr (by simp)
      go_wp2
      refine HK2.out _ _ ?_
      clear HK2
      have s0 : True := trivial
      refine wp_seq_k fun K3 hK3 => ?_
      have HK3 : Hid _ := hK3
      clear hK3
      go_wp2_with (have _t := s0; clear s0; refine wpList_stC _ rfl _ _ _ rfl g5 1 83 _ #[.int .i64 ow, .slice (some ⟨w.heap.size, 0, none⟩) j j, .int .i64 go] (.slice (some ⟨w.heap.size, 0, none⟩) j j) rfl rfl b5r (stc_rows _ _ _ _ _) (by show 1 < 3; decide) rfl ?_; intro w6 b6 u6)
      have hr6 := hr.fz (Fz.of1 u6) (fun x hx e => by have := ofr_lo hr hx; have e : x = g5 := e; omega)
      have hO6 := (hO.keep hgr).fz (Fz.of1 u6) (fun x hx e => by have := hlt x hx; have e : x = g5 := e; omega)
      have G6 := grown_far (grown_trans G0 hgr) u6 (fun q e => by have e := Option.some.inj e; omega)
      clear x0 x1 x2
      obtain ⟨x0, x1, x2⟩ := BxS.cell3 b6
      refine HK3.out _ _ ?_
      clear HK3
      have s0 : True := trivial
      have hk7 : (k : Int) < 7 := by omega
      go_wp2_with (have _t := s0; clear s0; refine wpList_stQ w6 rfl _ _ rfl gq k 7 7 qs ⟨ow, (some ⟨w.heap.size, 0, none⟩), j, j, go, rs⟩ rfl rfl hO6.own hO6.len hk ?_; intro w7 ho7 u7)
      have hO7 := hO6.set ho7 u7 hk (hr6.wide (by omega)) (fun i r hir hq x hx e => by have := hlt x (.inr ⟨r, List.mem_of_getElem? hq, hx⟩); have := ofr_lo hr6 e; omega)
      refine HQ.out _ _ _ _ _ _ _ _ _ _ _ _ _ _ _ _ _ _ _ _ _ _ _ _ _ _ _ _ w7 hO7 ?_ (grown_far G6 u7 (fun q e => by have e := Option.some.inj e; have := hO6.new gq rfl; omega))
      show Qd.mk ow go (rs.map Rw.D) = _
      rw [map_D_of rs P (by rw [hr.len]; exact hP.1.symm) (fun i hi => by rw [HD.out i (by omega), hP.2 i (by omega)])]

set_option maxHeartbeats 32000000 in
theorem copySender_any (cr sz ma tu : Int) (a : Option Addr) (c : Nat) (Qs : List Qd) (w : World) (h : RdS w a 7 c Qs) (hF : ∀ q, q ∈ Qs → q.P.length ≤ 200 ∧ ∀ r, r ∈ q.P → 1 ≤ r.length ∧ r.length ≤ 100000) :
    Calls Try.prog 57 #[.agg #[.int .i64 cr, .int .i64 sz, .int .i64 ma, .int .i64 tu, .slice a 7 c]] w fun e w' => ∃ (g' : Nat) (qs' : List Qw), e = .returned (.agg #[.int .i64 cr, .int .i64 sz, .int .i64 ma, .int .i64 tu, .slice (some ⟨g', 0, none⟩) 7 7]) ∧ OwS w' w.heap.size (some ⟨g', 0, none⟩) 7 7 qs' Qs ∧ w.grownBy w' none := by
  have hlQ := h.len
  obtain ⟨F, hF1, hF2⟩ := h.ex
  have HF2 : Hid _ := hF2
  clear hF2
  have b0 := BxS.new w 38 #[.int .i64 cr, .int .i64 sz, .int .i64 ma, .int .i64 tu, .slice a 7 c]
  have g0 := World.grownBy_alloc w (.cells #[.int .i64 cr, .int .i64 sz, .int .i64 ma, .int .i64 tu, .slice a 7 c] 38) none
  generalize hw0 : w.alloc (.cells #[.int .i64 cr, .int .i64 sz, .int .i64 ma, .int .i64 tu, .slice a 7 c] 38) = w0 at b0 g0
  have hz0 : w0.heap.size = w.heap.size + 1 := by rw [← hw0]; simp
  have b1 := BxS.new w0 38 #[.int .i64 0, .int .i64 0, .int .i64 0, .int .i64 0, .slice none 0 0]
  have g1 := World.grownBy_alloc w0 (.cells #[.int .i64 0, .int .i64 0, .int .i64 0, .int .i64 0, .slice none 0 0] 38) none
  generalize hw1 : w0.alloc (.cells #[.int .i64 0, .int .i64 0, .int .i64 0, .int .i64 0, .slice none 0 0] 38) = w1 at b1 g1
  rw [hz0] at b1
  have sz1 : w.heap.size + 2 ≤ w1.heap.size := by rw [← hw1]; simp [hz0]
  have p0 := b0.keep g1 (by simp)
  have G1 := grown_trans g0 g1
  obtain ⟨i0, hi, hq0, hq1, hq2⟩ := info_parts Try.info_qu
  have i5 := Try.info_se
  have i3 := Try.info_qu3
  obtain ⟨ba, oa, rfl, hba, _⟩ := hF1.at' (by decide)
  obtain ⟨x0, x1, x2, x3, x4⟩ := BxS.cell5 p0
  go_enter Try.func57, Try.ntmps57
  refine wp_seq_k fun K0 hK0 => ?_
  have HK0 : Hid _ := hK0
  clear hK0
  go_wp2
  refine HK0.out _ _ ?_
  clear HK0
  refine wp_seq_k fun K1 hK1 => ?_
  have HK1 : Hid _ := hK1
  clear hK1
  go_wp2_with (at_make; refine wpList_make_full _ rfl _ _ 36 rfl w1.heap.size 83 i0 zq 3 Try.underlying36 hi hq0 hq1 .i64 .i64 7 7 7 rfl rfl rfl rfl (by rw [hq2]; omega) (by decide) (Nat.le_refl _) ?_; intro w2 hown g2)
  rw [made_qf] at hown
  have hO2 := OwQ.zeros (lo := w1.heap.size) (own_baseG hown) (Nat.le_refl _)
  have z2 := g2.size
  have p02 := p0.keep g2 (by simp)
  have b12 := b1.keep g2 (by simp)
  have hgl := (hO2.hi (x := w1.heap.size) (.inl rfl)).1
  clear hown x0 x1 x2 x3 x4
  obtain ⟨x0, x1, x2, x3, x4⟩ := BxS.cell5 p02
  refine HK1.out _ _ ?_
  clear HK1
  refine wp_seq_k fun K2 hK2 => ?_
  have HK2 : Hid _ := hK2
  clear hK2
  go_wp2
  go_loopw [16] (fun iv wr => ∃ (k : Nat) (qs : List Qw), iv = .int .i64 k ∧ k ≤ 7 ∧ OwQ wr w1.heap.size (some ⟨w1.heap.size, 0, none⟩) 7 7 qs ∧ (∀ i, i < k → (qs.getD i qw0).d = Qs.getD i qd0) ∧ w1.grownBy wr none) (fun iv _ => 7 - (intOf iv).toNat)
  case atStart => exact ⟨0, _, by go_num, Nat.zero_le _, hO2, (fun i h => absurd h (by omega)), g2⟩
  case round =>
    obtain ⟨k, qs, rfl, hk, hO, hd, hgr⟩ := hrel
    have HD : Hid _ := hd
    clear hd
    have Gr := grown_trans G1 hgr
    have zr := hgr.size
    have hll := hO.len
    by_cases hlk : k < 7
    · have l1 : (k : Int) < 7 := by omega
      have h2 := hF1.keep Gr
      obtain ⟨_, _, ee, _, ca⟩ := h2.at' (by decide)
      cases ee
      obtain ⟨y0, y1, y2⟩ := ca k hlk
      have hrk := h2.data k hlk
      obtain ⟨e1, e2, e3, e4⟩ := HF2.out k hlk
      have HE3 : Hid _ := e3
      have HE4 : Hid _ := e4
      have hm : Qs.getD k qd0 ∈ Qs := by rw [List.getD_eq_getElem?_getD, List.getElem?_eq_getElem (by omega)]; exact List.getElem_mem _
      obtain ⟨f1, f2⟩ := hF _ hm
      have HQD : Hid (Qs.getD k qd0 = ⟨(F k).ow, (F k).go, (Qs.getD k qd0).P⟩) := by show _ = _; rw [e1, e2]
      clear ca h2 e1 e2 e3 e4
      refine wp_seq_k fun K5 hK5 => ?_
      have HK5 : Hid _ := hK5
      clear hK5
      go_wp2
      refine HK5.out _ _ ?_
      clear HK5
      refine wp_seq_k fun K6 hK6 => ?_
      have HK6 : Hid _ := hK6
      clear hK6
      go_wp2
      refine HK6.out _ _ ?_
      clear HK6
      refine wp_seq_k fun K7 hK7 => ?_
      have HK7 : Hid _ := hK7
      clear hK7
      refine wp_block ?_
      refine wp_seq_k fun K8 hK8 => ?_
      have HK8 : Hid _ := hK8
      clear hK8
      have bn := BxS.new wr 83 #[.int .i64 0, .slice none 0 0, .int .i64 0]
      have gn := World.grownBy_alloc wr (.cells #[.int .i64 0, .slice none 0 0, .int .i64 0] 83) none
      have s0 : True := trivial
      go_wp2_with (have _t := s0; clear s0; refine wpList_stX _ rfl _ (.tmp 5) (.tmp 20) rfl wr.heap.size _ _ rfl rfl bn i3 rfl (by simp [Value.oneCell']) ?_; intro w4 b4 u4)
      have Y4 := grown_far gn u4 (fun q e => by have e := Option.some.inj e; omega)
      have G4 := grown_trans hgr Y4
      refine HK8.out _ _ ?_
      clear HK8
      refine cs_t5 _ w1 w4 w1.heap.size w1.heap.size wr.heap.size k (F k).n (F k).c (F k).a qs (F k).ow (F k).go (F k).R (Qs.getD k qd0).P G4 (Nat.le_refl _) zr b4 (hrk.keep Y4) ⟨HE3.out.symm, HE4.out⟩ (fun j hj => ?_) (by rw [HE3.out]; exact f1) (hO.keep Y4) (fun x hx => (hO.hi hx).1) hlk ?_
      · have := (hrk.data j hj).len
        rw [← this, HE4.out j hj]
        have hj2 : j < (Qs.getD k qd0).P.length := by have := HE3.out; omega
        refine f2 _ ?_
        revert hj2
        generalize (Qs.getD k qd0).P = PP
        intro hj2
        rw [List.getD_eq_getElem?_getD, List.getElem?_eq_getElem hj2]; exact List.getElem_mem _
      · intro z6 z7 z8 z21 z22 z23 z24 z25 z26 z27 z28 z29 z30 z31 z32 z33 z34 z35 z36 z37 z38 z39 z40 z41 z42 z43 z44 q w' hO' hq hg'
        simp only [Exit.inBlock, Exit.then]
        refine HK7.out _ _ ?_
        clear HK7
        have hwk : IntKind.i64.wrap ((k : Int) + 1) = (k : Int) + 1 := wrap_i64_in _ (by omega) (by omega)
        go_wp2
        go_roundw
        case rel =>
          refine ⟨k + 1, _, by go_num, by omega, hO', fun i hi => ?_, hg'⟩
          by_cases e : i < k
          · rw [getD_setq_ne _ _ _ _ (by omega)]; exact HD.out i e
          · obtain rfl : i = k := by omega
            rw [getD_setq_self _ _ _ (by omega), HQD.out, hq]
        case measure => simp [intOf]; omega
    · obtain rfl : k = 7 := by omega
      have HDD : Hid (qs.map Qw.d = Qs) := by
        show _ = _
        refine List.ext_getElem (by rw [List.length_map, hll, hlQ]) (fun i h1 h2 => ?_)
        have := HD.out i (by omega)
        rw [List.getD_eq_getElem?_getD, List.getElem?_eq_getElem (by omega), List.getD_eq_getElem?_getD, List.getElem?_eq_getElem h2] at this
        rw [List.getElem_map]
        exact this
      have q0 := p0.keep hgr (by simp)
      have q1 := b1.keep hgr (by simp)
      go_wp2
      refine HK2.out _ _ ?_
      clear HK2
      have s0 : True := trivial
      clear x0 x1 x2 x3 x4
      go_wp2_with (first
        | (have _t := s0; clear s0; refine wpList_stC _ rfl _ _ _ rfl w.heap.size 4 38 _ #[.int .i64 cr, .int .i64 sz, .int .i64 ma, .int .i64 tu, .slice (some ⟨w1.heap.size, 0, none⟩) 7 7] (.slice (some ⟨w1.heap.size, 0, none⟩) 7 7) rfl rfl q0 (stc_queues _ _ _ _ _) (by show 4 < 5; decide) rfl ?_; intro w4 b4 u4; obtain ⟨x0, x1, x2, x3, x4⟩ := BxS.cell5 b4; have q14 := q1.keep u4 (fun e => by have e := Option.some.inj e; omega); have s1 : True := trivial)
        | (have _t := s1; clear s1; refine wpList_stX _ rfl _ (.tmp 2) (.tmp 48) rfl (w.heap.size + 1) _ _ rfl rfl q14 i5 rfl (by simp [Value.oneCell']) ?_; intro w9 b9 u9))
      refine bodyPost_ret (kres1 rfl _ _ _ ⟨w.heap.size + 1, 0, none⟩ _ rfl (BxS.load (t := 38) b9 Try.underlying38 i5)) rfl ?_
      have hO9 := ((hO.far u4 (by omega)).far u9 (by omega)).wide (lo' := w.heap.size) (by omega)
      exact ⟨_, qs, rfl, ⟨hO9, HDD.out⟩, grown_far (grown_far Gr u4 (fun q e => by have e := Option.some.inj e; omega)) u9 (fun q e => by have e := Option.some.inj e; omega)⟩

theorem OwQ.sep {w : World} {lo : Nat} {a : Option Addr} {n c : Nat} {qs : List Qw} (h : OwQ w lo a n c qs) {i j : Nat} (hij : i ≠ j) {r q : Qw} (hr : qs[i]? = some r) (hq : qs[j]? = some q) : ∀ x, Ofr r.v r.rs x → ¬ Ofr q.v q.rs x := by
  have hpw := List.pairwise_iff_getElem.1 h.apart
  obtain ⟨hi, rfl⟩ := List.getElem?_eq_some_iff.1 hr
  obtain ⟨hj, rfl⟩ := List.getElem?_eq_some_iff.1 hq
  intro x h1 h2
  rcases Nat.lt_or_ge i j with hl | hl
  · exact hpw i j hi hj hl x h1 h2
  · exact hpw j i hj hi (by omega) x h2 h1

theorem OwQ.rowAt {w w8 : World} {p : Nat → Prop} {lo gq n c : Nat} {qs : List Qw} (h : OwQ w lo (some ⟨gq, 0, none⟩) n c qs) (F : Fz p w w8) (hp : ¬ p gq) : w8.ownsRow 0 83 3 (.slice (some ⟨gq, 0, none⟩) n c) n (flQ qs) := by
  refine ⟨h.own.1, ?_⟩
  rcases h.own.2 with h1 | ⟨g, cap', cur, h1, h2, h3, h4⟩
  · exact .inl h1
  · refine .inr ⟨g, cap', cur, h1, h2, ?_, h4⟩
    have e : g = gq := by simp only [Value.slice.injEq, Option.some.injEq, Addr.mk.injEq] at h1; exact h1.1.1.symm
    subst e
    rw [F.block g (Array.getElem?_eq_some_iff.1 h3).1 hp]
    exact h3
/-- a queue's rows grew, and the queue is written into its row -/
theorem OwQ.put {w w8 w9 : World} {p : Nat → Prop} {lo gq n c j : Nat} {qs : List Qw} {q' : Qw} (h : OwQ w lo (some ⟨gq, 0, none⟩) n c qs) (hj : j < n) (F : Fz p w w8) (hpo : ∀ i r, i ≠ j → qs[i]? = some r → ∀ x, Ofr r.v r.rs x → ¬ p x)
    (hq : OwR w8 lo q'.a q'.n q'.c q'.rs) (hap : ∀ i r, i ≠ j → qs[i]? = some r → ∀ x, Ofr r.v r.rs x → ¬ Ofr q'.v q'.rs x) (h8 : w8.ownsRow 0 83 3 (.slice (some ⟨gq, 0, none⟩) n c) n (flQ qs)) (ho : w9.ownsRow 0 83 3 (.slice (some ⟨gq, 0, none⟩) n c) n (flQ (qs.set j q'))) (u : w8.grownBy w9 (some gq)) :
    OwQ w9 lo (some ⟨gq, 0, none⟩) n c (qs.set j q') := by
  have hl := h.len
  have hpw := List.pairwise_iff_getElem.1 h.apart
  have hne : ∀ r : Qw, OwR w8 lo r.a r.n r.c r.rs → OwR w9 lo r.a r.n r.c r.rs := fun r hr => hr.fz (Fz.of1 u) (fun x hx e => by
    have e : x = gq := e
    rcases h8.2 with ⟨h1, _⟩ | ⟨y, cap', cur, h1, _, hh, _⟩
    · simp at h1
    · simp only [Value.slice.injEq, Option.some.injEq, Addr.mk.injEq] at h1
      obtain ⟨⟨rfl, _⟩, _, rfl⟩ := h1
      exact ofr_box hr hh (by decide) (by decide) hx e)
  refine ⟨ho, by rw [List.length_set]; exact hl, h.new, fun r hr => ?_, List.pairwise_iff_getElem.2 (fun k i hkl hil hki x hx e => ?_)⟩
  · obtain ⟨i, hil, rfl⟩ := List.mem_iff_getElem.1 hr
    have hil' := hil
    rw [List.length_set] at hil'
    by_cases hij : i = j
    · subst hij
      rw [List.getElem_set_self]
      exact hne _ hq
    · rw [List.getElem_set_ne (fun e => hij e.symm)]
      exact hne _ ((h.each _ (List.getElem_mem hil')).fz F (fun x hx => hpo i _ hij (List.getElem?_eq_getElem hil') x hx))
  · have hkl' := hkl
    have hil' := hil
    rw [List.length_set] at hkl' hil'
    by_cases hkj : k = j
    · subst hkj
      rw [List.getElem_set_self] at hx
      rw [List.getElem_set_ne (by omega)] at e
      exact hap i _ (by omega) (List.getElem?_eq_getElem hil') x e hx
    · rw [List.getElem_set_ne (fun e => hkj e.symm)] at hx
      by_cases hij : i = j
      · subst hij
        rw [List.getElem_set_self] at e
        exact hap k _ hkj (List.getElem?_eq_getElem hkl') x hx e
      · rw [List.getElem_set_ne (fun e => hij e.symm)] at e
        exact hpw k i hkl' hil' hki x hx e
theorem onP_len {B : List Nat} (h : onP B = true) : 7 ≤ B.length ∧ B.length ≤ 65542 := by
  unfold onP at h
  rw [Bool.and_eq_true, decide_eq_true_eq, decide_eq_true_eq] at h
  obtain ⟨h1, h2⟩ := h
  unfold dcK at h2
  rw [if_pos h1] at h2
  omega
theorem seD_ok {cr sz ma tu : Int} {Qs : List Qd} (h : seD cr sz ma tu Qs = true) : Qs.length = 7 ∧ ∀ q, q ∈ Qs → q.P.length ≤ 200 ∧ ∀ r, r ∈ q.P → 7 ≤ r.length ∧ r.length ≤ 65542 := by
  unfold seD at h
  simp only [Bool.and_eq_true, decide_eq_true_eq, List.all_eq_true] at h
  refine ⟨h.1.2, fun q hq => ?_⟩
  have h2 := h.2 q hq
  unfold quD at h2
  simp only [Bool.and_eq_true, decide_eq_true_eq, List.all_eq_true] at h2
  exact ⟨h2.1.1.2, fun r hr => onP_len (h2.1.2 r hr)⟩
/-- what Put answers -/
def ptQ (Qs : List Qd) (ch : Int) : Qd := Qs.getD ch.toNat qd0
def ptE (cr sz ma tu : Int) (Qs : List Qd) (ch : Int) (B : List Nat) : Nat := if seD cr sz ma tu Qs = true then (if wiB ch 6 = true then (if onP B = true then (if (ptQ Qs ch).P.length = 200 then 12 else 0) else 8) else 2) else 11
def ptV (cr sz ma tu : Int) (Qs : List Qd) (ch : Int) (B : List Nat) : List Qd := if seD cr sz ma tu Qs = true then (if ptE cr sz ma tu Qs ch B = 0 then Qs.set ch.toNat ⟨(ptQ Qs ch).ow, (ptQ Qs ch).go, (ptQ Qs ch).P ++ [B]⟩ else Qs) else []
def ptX (cr sz ma tu : Int) (Qs : List Qd) (z : Int) : Int := if seD cr sz ma tu Qs = true then z else 0
theorem pt_bad {cr sz ma tu : Int} {Qs : List Qd} {ch : Int} {B : List Nat} (hs : seD cr sz ma tu Qs = true) {e : Nat} (hE : ptE cr sz ma tu Qs ch B = e) (he : e ≠ 0) : Hid (ptE cr sz ma tu Qs ch B = e) ∧ Hid (ptV cr sz ma tu Qs ch B = Qs) ∧ Hid (∀ z, ptX cr sz ma tu Qs z = z) := by
  refine ⟨hE, ?_, fun z => if_pos hs⟩
  show _ = _
  unfold ptV
  rw [if_pos hs, if_neg (by rw [hE]; exact he)]

set_option maxHeartbeats 32000000 in
theorem pu_t11 {u0 u1 u4 u5 u7 u9 u10 u11 u12 u13 u14 u15 u16 u17 u18 u19 u20 u21 u22 u23 u24 u25 u26 u27 u28 u29 u30 u31 u32 u33 u34 u35 u36 u37 u38 u39 u40 u41 u42 u43 u44 u45 : Value} (w0 w : World) (cr sz ma tu : Int) (g3 g6 gq lo j nb cb bb ob : Nat) (qs : List Qw) (q : Qw) (Qs : List Qd) (B : List Nat) (G0 : w0.grownBy w none) (hb : Rd w (some ⟨bb, ob, none⟩) nb cb B) (hnb : 1 ≤ nb ∧ nb ≤ 100000) (b3 : BxS w g3 38 #[.int .i64 cr, .int .i64 sz, .int .i64 ma, .int .i64 tu, .slice (some ⟨gq, 0, none⟩) 7 7]) (b6 : BxS w g6 38 #[.int .i64 0, .int .i64 0, .int .i64 0, .int .i64 0, .slice none 0 0]) (hO : OwS w lo (some ⟨gq, 0, none⟩) 7 7 qs Qs) (hj : qs[j]? = some q) (h36 : w0.heap.size ≤ g3 ∧ g3 < g6 ∧ g6 < lo) (hlo : lo ≤ w.heap.size) (hqn : q.n ≤ 200) :
    Code.wp Try.prog (tailR 11 (Try.f29.body.getD .skip)) (bodyPost Try.prog Try.f29 (fun e w' => ∃ (a' : Option Addr) (n' c' : Nat) (qs' : List Qw), e = .returned (.tuple #[.agg #[.int .i64 cr, .int .i64 sz, .int .i64 ma, .int .i64 tu, .slice a' n' c'], .int .i64 0]) ∧ OwS w' w0.heap.size a' n' c' qs' (Qs.set j ⟨q.ow, q.go, q.rs.map Rw.D ++ [B]⟩) ∧ w0.grownBy w' none)) (Act.mk (List.toArray (u0 :: u1 :: (.slice (some ⟨bb, ob, none⟩) nb cb) :: (.pointer (some ⟨g3, 0, none⟩)) :: u4 :: u5 :: (.pointer (some ⟨g6, 0, none⟩)) :: u7 :: (.pointer (some ⟨gq, j * 3, none⟩)) :: u9 :: u10 :: u11 :: u12 :: u13 :: u14 :: u15 :: u16 :: u17 :: u18 :: u19 :: u20 :: u21 :: u22 :: u23 :: u24 :: u25 :: u26 :: u27 :: u28 :: u29 :: u30 :: u31 :: u32 :: u33 :: u34 :: u35 :: u36 :: u37 :: u38 :: u39 :: u40 :: u41 :: u42 :: u43 :: u44 :: u45 :: [])) []) w := by
  conv => enter [2]; whnf
  refine wp_seq_k fun K1 hK1 => ?_
  have HK1 : Hid _ := hK1
  clear hK1
  have i5 := Try.info_se
  have hl := hO.o.len
  have hj7 : j < 7 := by have := (List.getElem?_eq_some_iff.1 hj).1; omega
  have hmem := List.mem_of_getElem? hj
  obtain ⟨c0, c1, c2⟩ := hO.o.cell hj
  have hgq := hO.o.hi (x := gq) (.inl rfl)
  have SD := grown_drew w none
  have SX : (w.drew).cell? ⟨gq, j * 3 + 1, none⟩ = some (.slice q.a q.n q.c) := c1
  refine wp_regionL (fun wz => wz.cell? ⟨gq, j * 3 + 1, none⟩ = some (.slice q.a q.n q.c)) [11] #[false, false, false, false, false, false, false, false, false, false, false, false] rfl (by kernel_rfl) ?_
  refine wpAnyZ_take [9, 10, 11] 0 (.pointer (some ⟨gq, j * 3, none⟩)) rfl (by kernel_rfl) (fun _ _ _ h => h) SX rfl (by intro wz hz; go_simp) ?_
  try simp only [List.getElem_toArray, List.getElem_cons_succ, List.getElem_cons_zero, Act.put, List.setIfInBounds_toArray, List.set_cons_zero, List.set_cons_succ]
  refine wpAnyZ_take [2, 3, 4, 8, 11] 1 (.pointer (some ⟨gq, j * 3, none⟩)) rfl (by kernel_rfl) (fun _ _ _ h => h) SX rfl (by intro wz hz; go_simp) ?_
  try simp only [List.getElem_toArray, List.getElem_cons_succ, List.getElem_cons_zero, Act.put, List.setIfInBounds_toArray, List.set_cons_zero, List.set_cons_succ]
  refine wpAnyZ_take [3, 4, 8, 11] 2 (.pointer (some ⟨gq, j * 3, none⟩)) rfl (by kernel_rfl) (fun _ _ _ h => h) SX rfl (by intro wz hz; go_simp) ?_
  try simp only [List.getElem_toArray, List.getElem_cons_succ, List.getElem_cons_zero, Act.put, List.setIfInBounds_toArray, List.set_cons_zero, List.set_cons_succ]
  refine wpAnyZ_take [4, 8, 11] 3 (.pointer (some ⟨gq, j * 3 + 1, none⟩)) rfl (by kernel_rfl) (fun _ _ _ h => h) SX rfl (by intro wz hz; go_simp) ?_
  try simp only [List.getElem_toArray, List.getElem_cons_succ, List.getElem_cons_zero, Act.put, List.setIfInBounds_toArray, List.set_cons_zero, List.set_cons_succ]
  refine wpAnyZ_take [8, 11] 4 (.slice q.a q.n q.c) rfl (by kernel_rfl) (fun _ _ _ h => h) SX rfl (by intro wz hz; go_simp) ?_
  try simp only [List.getElem_toArray, List.getElem_cons_succ, List.getElem_cons_zero, Act.put, List.setIfInBounds_toArray, List.set_cons_zero, List.set_cons_succ]
  refine wpAnyZ_take [6, 7, 8, 11] 5 (.slice (some ⟨bb, ob, none⟩) nb cb) rfl (by kernel_rfl) (fun _ _ _ h => h) SX rfl (by intro wz hz; go_simp) ?_
  try simp only [List.getElem_toArray, List.getElem_cons_succ, List.getElem_cons_zero, Act.put, List.setIfInBounds_toArray, List.set_cons_zero, List.set_cons_succ]
  have hO4 := hO.keep SD
  have hb4 := hb.keep SD
  have z4 := SD.size
  clear c0 c1 c2
  generalize w.drew = w4 at *
  refine wpAnyZ_oneB 6 rfl (by kernel_rfl) (fun K hK => ?_)
  go_simp
  go_at_call 49
  refine (pclone_any bb ob nb cb B w4 hb4 (by omega) (by omega)).mono ?_
  rintro e w6 ⟨ga, cg, rfl, hA6, g6'⟩
  dsimp only
  have z6 := g6'.size
  have hO6 := hO4.keep g6'
  obtain ⟨c0, c1, c2⟩ := hO6.o.cell hj
  refine hK _ _ (fun _ => c1) ?_
  try simp only [List.getElem_toArray, List.getElem_cons_succ, List.getElem_cons_zero, Act.put, List.setIfInBounds_toArray, List.set_cons_zero, List.set_cons_succ]
  refine wpAnyZ_oneB 7 rfl (by kernel_rfl) (fun K hK => ?_)
  go_simp
  have gA := World.grownBy_alloc w6 (.cells #[.slice (some ⟨ga, 0, none⟩) nb cg] 22) none
  have c1A := (hO6.keep gA).o.cell hj
  refine hK _ _ (fun _ => c1A.2.1) ?_
  try simp only [List.getElem_toArray, List.getElem_cons_succ, List.getElem_cons_zero, Act.put, List.setIfInBounds_toArray, List.set_cons_zero, List.set_cons_succ]
  have hOr := hO6.o.each q hmem
  have hga := hA6.new ga rfl
  refine wpAnyZ_oneB 8 rfl (by kernel_rfl) (fun K hK => ?_)
  refine step_psR w6 lo (⟨some ⟨ga, 0, none⟩, nb, cg, B⟩ : Rw) rfl _ _ rfl q.a q.n q.c q.rs rfl hOr (by omega) rfl (by omega) (hA6.wide (by omega)) (fun r hr y e => ((hO4.o.each q hmem).each r hr).later2 hA6 (Nat.le_refl _) y e) ?_
  intro gx cx w8 hR8 u8 hgx
  have F8 := Fz.ofO u8
  have hngq : ¬ (Value.slice q.a q.n q.c).ownBlock = some gq := fun e => hO6.o.row_ne hOr (.inl e) rfl
  have hrow := hO6.o.rowAt F8 hngq
  have hc8 : w8.cell? ⟨gq, j * 3 + 1, none⟩ = some (.slice q.a q.n q.c) := by
    have := hrow.cells (g := gq) rfl (j * 3 + 1) _ (by rw [flQ_at qs j q hj 1 (by decide)]; rfl)
    rwa [addr_add', Nat.zero_add] at this
  have hf8 := hrow.frozenAt (j * 3 + 1)
  refine hK _ _ (fun _ => hc8) ?_
  try simp only [List.getElem_toArray, List.getElem_cons_succ, List.getElem_cons_zero, Act.put, List.setIfInBounds_toArray, List.set_cons_zero, List.set_cons_succ]
  refine wpAnyZ_take [10, 11] 9 (.pointer (some ⟨gq, j * 3, none⟩)) rfl (by kernel_rfl) (fun _ _ _ h => h) hc8 rfl (by intro wz hz; go_simp) ?_
  try simp only [List.getElem_toArray, List.getElem_cons_succ, List.getElem_cons_zero, Act.put, List.setIfInBounds_toArray, List.set_cons_zero, List.set_cons_succ]
  refine wpAnyZ_take [11] 10 (.pointer (some ⟨gq, j * 3 + 1, none⟩)) rfl (by kernel_rfl) (fun _ _ _ h => h) hc8 rfl (by intro wz hz; go_simp) ?_
  try simp only [List.getElem_toArray, List.getElem_cons_succ, List.getElem_cons_zero, Act.put, List.setIfInBounds_toArray, List.set_cons_zero, List.set_cons_succ]
  refine wpAnyZ_oneB 11 rfl (by kernel_rfl) (fun K hK => ?_)
  go_simp
  refine hK _ _ (fun h => absurd (by decide) h) ?_
  try simp only [List.getElem_toArray, List.getElem_cons_succ, List.getElem_cons_zero, Act.put, List.setIfInBounds_toArray, List.set_cons_zero, List.set_cons_succ]
  refine wpAnyZ_doneB (by kernel_rfl) ?_ _
  have u9 := grown_set w8 gq (j * 3 + 1) (.slice (some ⟨gx, 0, none⟩) (q.n + 1) cx)
  have ho9 := (hrow.stored (j * 3 + 1) (.slice (some ⟨gx, 0, none⟩) (q.n + 1) cx)).1
  rw [flQ_set qs j q ⟨q.ow, some ⟨gx, 0, none⟩, q.n + 1, cx, q.go, q.rs ++ [⟨some ⟨ga, 0, none⟩, nb, cg, B⟩]⟩ hj 1 (by decide) _ rfl] at ho9
  have hO9 := hO6.o.put (q' := ⟨q.ow, some ⟨gx, 0, none⟩, q.n + 1, cx, q.go, q.rs ++ [⟨some ⟨ga, 0, none⟩, nb, cg, B⟩]⟩) hj7 F8 (fun i r hij hr x hx e => (OwQ.sep hO6.o hij hr hj) x hx (.inl e)) hR8 (fun i r hij hr x hx e => by
    have hxl := (hO6.o.hi (.inr ⟨r, List.mem_of_getElem? hr, hx⟩)).1
    have hxl4 := (hO4.o.hi (.inr ⟨r, List.mem_of_getElem? hr, hx⟩)).1
    rcases e with e | ⟨s, hs, e⟩
    · have e : gx = x := Option.some.inj e
      rcases hgx with h1 | h1
      · exact (OwQ.sep hO6.o hij hr hj) x hx (.inl (by rw [← e]; exact h1))
      · omega
    · rcases List.mem_append.1 hs with hs | hs
      · exact (OwQ.sep hO6.o hij hr hj) x hx (.inr ⟨s, hs, e⟩)
      · rw [List.mem_singleton.1 hs] at e
        have e : ga = x := Option.some.inj e
        omega) hrow ho9 u9
  have hb3 : BxS w8 g3 38 #[.int .i64 cr, .int .i64 sz, .int .i64 ma, .int .i64 tu, .slice (some ⟨gq, 0, none⟩) 7 7] := ((b3.keep SD (by simp)).keep g6' (by simp)).fz F8 (fun e => by have := (hO6.o.hi (.inr ⟨q, hmem, .inl e⟩)).2; omega)
  have hb6 : BxS w8 g6 38 #[.int .i64 0, .int .i64 0, .int .i64 0, .int .i64 0, .slice none 0 0] := ((b6.keep SD (by simp)).keep g6' (by simp)).fz F8 (fun e => by have := (hO6.o.hi (.inr ⟨q, hmem, .inl e⟩)).2; omega)
  have G8 : w0.grownBy w8 none := grown_far (grown_trans (grown_trans G0 SD) g6') u8 (fun x e => by have := (hO6.o.hi (.inr ⟨q, hmem, .inl e⟩)).2; omega)
  clear hc8 hf8
  generalize w8.setCell ⟨gq, j * 3 + 1, none⟩ (.slice (some ⟨gx, 0, none⟩) (q.n + 1) cx) = w9 at *
  have b39 := hb3.keep u9 (fun e => by have e := Option.some.inj e; omega)
  have b69 := hb6.keep u9 (fun e => by have e := Option.some.inj e; omega)
  have G9 := grown_far G8 u9 (fun q e => by have e := Option.some.inj e; omega)
  obtain ⟨x0, x1, x2, x3, x4⟩ := BxS.cell5 b39
  refine HK1.out _ _ ?_
  clear HK1
  have s0 : True := trivial
  go_wp2_with (have _t := s0; clear s0; refine wpList_stX _ rfl _ (.tmp 6) (.tmp 45) rfl g6 _ _ rfl rfl b69 i5 rfl (by simp [Value.oneCell']) ?_; intro w10 b10 u10; skip)
  refine bodyPost_ret (results_cell1t rfl _ _ _ ⟨g6, 0, none⟩ _ (.int .i64 0) rfl (BxS.load (t := 38) b10 Try.underlying38 i5) rfl) rfl ?_
  refine ⟨some ⟨gq, 0, none⟩, 7, 7, _, rfl, ⟨(hO9.far u10 (by omega)).wide (by have := G0.size; omega), ?_⟩, grown_far G9 u10 (fun q e => by have e := Option.some.inj e; omega)⟩
  rw [List.map_set, hO.d]
  congr 1
  show Qd.mk q.ow q.go ((q.rs ++ [(⟨some ⟨ga, 0, none⟩, nb, cg, B⟩ : Rw)]).map Rw.D) = _
  rw [List.map_append]
  rfl

set_option maxHeartbeats 32000000 in
theorem sput_any (cr sz ma tu : Int) (a : Option Addr) (n c : Nat) (Qs : List Qd) (ch : Int) (b : Option Addr) (nb cb : Nat) (B : List Nat) (w : World) (h : RdS w a n c Qs) (hb : Rd w b nb cb B) :
    Calls Try.prog 29 #[.agg #[.int .i64 cr, .int .i64 sz, .int .i64 ma, .int .i64 tu, .slice a n c], .int .i64 ch, .slice b nb cb] w fun e w' => ∃ (a' : Option Addr) (n' c' : Nat) (qs' : List Qw), e = .returned (.tuple #[.agg #[.int .i64 (ptX cr sz ma tu Qs cr), .int .i64 (ptX cr sz ma tu Qs sz), .int .i64 (ptX cr sz ma tu Qs ma), .int .i64 (ptX cr sz ma tu Qs tu), .slice a' n' c'], .int .i64 (ptE cr sz ma tu Qs ch B : Int)]) ∧ OwS w' w.heap.size a' n' c' qs' (ptV cr sz ma tu Qs ch B) ∧ w.grownBy w' none := by
  have hlQ := h.len
  have hlB := hb.len
  have b0 := BxS.new w 38 #[.int .i64 cr, .int .i64 sz, .int .i64 ma, .int .i64 tu, .slice a n c]
  have g0 := World.grownBy_alloc w (.cells #[.int .i64 cr, .int .i64 sz, .int .i64 ma, .int .i64 tu, .slice a n c] 38) none
  generalize hw0 : w.alloc (.cells #[.int .i64 cr, .int .i64 sz, .int .i64 ma, .int .i64 tu, .slice a n c] 38) = w0 at b0 g0
  have hz0 : w0.heap.size = w.heap.size + 1 := by rw [← hw0]; simp
  have b1 := BxS.new w0 38 #[.int .i64 0, .int .i64 0, .int .i64 0, .int .i64 0, .slice none 0 0]
  have g1 := World.grownBy_alloc w0 (.cells #[.int .i64 0, .int .i64 0, .int .i64 0, .int .i64 0, .slice none 0 0] 38) none
  generalize hw1 : w0.alloc (.cells #[.int .i64 0, .int .i64 0, .int .i64 0, .int .i64 0, .slice none 0 0] 38) = w1 at b1 g1
  rw [hz0] at b1
  have sz1 : w.heap.size + 2 ≤ w1.heap.size := by rw [← hw1]; simp [hz0]
  have p0 := b0.keep g1 (by simp)
  have G1 := grown_trans g0 g1
  have i5 := Try.info_se
  obtain ⟨x0, x1, x2, x3, x4⟩ := BxS.cell5 p0
  have kM := senderMay2_any cr sz ma tu a n c Qs w1 (h.keep G1)
  have s0 : True := trivial
  cases hS : seD cr sz ma tu Qs with
  | false =>
    have HE : Hid (ptE cr sz ma tu Qs ch B = 11) := by show _ = _; unfold ptE; rw [hS]; rfl
    have HV : Hid (ptV cr sz ma tu Qs ch B = []) := by show _ = _; unfold ptV; rw [hS]; rfl
    have HX : Hid (∀ z, ptX cr sz ma tu Qs z = 0) := fun z => by unfold ptX; rw [hS]; rfl
    rw [hS] at kM
    go_enter Try.func29, Try.ntmps29
    go_wp2_with (first
      | (go_at_call 56; have _t := s0; clear s0; refine kM.mono ?_; rintro e w2 ⟨rfl, y2⟩; have q0 := p0.keep y2 (by simp); have q1 := b1.keep y2 (by simp); have z2 := y2.size; clear x0 x1 x2 x3 x4; obtain ⟨x0, x1, x2, x3, x4⟩ := BxS.cell5 q0; have s1 : True := trivial)
      | (have _t := s1; clear s1; refine wpList_stX _ rfl _ (.tmp 6) (.tmp 12) rfl (w.heap.size + 1) _ _ rfl rfl q1 i5 rfl (by simp [Value.oneCell']) ?_; intro w9 b9 u9; skip))
    refine bodyPost_ret (results_cell1t rfl _ _ _ ⟨(w.heap.size + 1), 0, none⟩ _ (.int .i64 11) rfl (BxS.load (t := 38) b9 Try.underlying38 i5) rfl) rfl ?_
    rw [HE.out, HV.out, HX.out, HX.out, HX.out, HX.out]
    exact ⟨none, 0, 0, [], rfl, OwS.nil _ _, grown_far (grown_trans G1 y2) u9 (fun q e => by have e := Option.some.inj e; omega)⟩
  | true =>
    rw [hS] at kM
    obtain ⟨hl7, hq7⟩ := seD_ok hS
    have hn7 : n = 7 := by omega
    subst hn7
    have kC := fun wz hz => copySender_any cr sz ma tu a c Qs wz hz (fun q hq => ⟨(hq7 q hq).1, fun r hr => by have := (hq7 q hq).2 r hr; omega⟩)
    have kW := fun wz => fwithin_any ch 6 wz
    cases hW : wiB ch 6 with
    | false =>
      rw [hW] at kW
      obtain ⟨HE, HV, HX⟩ := pt_bad (ch := ch) (B := B) hS (e := 2) (by unfold ptE; rw [hS, hW]; rfl) (by decide)
      go_enter Try.func29, Try.ntmps29
      go_wp2_with (first
        | (go_at_call 56; have _t := s0; clear s0; refine kM.mono ?_; rintro e w2 ⟨rfl, y2⟩; have q0 := p0.keep y2 (by simp); have q1 := b1.keep y2 (by simp); have z2 := y2.size; clear x0 x1 x2 x3 x4; obtain ⟨x0, x1, x2, x3, x4⟩ := BxS.cell5 q0; have s1 : True := trivial)
        | (go_at_call 57; have _t := s1; clear s1; refine (kC _ (h.keep (grown_trans G1 y2))).mono ?_; rintro e w3 ⟨gq, qs3, rfl, hO3, y3⟩; have q0 := q0.keep y3 (by simp); have q1 := q1.keep y3 (by simp); have z3 := y3.size; clear x0 x1 x2 x3 x4; have s2 : True := trivial)
        | (have _t := s2; clear s2; refine wpList_stX _ rfl _ (.tmp 3) (.tmp 14) rfl w.heap.size _ _ rfl rfl q0 i5 rfl (by simp [Value.oneCell']) ?_; intro w4 q0 u4; obtain ⟨x0, x1, x2, x3, x4⟩ := BxS.cell5 q0; have hO4 := hO3.far u4 (by omega); have q1 := q1.keep u4 (fun e => by have e := Option.some.inj e; omega); have G4 := grown_far (grown_trans (grown_trans G1 y2) y3) u4 (fun q e => by have e := Option.some.inj e; omega); have z4 := u4.size; have s3 : True := trivial)
        | (go_at_call 43; have _t := s3; clear s3; refine (kW _).mono ?_; rintro e w5 ⟨rfl, hw5⟩; have hw5 := hw5.symm; subst hw5; have s4 : True := trivial)
        | (have _t := s4; clear s4; refine wpList_stX _ rfl _ (.tmp 6) (.tmp 18) rfl (w.heap.size + 1) _ _ rfl rfl q1 i5 rfl (by simp [Value.oneCell']) ?_; intro w9 b9 u9; skip))
      refine bodyPost_ret (results_cell1t rfl _ _ _ ⟨(w.heap.size + 1), 0, none⟩ _ (.int .i64 2) rfl (BxS.load (t := 38) b9 Try.underlying38 i5) rfl) rfl ?_
      rw [HE.out, HV.out, HX.out, HX.out, HX.out, HX.out]
      exact ⟨_, _, _, _, rfl, (hO4.far u9 (by omega)).wide (by omega), grown_far G4 u9 (fun q e => by have e := Option.some.inj e; omega)⟩
    | true =>
      rw [hW] at kW
      have hch : 0 ≤ ch ∧ ch ≤ 6 := of_decide_eq_true hW
      obtain ⟨j, rfl⟩ : ∃ j : Nat, ch = (j : Int) := ⟨ch.toNat, by omega⟩
      have kP := fun wz hz => onePacket_any b nb cb B wz hz
      cases hP : onP B with
      | false =>
        rw [hP] at kP
        obtain ⟨HE, HV, HX⟩ := pt_bad (ch := (j : Int)) (B := B) hS (e := 8) (by unfold ptE; rw [hS, hW, hP]; rfl) (by decide)
        go_enter Try.func29, Try.ntmps29
        go_wp2_with (first
          | (go_at_call 56; have _t := s0; clear s0; refine kM.mono ?_; rintro e w2 ⟨rfl, y2⟩; have q0 := p0.keep y2 (by simp); have q1 := b1.keep y2 (by simp); have z2 := y2.size; clear x0 x1 x2 x3 x4; obtain ⟨x0, x1, x2, x3, x4⟩ := BxS.cell5 q0; have s1 : True := trivial)
          | (go_at_call 57; have _t := s1; clear s1; refine (kC _ (h.keep (grown_trans G1 y2))).mono ?_; rintro e w3 ⟨gq, qs3, rfl, hO3, y3⟩; have q0 := q0.keep y3 (by simp); have q1 := q1.keep y3 (by simp); have z3 := y3.size; clear x0 x1 x2 x3 x4; have s2 : True := trivial)
          | (have _t := s2; clear s2; refine wpList_stX _ rfl _ (.tmp 3) (.tmp 14) rfl w.heap.size _ _ rfl rfl q0 i5 rfl (by simp [Value.oneCell']) ?_; intro w4 q0 u4; obtain ⟨x0, x1, x2, x3, x4⟩ := BxS.cell5 q0; have hO4 := hO3.far u4 (by omega); have q1 := q1.keep u4 (fun e => by have e := Option.some.inj e; omega); have G4 := grown_far (grown_trans (grown_trans G1 y2) y3) u4 (fun q e => by have e := Option.some.inj e; omega); have z4 := u4.size; have s3 : True := trivial)
          | (go_at_call 43; have _t := s3; clear s3; refine (kW _).mono ?_; rintro e w5 ⟨rfl, hw5⟩; have hw5 := hw5.symm; subst hw5; have s4 : True := trivial)
          | (go_at_call 58; have _t := s4; clear s4; refine (kP _ (hb.keep G4)).mono ?_; rintro e w6 ⟨rfl, y6⟩; have hO6 := hO4.keep y6; have q0 := q0.keep y6 (by simp); have q1 := q1.keep y6 (by simp); clear x0 x1 x2 x3 x4; obtain ⟨x0, x1, x2, x3, x4⟩ := BxS.cell5 q0; have G6 := grown_trans G4 y6; have z6 := y6.size; have s5 : True := trivial)
          | (have _t := s5; clear s5; refine wpList_stX _ rfl _ (.tmp 6) (.tmp 22) rfl (w.heap.size + 1) _ _ rfl rfl q1 i5 rfl (by simp [Value.oneCell']) ?_; intro w9 b9 u9; skip))
        refine bodyPost_ret (results_cell1t rfl _ _ _ ⟨(w.heap.size + 1), 0, none⟩ _ (.int .i64 8) rfl (BxS.load (t := 38) b9 Try.underlying38 i5) rfl) rfl ?_
        rw [HE.out, HV.out, HX.out, HX.out, HX.out, HX.out]
        exact ⟨_, _, _, _, rfl, (hO6.far u9 (by omega)).wide (by omega), grown_far G6 u9 (fun q e => by have e := Option.some.inj e; omega)⟩
      | true =>
        rw [hP] at kP
        have hBl := onP_len hP
        obtain ⟨bb, ob, rfl, _, _⟩ := hb.at' (by omega)
        have hj7 : j < 7 := by omega
        have hj7' : (j : Int) < 7 := by omega
        have HQ0 : Hid (ptQ Qs (j : Int) = Qs.getD j qd0) := rfl
        go_enter Try.func29, Try.ntmps29
        refine wp_seq_k fun K0 hK0 => ?_
        have HK0 : Hid _ := hK0
        clear hK0
        go_wp2
        refine HK0.out _ _ ?_
        clear HK0
        refine wp_seq_k fun K1 hK1 => ?_
        have HK1 : Hid _ := hK1
        clear hK1
        go_wp2_with (go_at_call 56; have _t := s0; clear s0; refine kM.mono ?_; rintro e w2 ⟨rfl, y2⟩; have q0 := p0.keep y2 (by simp); have q1 := b1.keep y2 (by simp); have z2 := y2.size; clear x0 x1 x2 x3 x4; obtain ⟨x0, x1, x2, x3, x4⟩ := BxS.cell5 q0; have s1 : True := trivial)
        refine HK1.out _ _ ?_
        clear HK1
        refine wp_seq_k fun K2 hK2 => ?_
        have HK2 : Hid _ := hK2
        clear hK2
        go_wp2_with (first
          | (go_at_call 57; have _t := s1; clear s1; refine (kC _ (h.keep (grown_trans G1 y2))).mono ?_; rintro e w3 ⟨gq, qs3, rfl, hO3, y3⟩; have q0 := q0.keep y3 (by simp); have q1 := q1.keep y3 (by simp); have z3 := y3.size; clear x0 x1 x2 x3 x4; have s2 : True := trivial)
          | (have _t := s2; clear s2; refine wpList_stX _ rfl _ (.tmp 3) (.tmp 14) rfl w.heap.size _ _ rfl rfl q0 i5 rfl (by simp [Value.oneCell']) ?_; intro w4 q0 u4; obtain ⟨x0, x1, x2, x3, x4⟩ := BxS.cell5 q0; have hO4 := hO3.far u4 (by omega); have q1 := q1.keep u4 (fun e => by have e := Option.some.inj e; omega); have G4 := grown_far (grown_trans (grown_trans G1 y2) y3) u4 (fun q e => by have e := Option.some.inj e; omega); have z4 := u4.size; have s3 : True := trivial))
        refine HK2.out _ _ ?_
        clear HK2
        refine wp_seq_k fun K3 hK3 => ?_
        have HK3 : Hid _ := hK3
        clear hK3
        go_wp2_with (go_at_call 43; have _t := s3; clear s3; refine (kW _).mono ?_; rintro e w5 ⟨rfl, hw5⟩; have hw5 := hw5.symm; subst hw5; have s4 : True := trivial)
        refine HK3.out _ _ ?_
        clear HK3
        refine wp_seq_k fun K4 hK4 => ?_
        have HK4 : Hid _ := hK4
        clear hK4
        go_wp2_with (go_at_call 58; have _t := s4; clear s4; refine (kP _ (hb.keep G4)).mono ?_; rintro e w6 ⟨rfl, y6⟩; have hO6 := hO4.keep y6; have q0 := q0.keep y6 (by simp); have q1 := q1.keep y6 (by simp); clear x0 x1 x2 x3 x4; obtain ⟨x0, x1, x2, x3, x4⟩ := BxS.cell5 q0; have G6 := grown_trans G4 y6; have z6 := y6.size; have s5 : True := trivial)
        refine HK4.out _ _ ?_
        clear HK4
        refine wp_seq_k fun K5 hK5 => ?_
        have HK5 : Hid _ := hK5
        clear hK5
        go_wp2
        refine HK5.out _ _ ?_
        clear HK5
        have hll := hO6.o.len
        obtain ⟨q, hq⟩ : ∃ q, qs3[j]? = some q := ⟨_, List.getElem?_eq_getElem (by omega)⟩
        obtain ⟨y0, y1, y2'⟩ := hO6.o.cell hq
        have hmem := List.mem_of_getElem? hq
        have hqd : Qs.getD j qd0 = q.d := by rw [← hO6.d, List.getD_eq_getElem?_getD, List.getElem?_map, hq]; rfl
        have hPq : (ptQ Qs (j : Int)).P = q.rs.map Rw.D := by rw [HQ0.out, hqd]; rfl
        have hqn := (hO6.o.each q hmem).len
        have HPl : Hid ((ptQ Qs (j : Int)).P.length = q.n) := by show _ = _; rw [hPq, List.length_map]; exact hqn
        have hq200 : q.n ≤ 200 := by
          have h1 := (hq7 (Qs.getD j qd0) (by rw [List.getD_eq_getElem?_getD, List.getElem?_eq_getElem (by omega)]; exact List.getElem_mem _)).1
          have h2 := HPl.out
          rw [HQ0.out] at h2
          omega
        have HQD : Hid (ptQ Qs (j : Int) = q.d) := by show _ = _; rw [HQ0.out, hqd]
        clear hqd hPq hqn
        refine wp_seq_k fun K6 hK6 => ?_
        have HK6 : Hid _ := hK6
        clear hK6
        by_cases h200 : q.n = 200
        · obtain ⟨HE, HV, HX⟩ := pt_bad (ch := (j : Int)) (B := B) hS (e := 12) (by unfold ptE; rw [if_pos hS, if_pos hW, if_pos hP, if_pos (by rw [HPl.out]; exact h200)]) (by decide)
          have h200' : ((q.n : Int) == 200) = true := by rw [h200]; rfl
          have s6 : True := trivial
          clear h200
          go_wp2_with (have _t := s6; clear s6; refine wpList_stX _ rfl _ (.tmp 6) (.tmp 33) rfl (w.heap.size + 1) _ _ rfl rfl q1 i5 rfl (by simp [Value.oneCell']) ?_; intro w9 b9 u9; skip)
          refine bodyPost_ret (results_cell1t rfl _ _ _ ⟨(w.heap.size + 1), 0, none⟩ _ (.int .i64 12) rfl (BxS.load (t := 38) b9 Try.underlying38 i5) rfl) rfl ?_
          rw [HE.out, HV.out, HX.out, HX.out, HX.out, HX.out]
          exact ⟨_, _, _, _, rfl, (hO6.far u9 (by omega)).wide (by omega), grown_far G6 u9 (fun q e => by have e := Option.some.inj e; omega)⟩
        · have h200' : ((q.n : Int) == 200) = false := by simp; omega
          have hE0 : ptE cr sz ma tu Qs (j : Int) B = 0 := by unfold ptE; rw [if_pos hS, if_pos hW, if_pos hP, if_neg (by rw [HPl.out]; exact h200)]
          have HE : Hid (ptE cr sz ma tu Qs (j : Int) B = 0) := hE0
          have HV : Hid (ptV cr sz ma tu Qs (j : Int) B = Qs.set j ⟨q.ow, q.go, q.rs.map Rw.D ++ [B]⟩) := by
            show _ = _
            unfold ptV
            rw [if_pos hS, if_pos hE0, HQD.out]
            rfl
          have HX : Hid (∀ z, ptX cr sz ma tu Qs z = z) := fun z => if_pos hS
          clear hE0 h200
          go_wp2
          refine HK6.out _ _ ?_
          rw [HE.out, HV.out, HX.out, HX.out, HX.out, HX.out]
          exact pu_t11 w w6 cr sz ma tu w.heap.size (w.heap.size + 1) gq w2.heap.size j nb cb bb ob qs3 q Qs B G6 (hb.keep G6) (by omega) q0 q1 hO6 hq ⟨Nat.le_refl _, by omega, by omega⟩ (by omega) hq200

theorem step_stC (w : World) {ops : Array Oper} {o : Oper} {a : Act} {K : Act → World → Prop} {Q : Exit → Act → World → Prop} {E : Prop} (hg : o.guard = none) (t : TypeId) (p x : Operand) (hop : o.op = Op.store t p x)
    (g i : Nat) (ty : TypeId) (A A' : Array Value) (v : Value) (hp : a.eval p = .pointer (some ⟨g, i, none⟩)) (hx : a.eval x = v) (hB : BxS w g ty A)
    (hst : ∀ w' : World, (∃ u, w'.cell? ⟨g, i, none⟩ = some u) → w'.frozen? ⟨g, i, none⟩ = false → (Instr.storeAt t (.pointer (some ⟨g, i, none⟩)) v).run Try.prog w' = .ok () (w'.setCell ⟨g, i, none⟩ v)) (hi : i < A.size) (hA : A.setIfInBounds i v = A')
    (hK : ∀ w', BxS w' g ty A' → w.grownBy w' (some g) → K (a.put o.dst undef) w') :
    if Region.wanted o (yielded ops a.tmps) = true then Oper.wp Try.prog o a w K Q else E := by
  have hw : Region.wanted o (yielded ops a.tmps) = true := by simp [Region.wanted, hg]
  rw [if_pos hw]
  have hc : ∃ u, w.cell? ⟨g, i, none⟩ = some u := ⟨A[i], by rw [cell_of_row w g i _ _ _ hB]; simp [hi]⟩
  have hf := frozen_of_row w g i _ _ hB
  have hfin := hK _ (by unfold BxS; rw [heap_setCell_same w g i _ _ _ hB, hA]) (grown_set w g i v)
  unfold Oper.wp
  simp [execOp, hop, hp, hx, hst w hc hf, Result.andThen, Oper.upon]
  exact hfin

theorem Fz.more {p q : Nat → Prop} {w w' : World} (h : Fz p w w') (hpq : ∀ x, p x → q x) : Fz q w w' := ⟨h.os, h.tape, h.output, h.size, fun k hk hn => h.block k hk (fun e => hn (hpq k e))⟩
theorem Ans.ltB {w : World} {lo n c : Nat} {a : Option Addr} {L : List Nat} (h : Ans w lo a n c L) {g : Nat} (e : (Value.slice a n c).ownBlock = some g) : g < w.heap.size := by
  rcases h.cases with ⟨e1, _, _⟩ | ⟨x, e1, _, hx⟩
  · rw [e1] at e; simp [Value.ownBlock] at e
  · rw [e1] at e
    have e2 : x = g := Option.some.inj e
    omega
theorem Ans.at0 {w : World} {lo n c g off : Nat} {a : Option Addr} {L : List Nat} (h : Ans w lo a n c L) (e : a = some ⟨g, off, none⟩) : (Value.slice a n c).ownBlock = some g := by
  rcases h.cases with ⟨e1, _, _⟩ | ⟨x, e1, _, hx⟩
  · rw [e1] at e; cases e
  · rw [e1] at e
    cases e
    rw [e1]
    rfl
end Go.Proofs.Ytlmddjkplnbadaa
