import Derived.Deep.RegionLawGrows
import Derived.Test.YtlmddjkplnbadaaXAG
import Derived.Test.YtlmddjkplnbadaaPFil
namespace Go.Proofs.Ytlmddjkplnbadaa
open Go.RowKit
set_option maxRecDepth 100000
set_option linter.unusedVariables false
set_option linter.unusedSimpArgs false

theorem flatR_drop (rs : List Rw) (k : Nat) : (flatR rs).drop k = flatR (rs.drop k) := by simp [flatR, List.map_drop]
/-- rows of bytes in a row of the call's own, from some place of it on -/
structure RO (w : World) (lo : Nat) (a : Option Addr) (n c : Nat) (rs : List Rw) : Prop where
  len : rs.length = n
  max : n ≤ c ∧ c ≤ maxLen
  at' : (a = none ∧ n = 0 ∧ c = 0) ∨ ∃ g o cur, a = some ⟨g, o, none⟩ ∧ lo ≤ g ∧ w.heap[g]? = some (.cells cur 22 (0, 0)) ∧ o + c ≤ cur.size ∧ ∀ j u, (flatR rs)[j]? = some u → cur[o + j]? = some u
  each : ∀ r, r ∈ rs → Ans w lo r.a r.n r.c r.D
/-- the block that it lies in -/
def Hb (a : Option Addr) (i : Nat) : Prop := ∃ o s, a = some ⟨i, o, s⟩
theorem RO.of {w : World} {lo : Nat} {a : Option Addr} {n c : Nat} {rs : List Rw} (h : OwR w lo a n c rs) : RO w lo a n c rs := by
  refine ⟨h.len, ⟨h.rdr.le, h.rdr.max⟩, ?_, h.each⟩
  rcases h.own.2 with ⟨h1, h2⟩ | ⟨g, cap', cur, h1, _, h3, _, _, h6, h7⟩
  · simp only [Value.slice.injEq] at h1; exact .inl h1
  · simp only [Value.slice.injEq] at h1
    obtain ⟨rfl, _, rfl⟩ := h1
    refine .inr ⟨g, 0, cur, rfl, h.new g rfl, h3, by omega, fun j u hu => ?_⟩
    rw [Nat.zero_add]
    rw [← h7, List.getElem?_take] at hu
    split at hu
    · simpa using hu
    · cases hu
theorem RO.hlo {w : World} {lo : Nat} {a : Option Addr} {n c : Nat} {rs : List Rw} (h : RO w lo a n c rs) {y : Nat} (hy : Hb a y) : lo ≤ y ∧ y < w.heap.size ∧ ∃ cs, BxS w y 22 cs := by
  obtain ⟨oo, ss, e⟩ := hy
  rcases h.at' with ⟨rfl, _⟩ | ⟨g, o, cur, e', hl, hh, _⟩
  · cases e
  · rw [e'] at e
    cases e
    exact ⟨hl, (Array.getElem?_eq_some_iff.1 hh).1, cur, hh⟩
theorem RO.wide {w : World} {lo lo' : Nat} {a : Option Addr} {n c : Nat} {rs : List Rw} (h : RO w lo a n c rs) (hl : lo' ≤ lo) : RO w lo' a n c rs := by
  refine ⟨h.len, h.max, ?_, fun r hr => (h.each r hr).wide hl⟩
  rcases h.at' with h1 | ⟨g, o, cur, e, hlo, hh, hs, hc⟩
  · exact .inl h1
  · exact .inr ⟨g, o, cur, e, Nat.le_trans hl hlo, hh, hs, hc⟩
/-- it lies as it lay, whatever but bytes and its own row is written -/
theorem RO.kept {w w' : World} {lo : Nat} {a : Option Addr} {n c : Nat} {rs : List Rw} {r : Option Nat} (h : RO w lo a n c rs) (hg : w.grownBy w' r) (h1 : ∀ y, r = some y → ¬ Hb a y) (h2 : ∀ y, r = some y → ∃ t cs, BxS w y t cs ∧ 5 ≠ t) : RO w' lo a n c rs := by
  refine ⟨h.len, h.max, ?_, fun q hq => (h.each q hq).kept hg ?_⟩
  · rcases h.at' with h3 | ⟨g, o, cur, e, hlo, hh, hs, hc⟩
    · exact .inl h3
    · refine .inr ⟨g, o, cur, e, hlo, ?_, hs, hc⟩
      rw [hg.block g (Array.getElem?_eq_some_iff.1 hh).1 (fun e2 => h1 g e2.symm ⟨o, none, e⟩)]
      exact hh
  · cases e : (Value.slice q.a q.n q.c).ownBlock with
    | none => exact .inl rfl
    | some x =>
      refine .inr (fun e2 => ?_)
      obtain ⟨t, cs, hb, ht⟩ := h2 x e2.symm
      exact (h.each q hq).box hb ht e
theorem RO.keep {w w' : World} {lo : Nat} {a : Option Addr} {n c : Nat} {rs : List Rw} (h : RO w lo a n c rs) (hg : w.grownBy w' none) : RO w' lo a n c rs := h.kept hg (fun y e => by cases e) (fun y e => by cases e)
theorem RO.rdr {w : World} {lo : Nat} {a : Option Addr} {n c : Nat} {rs : List Rw} (h : RO w lo a n c rs) : RdR w a n c (fun i => rs.getD i kr0) := by
  have hl := h.len
  refine ⟨h.max.1, h.max.2, fun h0 => ?_, fun i hi => ?_⟩
  · rcases h.at' with h1 | ⟨g, o, cur, e, hlo, hh, hs, hc⟩
    · omega
    · refine ⟨g, o, e, (Array.getElem?_eq_some_iff.1 hh).1, fun i hi => ?_⟩
      rw [cell_of_row _ _ _ _ _ _ hh]
      refine hc i _ ?_
      simp only [flatR, List.getElem?_map]
      rw [List.getD_eq_getElem?_getD, List.getElem?_eq_getElem (by omega)]
      rfl
  · have hm : rs.getD i kr0 ∈ rs := by rw [List.getD_eq_getElem?_getD, List.getElem?_eq_getElem (by omega)]; exact List.getElem_mem _
    exact (h.each _ hm).rd
theorem RO.rd {w : World} {lo : Nat} {a : Option Addr} {n c : Nat} {rs : List Rw} {R : List (List Nat)} (h : RO w lo a n c rs) (hR : rs.map Rw.D = R) : RdW w a n c R := by
  refine ⟨by rw [← hR, List.length_map]; exact h.len, _, h.rdr, fun i hi => ?_⟩
  rw [← hR, getD_map_D rs i (by rw [h.len]; exact hi)]
/-- the first m are left out -/
theorem RO.tail {w : World} {lo g o n c : Nat} {rs : List Rw} (h : RO w lo (some ⟨g, o, none⟩) n c rs) (m : Nat) (hm : m ≤ n) : RO w lo (some ⟨g, o + m, none⟩) (n - m) (c - m) (rs.drop m) := by
  have hl := h.len
  have hx := h.max
  refine ⟨by rw [List.length_drop]; omega, ⟨by omega, by omega⟩, ?_, fun r hr => h.each r (List.mem_of_mem_drop hr)⟩
  rcases h.at' with ⟨e, _⟩ | ⟨g', o', cur, e, hlo, hh, hs, hc⟩
  · cases e
  · cases e
    refine .inr ⟨g, o + m, cur, rfl, hlo, hh, by omega, fun j u hu => ?_⟩
    rw [← flatR_drop, List.getElem?_drop] at hu
    rw [Nat.add_assoc]
    exact hc (m + j) u hu
theorem RO.tail0 {w : World} {lo g o n c : Nat} {rs : List Rw} (h : RO w lo (some ⟨g, o, none⟩) n c rs) (m : Nat) (hm : m ≤ n) (hc : c = m) : RO w lo (some ⟨g, o, none⟩) (n - m) 0 (rs.drop m) := by
  have hl := h.len
  have hx := h.max
  have e : rs.drop m = [] := List.drop_eq_nil_of_le (by omega)
  rw [e]
  refine ⟨by rw [show n - m = 0 by omega]; rfl, ⟨by omega, by omega⟩, ?_, fun r hr => by cases hr⟩
  rcases h.at' with ⟨e, _⟩ | ⟨g', o', cur, e, hlo, hh, hs, hcc⟩
  · cases e
  · cases e
    exact .inr ⟨g, o, cur, rfl, hlo, hh, by omega, fun j u hu => by simp [flatR] at hu⟩
theorem RO.nil (w : World) (lo : Nat) : RO w lo none 0 0 [] := RO.of (OwR.nil w lo)
/-- rows as in RO, no two of them in one block -/
structure OwO (w : World) (lo : Nat) (a : Option Addr) (n c : Nat) (rs : List Rw) : Prop where
  ro : RO w lo a n c rs
  apart : rs.Pairwise fun r s => ∀ g, r.v.ownBlock = some g → s.v.ownBlock ≠ some g
def Ofo (a : Option Addr) (rs : List Rw) (x : Nat) : Prop := Hb a x ∨ ∃ r, r ∈ rs ∧ r.v.ownBlock = some x
theorem ofo_of {w : World} {lo : Nat} {a : Option Addr} {n c : Nat} {rs : List Rw} (h : OwR w lo a n c rs) {x : Nat} (hx : Ofo a rs x) : Ofr (.slice a n c) rs x := by
  rcases hx with ⟨o, s, e⟩ | h2
  · refine .inl ?_
    rcases h.own.2 with ⟨h1, _⟩ | ⟨g, cap', cur, h1, _⟩
    · simp only [Value.slice.injEq] at h1; rw [h1.1] at e; cases e
    · simp only [Value.slice.injEq] at h1; rw [h1.1] at e; cases e; rw [h1.1]; rfl
  · exact .inr h2
theorem OwR.wk {w : World} {lo : Nat} {a : Option Addr} {n c : Nat} {rs : List Rw} (h : OwR w lo a n c rs) : OwO w lo a n c rs := ⟨RO.of h, h.apart⟩
theorem OwO.nil (w : World) (lo : Nat) : OwO w lo none 0 0 [] := (OwR.nil w lo).wk
theorem OwO.lh {w : World} {lo : Nat} {a : Option Addr} {n c : Nat} {rs : List Rw} (h : OwO w lo a n c rs) {x : Nat} (hx : Ofo a rs x) : x < w.heap.size ∧ lo ≤ x := by
  rcases hx with hx | ⟨r, hr, hx⟩
  · have := h.ro.hlo hx; exact ⟨this.2.1, this.1⟩
  · exact ⟨(h.ro.each r hr).ltB hx, (h.ro.each r hr).new x hx⟩
theorem OwO.box {w : World} {lo n c g : Nat} {a : Option Addr} {rs : List Rw} {t : TypeId} {cs : Array Value} (h : OwO w lo a n c rs) (b : BxS w g t cs) (h1 : 22 ≠ t) (h2 : 5 ≠ t) {x : Nat} (hx : Ofo a rs x) : ¬ x = g := by
  intro e
  subst e
  rcases hx with hx | ⟨r, hr, hx⟩
  · obtain ⟨_, _, cs', hb⟩ := h.ro.hlo hx
    exact BxS.apart hb b h1 rfl
  · exact (h.ro.each r hr).apart b h2 hx
theorem OwO.fz {w w' : World} {p : Nat → Prop} {lo n c : Nat} {a : Option Addr} {rs : List Rw} (h : OwO w lo a n c rs) (hF : Fz p w w') (hn : ∀ x, Ofo a rs x → ¬ p x) : OwO w' lo a n c rs := by
  refine ⟨⟨h.ro.len, h.ro.max, ?_, fun r hr => (h.ro.each r hr).fz hF (fun x e => hn x (.inr ⟨r, hr, e⟩))⟩, h.apart⟩
  rcases h.ro.at' with h1 | ⟨g, o, cur, e, hlo, hh, hs, hc⟩
  · exact .inl h1
  · refine .inr ⟨g, o, cur, e, hlo, ?_, hs, hc⟩
    rw [hF.block g (Array.getElem?_eq_some_iff.1 hh).1 (hn g (.inl ⟨o, none, e⟩))]
    exact hh
theorem OwO.keep {w w' : World} {lo n c : Nat} {a : Option Addr} {rs : List Rw} (h : OwO w lo a n c rs) (hg : w.grownBy w' none) : OwO w' lo a n c rs := ⟨h.ro.keep hg, h.apart⟩
theorem OwO.wide {w : World} {lo lo' n c : Nat} {a : Option Addr} {rs : List Rw} (h : OwO w lo a n c rs) (hl : lo' ≤ lo) : OwO w lo' a n c rs := ⟨h.ro.wide hl, h.apart⟩
/-- queues whose rows may begin behind their row's head -/
structure WkQ (w : World) (lo : Nat) (a : Option Addr) (n c : Nat) (qs : List Qw) : Prop where
  own : w.ownsRow 0 83 3 (.slice a n c) n (flQ qs)
  len : qs.length = n
  new : ∀ g, (Value.slice a n c).ownBlock = some g → lo ≤ g
  each : ∀ q, q ∈ qs → OwO w lo q.a q.n q.c q.rs
  apart : qs.Pairwise fun q r => ∀ x, Ofo q.a q.rs x → ¬ Ofo r.a r.rs x
def Wbl (v : Value) (qs : List Qw) (x : Nat) : Prop := v.ownBlock = some x ∨ ∃ q, q ∈ qs ∧ Ofo q.a q.rs x
theorem OwQ.wk {w : World} {lo : Nat} {a : Option Addr} {n c : Nat} {qs : List Qw} (h : OwQ w lo a n c qs) : WkQ w lo a n c qs := by
  refine ⟨h.own, h.len, h.new, fun q hq => (h.each q hq).wk, ?_⟩
  refine List.pairwise_iff_getElem.2 (fun i j hi hj hij x h1 h2 => ?_)
  exact List.pairwise_iff_getElem.1 h.apart i j hi hj hij x (ofo_of (h.each _ (List.getElem_mem hi)) h1) (ofo_of (h.each _ (List.getElem_mem hj)) h2)
theorem wbl_of {w : World} {lo : Nat} {a : Option Addr} {n c : Nat} {qs : List Qw} (h : OwQ w lo a n c qs) {x : Nat} (hx : Wbl (.slice a n c) qs x) : Qbl (.slice a n c) qs x := by
  rcases hx with hx | ⟨q, hq, hx⟩
  · exact .inl hx
  · exact .inr ⟨q, hq, ofo_of (h.each q hq) hx⟩
theorem WkQ.someQ {w : World} {lo : Nat} {a : Option Addr} {n c : Nat} {qs : List Qw} (h : WkQ w lo a n c qs) (h0 : 0 < n) : ∃ g, a = some ⟨g, 0, none⟩ := by
  rcases h.own.2 with ⟨h1, h2⟩ | ⟨g, cap', cur, h1, _⟩
  · omega
  · simp only [Value.slice.injEq] at h1; exact ⟨g, h1.1⟩
theorem WkQ.max {w : World} {lo : Nat} {a : Option Addr} {n c : Nat} {qs : List Qw} (h : WkQ w lo a n c qs) : n ≤ c ∧ c ≤ maxLen := by
  rcases h.own.2 with ⟨h1, h2⟩ | ⟨g, cap', cur, h1, _, h3, h4, h5, _⟩
  · simp only [Value.slice.injEq] at h1; obtain ⟨_, h6, h7⟩ := h1; subst h6; subst h7; exact ⟨Nat.le_refl _, Nat.zero_le _⟩
  · simp only [Value.slice.injEq] at h1; obtain ⟨_, _, h7⟩ := h1; subst h7; exact ⟨h4, h5⟩
theorem WkQ.cell {w : World} {lo g n c : Nat} {qs : List Qw} (h : WkQ w lo (some ⟨g, 0, none⟩) n c qs) {i : Nat} {q : Qw} (hi : qs[i]? = some q) :
    w.cell? ⟨g, i * 3, none⟩ = some (.int .i64 q.ow) ∧ w.cell? ⟨g, i * 3 + 1, none⟩ = some (.slice q.a q.n q.c) ∧ w.cell? ⟨g, i * 3 + 2, none⟩ = some (.int .i64 q.go) := by
  have hc : ∀ j, j < 3 → ∀ u, q.cells[j]? = some u → w.cell? ⟨g, i * 3 + j, none⟩ = some u := fun j hj u hu => by
    have hf := flQ_at qs i q hi j hj
    rw [hu] at hf
    have := h.own.cells (g := g) rfl (i * 3 + j) u hf
    rw [addr_add', Nat.zero_add] at this
    exact this
  exact ⟨hc 0 (by decide) _ rfl, hc 1 (by decide) _ rfl, hc 2 (by decide) _ rfl⟩
theorem WkQ.keep {w w' : World} {lo : Nat} {a : Option Addr} {n c : Nat} {qs : List Qw} (h : WkQ w lo a n c qs) (hg : w.grownBy w' none) : WkQ w' lo a n c qs :=
  ⟨h.own.kept hg (by cases (Value.slice a n c).ownBlock <;> simp), h.len, h.new, fun k hk => (h.each k hk).keep hg, h.apart⟩
theorem WkQ.wide {w : World} {lo lo' : Nat} {a : Option Addr} {n c : Nat} {qs : List Qw} (h : WkQ w lo a n c qs) (hl : lo' ≤ lo) : WkQ w lo' a n c qs :=
  ⟨h.own, h.len, fun g hg => Nat.le_trans hl (h.new g hg), fun k hk => (h.each k hk).wide hl, h.apart⟩
theorem WkQ.hi {w : World} {lo : Nat} {a : Option Addr} {n c : Nat} {qs : List Qw} (h : WkQ w lo a n c qs) {x : Nat} (hx : Wbl (.slice a n c) qs x) : x < w.heap.size ∧ lo ≤ x := by
  rcases hx with hx | ⟨k, hk, hx⟩
  · refine ⟨?_, h.new x hx⟩
    rcases h.own.2 with ⟨h1, _⟩ | ⟨g, cap', cur, h1, _, h3, _⟩
    · rw [h1] at hx; simp [Value.ownBlock] at hx
    · rw [h1] at hx
      have hx : g = x := Option.some.inj hx
      subst hx
      exact (Array.getElem?_eq_some_iff.1 h3).1
  · exact (h.each k hk).lh hx
theorem WkQ.fz {w w' : World} {p : Nat → Prop} {lo : Nat} {a : Option Addr} {n c : Nat} {qs : List Qw} (h : WkQ w lo a n c qs) (hF : Fz p w w') (hn : ∀ x, Wbl (.slice a n c) qs x → ¬ p x) : WkQ w' lo a n c qs := by
  refine ⟨⟨h.own.1, ?_⟩, h.len, h.new, fun k hk => (h.each k hk).fz hF (fun x e => hn x (.inr ⟨k, hk, e⟩)), h.apart⟩
  rcases h.own.2 with h1 | ⟨g, cap', cur, h1, h2, h3, h4⟩
  · exact .inl h1
  · refine .inr ⟨g, cap', cur, h1, h2, ?_, h4⟩
    rw [hF.block g (Array.getElem?_eq_some_iff.1 h3).1 (hn g (.inl (by rw [h1]; rfl)))]
    exact h3
theorem WkQ.far {w w' : World} {lo x : Nat} {a : Option Addr} {n c : Nat} {qs : List Qw} (h : WkQ w lo a n c qs) (hg : w.grownBy w' (some x)) (hx : x < lo) : WkQ w' lo a n c qs :=
  h.fz (Fz.of1 hg) (fun y hy e => by have := (h.hi hy).2; have e : y = x := e; omega)
theorem WkQ.box {w : World} {lo n c g : Nat} {a : Option Addr} {qs : List Qw} {t : TypeId} {cs : Array Value} (h : WkQ w lo a n c qs) (b : BxS w g t cs) (h0 : 83 ≠ t) (h1 : 22 ≠ t) (h2 : 5 ≠ t) : ¬ Wbl (.slice a n c) qs g := by
  rintro (e | ⟨q, hq, e⟩)
  · rcases h.own.2 with ⟨h1, _⟩ | ⟨x, cap, cur, h1, _, hh, _⟩
    · rw [h1] at e; simp [Value.ownBlock] at e
    · rw [h1] at e
      have e : x = g := Option.some.inj e
      subst e
      unfold BxS at b
      rw [hh] at b
      injection b with b
      injection b with _ b _
      exact h0 b
  · exact (h.each q hq).box b h1 h2 e rfl
theorem WkQ.row_ne {w : World} {lo lo' g n c : Nat} {qs : List Qw} (h : WkQ w lo (some ⟨g, 0, none⟩) n c qs) {a : Option Addr} {m k : Nat} {rs : List Rw} (hr : OwO w lo' a m k rs) {x : Nat} (hx : Ofo a rs x) : x ≠ g := by
  rcases h.own.2 with ⟨h1, _⟩ | ⟨y, cap', cur, h1, _, hh, _⟩
  · simp at h1
  · simp only [Value.slice.injEq, Option.some.injEq, Addr.mk.injEq] at h1
    obtain ⟨⟨rfl, _⟩, _, rfl⟩ := h1
    exact hr.box hh (by decide) (by decide) hx
theorem WkQ.sep {w : World} {lo : Nat} {a : Option Addr} {n c : Nat} {qs : List Qw} (h : WkQ w lo a n c qs) {i j : Nat} (hij : i ≠ j) {r q : Qw} (hr : qs[i]? = some r) (hq : qs[j]? = some q) : ∀ x, Ofo r.a r.rs x → ¬ Ofo q.a q.rs x := by
  have hpw := List.pairwise_iff_getElem.1 h.apart
  obtain ⟨hi, rfl⟩ := List.getElem?_eq_some_iff.1 hr
  obtain ⟨hj, rfl⟩ := List.getElem?_eq_some_iff.1 hq
  intro x h1 h2
  rcases Nat.lt_or_ge i j with hl | hl
  · exact hpw i j hi hj hl x h1 h2
  · exact hpw j i hj hi (by omega) x h2 h1
structure WkS (w : World) (lo : Nat) (a : Option Addr) (n c : Nat) (qs : List Qw) (Qs : List Qd) : Prop where
  o : WkQ w lo a n c qs
  d : qs.map Qw.d = Qs
theorem OwS.wk {w : World} {lo : Nat} {a : Option Addr} {n c : Nat} {qs : List Qw} {Qs : List Qd} (h : OwS w lo a n c qs Qs) : WkS w lo a n c qs Qs := ⟨h.o.wk, h.d⟩
theorem WkS.keep {w w' : World} {lo : Nat} {a : Option Addr} {n c : Nat} {qs : List Qw} {Qs : List Qd} (h : WkS w lo a n c qs Qs) (hg : w.grownBy w' none) : WkS w' lo a n c qs Qs := ⟨h.o.keep hg, h.d⟩
theorem WkS.wide {w : World} {lo lo' : Nat} {a : Option Addr} {n c : Nat} {qs : List Qw} {Qs : List Qd} (h : WkS w lo a n c qs Qs) (hl : lo' ≤ lo) : WkS w lo' a n c qs Qs := ⟨h.o.wide hl, h.d⟩
theorem WkS.fz {w w' : World} {p : Nat → Prop} {lo : Nat} {a : Option Addr} {n c : Nat} {qs : List Qw} {Qs : List Qd} (h : WkS w lo a n c qs Qs) (hF : Fz p w w') (hn : ∀ x, Wbl (.slice a n c) qs x → ¬ p x) : WkS w' lo a n c qs Qs := ⟨h.o.fz hF hn, h.d⟩
theorem WkS.far {w w' : World} {lo x : Nat} {a : Option Addr} {n c : Nat} {qs : List Qw} {Qs : List Qd} (h : WkS w lo a n c qs Qs) (hg : w.grownBy w' (some x)) (hx : x < lo) : WkS w' lo a n c qs Qs := ⟨h.o.far hg hx, h.d⟩
theorem WkS.len {w : World} {lo : Nat} {a : Option Addr} {n c : Nat} {qs : List Qw} {Qs : List Qd} (h : WkS w lo a n c qs Qs) : Qs.length = n := by rw [← h.d, List.length_map]; exact h.o.len
theorem WkS.rd {w : World} {lo : Nat} {a : Option Addr} {n c : Nat} {qs : List Qw} {Qs : List Qd} (h : WkS w lo a n c qs Qs) : RdS w a n c Qs := by
  have hl := h.o.len
  have hm := h.o.max
  refine ⟨h.len, fun i => (qs.getD i qw0).u, ⟨hm.1, hm.2, fun h0 => ?_, fun i hi => ?_⟩, fun i hi => ?_⟩
  · obtain ⟨g, rfl⟩ := h.o.someQ h0
    have hb := (h.o.hi (x := g) (.inl rfl)).1
    refine ⟨g, 0, rfl, hb, fun i hi => ?_⟩
    have e : qs[i]? = some (qs.getD i qw0) := by rw [List.getD_eq_getElem?_getD, List.getElem?_eq_getElem (by omega)]; rfl
    have := h.o.cell e
    rw [Nat.zero_add]
    exact this
  · have hm : qs.getD i qw0 ∈ qs := by rw [List.getD_eq_getElem?_getD, List.getElem?_eq_getElem (by omega)]; exact List.getElem_mem _
    exact (h.o.each _ hm).ro.rdr
  · have hg : qs.getD i qw0 = qs[i]'(by omega) := by rw [List.getD_eq_getElem?_getD, List.getElem?_eq_getElem (by omega)]; rfl
    have e : Qs.getD i qd0 = (qs[i]'(by omega)).d := by rw [← h.d, List.getD_eq_getElem?_getD, List.getElem?_map, List.getElem?_eq_getElem (by omega)]; rfl
    dsimp only
    rw [e, hg]
    have hO := h.o.each (qs[i]'(by omega)) (List.getElem_mem _)
    refine ⟨rfl, rfl, ?_, fun j hj => ?_⟩
    · show (qs[i]'(by omega)).n = ((qs[i]'(by omega)).rs.map Rw.D).length
      rw [List.length_map]; exact hO.ro.len.symm
    · show ((qs[i]'(by omega)).rs.getD j kr0).D = ((qs[i]'(by omega)).rs.map Rw.D).getD j []
      rw [getD_map_D _ j (by rw [hO.ro.len]; exact hj)]
theorem WkS.nil (w : World) (lo : Nat) : WkS w lo none 0 0 [] [] := (OwS.nil w lo).wk

/-- what fills the rest of a frame -/
def nxF (m : Nat) : List Nat := filL ((max m 7 : Nat) : Int)
/-- the next m bytes of packets, of the first of which go bytes are gone: the bytes, what is left -/
def nx : Nat → Nat → List (List Nat) → Nat → List Nat × List (List Nat) × Nat
  | 0, _, P, go => ([], P, go)
  | f + 1, m, P, go => if m = 0 then ([], P, go) else
    if ((if P.length = 0 then [nxF m] else P).getD 0 []).length - go ≤ m then
      (((if P.length = 0 then [nxF m] else P).getD 0 []).drop go ++ (nx f (m - (((if P.length = 0 then [nxF m] else P).getD 0 []).length - go)) ((if P.length = 0 then [nxF m] else P).drop 1) 0).1, (nx f (m - (((if P.length = 0 then [nxF m] else P).getD 0 []).length - go)) ((if P.length = 0 then [nxF m] else P).drop 1) 0).2)
    else ((((if P.length = 0 then [nxF m] else P).getD 0 []).drop go).take m, (if P.length = 0 then [nxF m] else P), go + m)
theorem nx_zero (f : Nat) (P : List (List Nat)) (go : Nat) : nx f 0 P go = ([], P, go) := by
  cases f with
  | zero => rfl
  | succ f => show (if 0 = 0 then _ else _) = _; rw [if_pos rfl]
theorem nx_fill (f m go : Nat) (hm : 0 < m) : nx f m [] go = nx f m [nxF m] go ∨ f = 0 := by
  cases f with
  | zero => exact .inr rfl
  | succ f => refine .inl ?_; have hz : ¬ m = 0 := (by omega); rw [nx, nx]; simp [hz]
theorem nx_all (f m go : Nat) (x : List Nat) (P : List (List Nat)) (hm : 0 < m) (h : x.length - go ≤ m) : nx (f + 1) m (x :: P) go = (x.drop go ++ (nx f (m - (x.length - go)) P 0).1, (nx f (m - (x.length - go)) P 0).2) := by
  show (if m = 0 then _ else if x.length - go ≤ m then _ else _) = _
  rw [if_neg (by omega), if_pos h]
  rfl
theorem nx_part (f m go : Nat) (x : List Nat) (P : List (List Nat)) (hm : 0 < m) (h : ¬ x.length - go ≤ m) : nx (f + 1) m (x :: P) go = ((x.drop go).take m, x :: P, go + m) := by
  show (if m = 0 then _ else if x.length - go ≤ m then _ else _) = _
  rw [if_neg (by omega), if_neg h]
  rfl
theorem mayE_fill (n : Nat) (h1 : 1 ≤ n) (h2 : n ≤ 65536) : mayE 2047 3 0 n = 0 := by
  unfold mayE
  rw [if_pos ⟨⟨by decide, by decide⟩, ⟨by decide, by decide⟩, ⟨by decide, by decide⟩⟩, if_neg (by omega)]
theorem nxF_len (m : Nat) (h : m ≤ 60000) : (nxF m).length = max m 7 := by
  unfold nxF filL
  rw [if_pos (by omega)]
  unfold encP
  have e : (((max m 7 : Nat) : Int) - 6).toNat = max m 7 - 6 := by omega
  rw [if_pos (by rw [List.length_replicate, e]; exact mayE_fill _ (by omega) (by omega)), List.length_append, List.length_replicate, e, hdL_len]
  omega
theorem Rd.part2 {w : World} {b off n cap : Nat} {L : List Nat} (h : Rd w (some ⟨b, off, none⟩) n cap L) (m k : Nat) (hk : m + k ≤ n) : Rd w (some ⟨b, off + m, none⟩) k (cap - m) ((L.drop m).take k) := by
  have hl := h.len
  have h1 := h.le
  have h2 := h.max
  refine ⟨by simp; omega, by omega, by omega, (fun e => by cases e), fun x hx => h.byte x (List.mem_of_mem_drop (List.mem_of_mem_take hx)), fun h0 => ?_⟩
  obtain ⟨b', off', e, hb, hc⟩ := h.at' (by omega)
  cases e
  refine ⟨b, off + m, rfl, hb, fun i hi => ?_⟩
  have := hc (m + i) (by omega)
  rw [show off + m + i = off + (m + i) by omega, this]
  congr 3
  unfold nth
  rw [List.getD_eq_getElem?_getD, List.getD_eq_getElem?_getD, List.getElem?_take, if_pos hi, List.getElem?_drop]

/-- a queue at work, in its place in the row of queues -/
structure TD (wb wr : World) (lo gq n c j : Nat) (qs : List Qw) (q q' : Qw) : Prop where
  row : wr.ownsRow 0 83 3 (.slice (some ⟨gq, 0, none⟩) n c) n (flQ (qs.set j q'))
  oo : OwO wr lo q'.a q'.n q'.c q'.rs
  fz : Fz (fun x => x = gq) wb wr
  bl : ∀ x, Ofo q'.a q'.rs x → Ofo q.a q.rs x ∨ wb.heap.size ≤ x
theorem TD.cell {wb wr : World} {lo gq n c j : Nat} {qs : List Qw} {q q' : Qw} (h : TD wb wr lo gq n c j qs q q') (hj : j < qs.length) : wr.cell? ⟨gq, j * 3, none⟩ = some (.int .i64 q'.ow) ∧ wr.cell? ⟨gq, j * 3 + 1, none⟩ = some (.slice q'.a q'.n q'.c) ∧ wr.cell? ⟨gq, j * 3 + 2, none⟩ = some (.int .i64 q'.go) := by
  have e : (qs.set j q')[j]? = some q' := List.getElem?_set_self hj
  have hc : ∀ k, k < 3 → ∀ u, q'.cells[k]? = some u → wr.cell? ⟨gq, j * 3 + k, none⟩ = some u := fun k hk u hu => by
    have hf := flQ_at (qs.set j q') j q' e k hk
    rw [hu] at hf
    have := h.row.cells (g := gq) rfl (j * 3 + k) u hf
    rw [addr_add', Nat.zero_add] at this
    exact this
  exact ⟨hc 0 (by decide) _ rfl, hc 1 (by decide) _ rfl, hc 2 (by decide) _ rfl⟩
theorem TD.keep {wb wr w' : World} {lo gq n c j : Nat} {qs : List Qw} {q q' : Qw} (h : TD wb wr lo gq n c j qs q q') (hg : wr.grownBy w' none) : TD wb w' lo gq n c j qs q q' :=
  ⟨h.row.kept hg (.inr (by simp [Value.ownBlock])), h.oo.keep hg, h.fz.step hg (fun x e _ => by cases e), h.bl⟩
/-- bytes of the call's own are written -/
theorem TD.bytes {wb wr w' : World} {lo lo' gq n c j m co : Nat} {qs : List Qw} {q q' : Qw} {ao : Option Addr} {D : List Nat} (h : TD wb wr lo gq n c j qs q q') (hA : Ans wr lo' ao m co D) (hlo : wb.heap.size ≤ lo') (hne : ∀ x, Ofo q'.a q'.rs x → (Value.slice ao m co).ownBlock ≠ some x) (hg : wr.grownBy w' (Value.slice ao m co).ownBlock) : TD wb w' lo gq n c j qs q q' := by
  refine ⟨h.row.kept hg ?_, h.oo.fz (Fz.ofO hg) (fun x hx e => hne x hx e), h.fz.step hg (fun x e hl => ?_), h.bl⟩
  · refine .inr (fun e => ?_)
    rcases h.row.2 with ⟨h1, _⟩ | ⟨y, cap', cur, h1, _, hh, _⟩
    · simp at h1
    · simp only [Value.slice.injEq, Option.some.injEq, Addr.mk.injEq] at h1
      obtain ⟨⟨rfl, _⟩, _, rfl⟩ := h1
      exact hA.apart hh (by decide) e.symm
  · have := hA.new x e
    omega
/-- a cell of the queue is written -/
theorem TD.set {wb wr : World} {lo gq n c j : Nat} {qs : List Qw} {q q' : Qw} (h : TD wb wr lo gq n c j qs q q') (hj : j < qs.length) (k : Nat) (hk : k < 3) (v : Value) (q2 : Qw) (hc : q2.cells = q'.cells.set k v) (ho : OwO wr lo q2.a q2.n q2.c q2.rs) (hb : ∀ x, Ofo q2.a q2.rs x → Ofo q.a q.rs x ∨ wb.heap.size ≤ x) : TD wb (wr.setCell ⟨gq, j * 3 + k, none⟩ v) lo gq n c j qs q q2 := by
  have e : (qs.set j q')[j]? = some q' := List.getElem?_set_self hj
  have u := grown_set wr gq (j * 3 + k) v
  have hs := (h.row.stored (j * 3 + k) v).1
  rw [flQ_set (qs.set j q') j q' q2 e k hk v hc, List.set_set] at hs
  refine ⟨hs, ho.fz (Fz.of1 u) (fun x hx e => ?_), h.fz.step u (fun x e _ => (Option.some.inj e).symm), hb⟩
  have e : x = gq := e
  rcases h.row.2 with ⟨h1, _⟩ | ⟨y, cap', cur, h1, _, hh, _⟩
  · simp at h1
  · simp only [Value.slice.injEq, Option.some.injEq, Addr.mk.injEq] at h1
    obtain ⟨⟨rfl, _⟩, _, rfl⟩ := h1
    exact ho.box hh (by decide) (by decide) hx e
theorem TD.rowbx {wb wr : World} {lo gq n c j : Nat} {qs : List Qw} {q q' : Qw} (h : TD wb wr lo gq n c j qs q q') : ∃ cs, BxS wr gq 83 cs := by
  rcases h.row.2 with ⟨h1, _⟩ | ⟨y, cap', cur, h1, _, hh, _⟩
  · simp at h1
  · simp only [Value.slice.injEq, Option.some.injEq, Addr.mk.injEq] at h1
    obtain ⟨⟨rfl, _⟩, _, rfl⟩ := h1
    exact ⟨_, hh⟩
theorem TD.free {wb wr : World} {lo gq n c j : Nat} {qs : List Qw} {q q' : Qw} (h : TD wb wr lo gq n c j qs q q') (i : Nat) : wr.frozen? ⟨gq, i, none⟩ = false := h.row.frozenAt i
/-- the first row is gone -/
theorem OwO.tail {w : World} {lo g o n c : Nat} {r : Rw} {rs : List Rw} (h : OwO w lo (some ⟨g, o, none⟩) n c (r :: rs)) : OwO w lo (if c = 1 then some ⟨g, o, none⟩ else some ⟨g, o + 1, none⟩) (n - 1) (c - 1) rs := by
  have hl := h.ro.len
  have hn : 1 ≤ n := by rw [← hl]; exact Nat.succ_le_succ (Nat.zero_le _)
  refine ⟨?_, (List.pairwise_cons.1 h.apart).2⟩
  by_cases hc : c = 1
  · rw [if_pos hc]
    have := h.ro.tail0 1 hn hc
    rw [hc]
    exact this
  · rw [if_neg hc]
    exact h.ro.tail 1 hn
theorem ofo_tail {g o c : Nat} {r : Rw} {rs : List Rw} {x : Nat} (h : Ofo (if c = 1 then some ⟨g, o, none⟩ else some ⟨g, o + 1, none⟩) rs x) : Ofo (some ⟨g, o, none⟩) (r :: rs) x := by
  rcases h with ⟨o', s', e⟩ | ⟨s, hs, e⟩
  · refine .inl ⟨o, none, ?_⟩
    split at e
    · cases e; rfl
    · cases e; rfl
  · exact .inr ⟨s, List.mem_cons_of_mem _ hs, e⟩
/-- between two pieces: what was taken, what is left -/
structure TK (room : Nat) (TB : List Nat) (TP : List (List Nat)) (TG : Nat) (D : List Nat) (P : List (List Nat)) (g : Nat) : Prop where
  len : D.length ≤ room
  ex : ∃ f, room - D.length ≤ f ∧ D ++ (nx f (room - D.length) P g).1 = TB ∧ (nx f (room - D.length) P g).2 = (TP, TG)
  ne : ∀ x, x ∈ P → 1 ≤ x.length ∧ x.length ≤ 100000
  go : ∀ x, P[0]? = some x → g < x.length
  go0 : P = [] → g = 0
theorem TK.fill {room : Nat} {TB : List Nat} {TP : List (List Nat)} {TG : Nat} {D : List Nat} {g : Nat} (h : TK room TB TP TG D [] g) (hm : D.length < room) (hr : room ≤ 60000) : g = 0 ∧ TK room TB TP TG D [nxF (room - D.length)] 0 := by
  have h0 := h.go0 rfl
  subst h0
  obtain ⟨f, hf, h1, h2⟩ := h.ex
  have hl := nxF_len (room - D.length) (by omega)
  refine ⟨rfl, h.len, ⟨f, hf, ?_⟩, fun x hx => ?_, fun x hx => ?_, fun e => by cases e⟩
  · rcases nx_fill f (room - D.length) 0 (by omega) with e | e
    · rw [← e]; exact ⟨h1, h2⟩
    · omega
  · rw [List.mem_singleton.1 hx]; omega
  · have hx : some (nxF (room - D.length)) = some x := hx
    rw [← Option.some.inj hx]; omega
theorem TK.all {room : Nat} {TB : List Nat} {TP : List (List Nat)} {TG : Nat} {D x : List Nat} {P : List (List Nat)} {g : Nat} (h : TK room TB TP TG D (x :: P) g) (hm : D.length < room) (hx : x.length - g ≤ room - D.length) : TK room TB TP TG (D ++ x.drop g) P 0 := by
  obtain ⟨f, hf, h1, h2⟩ := h.ex
  have hg := h.go x rfl
  obtain ⟨f, rfl⟩ : ∃ f', f = f' + 1 := ⟨f - 1, by omega⟩
  rw [nx_all f _ g x P (by omega) hx] at h1 h2
  have hl : (D ++ x.drop g).length = D.length + (x.length - g) := by rw [List.length_append, List.length_drop]
  have e : room - (D ++ x.drop g).length = room - D.length - (x.length - g) := by omega
  refine ⟨by omega, ⟨f, by omega, ?_, ?_⟩, fun y hy => h.ne y (List.mem_cons_of_mem _ hy), fun y hy => ?_, fun _ => rfl⟩
  · rw [e, List.append_assoc]; exact h1
  · rw [e]; exact h2
  · have := (h.ne y (List.mem_cons_of_mem _ (List.mem_of_getElem? hy))).1; omega
theorem TK.part {room : Nat} {TB : List Nat} {TP : List (List Nat)} {TG : Nat} {D x : List Nat} {P : List (List Nat)} {g : Nat} (h : TK room TB TP TG D (x :: P) g) (hm : D.length < room) (hx : ¬ x.length - g ≤ room - D.length) : TK room TB TP TG (D ++ (x.drop g).take (room - D.length)) (x :: P) (g + (room - D.length)) := by
  obtain ⟨f, hf, h1, h2⟩ := h.ex
  obtain ⟨f, rfl⟩ : ∃ f', f = f' + 1 := ⟨f - 1, by omega⟩
  rw [nx_part f _ g x P (by omega) hx] at h1 h2
  have hl : (D ++ (x.drop g).take (room - D.length)).length = room := by rw [List.length_append, List.length_take, List.length_drop]; omega
  refine ⟨by omega, ⟨0, by omega, ?_, ?_⟩, h.ne, fun y hy => ?_, fun e => by cases e⟩
  · rw [hl, Nat.sub_self, nx_zero, List.append_nil]; exact h1
  · rw [hl, Nat.sub_self, nx_zero]; exact h2
  · have hy : some x = some y := hy
    rw [← Option.some.inj hy]; omega
theorem TK.done {room : Nat} {TB : List Nat} {TP : List (List Nat)} {TG : Nat} {D : List Nat} {P : List (List Nat)} {g : Nat} (h : TK room TB TP TG D P g) (hm : ¬ D.length < room) : D = TB ∧ P = TP ∧ g = TG ∧ D.length = room := by
  obtain ⟨f, hf, h1, h2⟩ := h.ex
  have hl := h.len
  rw [show room - D.length = 0 by omega, nx_zero] at h1 h2
  rw [List.append_nil] at h1
  have h2 : (P, g) = (TP, TG) := h2
  exact ⟨h1, (Prod.mk.inj h2).1, (Prod.mk.inj h2).2, by omega⟩

/-- 'append(v, x...)', v the call's own, x not empty, in a region that draws -/
theorem step_joinY {w : World} {ops : Array Oper} {o : Oper} {a : Act} {K : Act → World → Prop} {Q : Exit → Act → World → Prop} {E : Prop} (hg : o.guard = none) (s x : Operand)
    (hop : o.op = Op.call { callee := .builtin .append, args := #[s, x], argTypes := #[22, 22] }) (ao : Option Addr) (m co lo : Nat) (D : List Nat) (hs : a.eval s = .slice ao m co)
    (hA : Ans w lo ao m co D) (hlo : lo ≤ w.heap.size) (ax : Option Addr) (nx cx : Nat) (X : List Nat) (hx : a.eval x = .slice ax nx cx) (hR : Rd w ax nx cx X) (h0 : 0 < nx) (hb : m + nx ≤ 140737488355328)
    (hK : ∀ gx c' w', Ans w' lo (some ⟨gx, 0, none⟩) (m + nx) c' (D ++ X) → w.grownBy w' (Value.slice ao m co).ownBlock → ((Value.slice ao m co).ownBlock = some gx ∨ w.heap.size ≤ gx) → K (a.put o.dst (.slice (some ⟨gx, 0, none⟩) (m + nx) c')) w') :
    if Region.wanted o (yielded ops a.tmps) = true then Oper.wp Try.prog o a w K Q else E := by
  obtain ⟨b, off, rfl, _, _⟩ := hR.at' h0
  refine step_apB _ hg s x hop (.slice ao m co) m (bys D) hs hA.own ⟨b, off, none⟩ nx cx (bys X) hx (by rw [bys_length, hR.len]) (rd_news hR h0) (bys_one _) h0 hb ?_
  intro gx cx' w2 hgx hgr2 hown2 _
  rw [bys_app] at hown2
  refine hK gx cx' w2 ⟨hown2, isB_append hA.byte hR.byte, fun g h => ?_⟩ hgr2 hgx
  have e : gx = g := Option.some.inj h
  subst e
  rcases hgx with h | h
  · exact hA.new gx h
  · omega
theorem TD.ansK {wb w w' : World} {lo gq n c j : Nat} {qs : List Qw} {q q' : Qw} (hT : TD wb w lo gq n c j qs q q') {lo' m co : Nat} {ao : Option Addr} {D : List Nat} (hA : Ans w lo' ao m co D) (u : w.grownBy w' (some gq)) : Ans w' lo' ao m co D := hA.fz (Fz.of1 u) (fun x e e2 => by
  have e2 : x = gq := e2
  subst e2
  obtain ⟨cs, hcs⟩ := hT.rowbx
  exact hA.apart hcs (by decide) e)
/-- a row of one row, just built -/
theorem OwO.one {w : World} {lo : Nat} {r : Rw} (hr : Ans w lo r.a r.n r.c r.D) (hlo : lo ≤ w.heap.size) : OwO (w.alloc (.cells #[r.v] 22)) lo (some ⟨w.heap.size, 0, none⟩) 1 1 [r] := by
  have b := BxS.new w 22 #[r.v]
  have gA := World.grownBy_alloc w (.cells #[r.v] 22) none
  refine ⟨⟨rfl, ⟨Nat.le_refl _, by decide⟩, .inr ⟨w.heap.size, 0, #[r.v], rfl, hlo, b, by show 0 + 1 ≤ 1; decide, fun j u hu => ?_⟩, fun q hq => by rw [List.mem_singleton.1 hq]; exact hr.keep gA⟩, List.pairwise_singleton _ _⟩
  rw [Nat.zero_add]
  simpa [flatR] using hu
/-- a cell of a queue in its row is stored -/
theorem wpList_stT (w : World) {ops : Array Oper} {rest : List Oper} {o : Oper} {a : Act} {Q : Exit → Act → World → Prop} (hg : o.guard = none) (t : TypeId) (p x : Operand) (hop : o.op = Op.store t p x) {wb : World} {lo gq n c j : Nat} {qs : List Qw} {q q' : Qw} (hT : TD wb w lo gq n c j qs q q') (hj : j < qs.length) (k : Nat) (hk : k < 3) (v : Value) (q2 : Qw)
    (hp : a.eval p = .pointer (some ⟨gq, j * 3 + k, none⟩)) (hx : a.eval x = v) (hst : ∀ w' : World, (∃ u, w'.cell? ⟨gq, j * 3 + k, none⟩ = some u) → w'.frozen? ⟨gq, j * 3 + k, none⟩ = false → (Instr.storeAt t (.pointer (some ⟨gq, j * 3 + k, none⟩)) v).run Try.prog w' = .ok () (w'.setCell ⟨gq, j * 3 + k, none⟩ v))
    (hc : q2.cells = q'.cells.set k v) (ho : OwO w lo q2.a q2.n q2.c q2.rs) (hb : ∀ x, Ofo q2.a q2.rs x → Ofo q.a q.rs x ∨ wb.heap.size ≤ x)
    (hK : ∀ w', TD wb w' lo gq n c j qs q q2 → w.grownBy w' (some gq) → wpList Try.prog ops Q rest (a.put o.dst undef) w') :
    wpList Try.prog ops Q (o :: rest) a w := by
  refine wpList_plain hg fun K hK' => ?_
  have e : (qs.set j q')[j]? = some q' := List.getElem?_set_self hj
  have hcell : ∃ u, w.cell? ⟨gq, j * 3 + k, none⟩ = some u := by
    obtain ⟨u, hu⟩ : ∃ u, q'.cells[k]? = some u := ⟨_, List.getElem?_eq_getElem (by show k < 3; exact hk)⟩
    have hf := flQ_at (qs.set j q') j q' e k hk
    rw [hu] at hf
    have := hT.row.cells (g := gq) rfl (j * 3 + k) u hf
    rw [addr_add', Nat.zero_add] at this
    exact ⟨u, this⟩
  have hrun := hst w hcell (hT.free _)
  have hfin := hK _ (hT.set hj k hk v q2 hc ho hb) (grown_set w gq (j * 3 + k) v)
  unfold Oper.wp
  simp [execOp, hop, hp, hx, hrun, Result.andThen]
  exact hK' _ _ hfin

set_option maxHeartbeats 32000000 in
theorem td_t9 {u2 u3 u4 u6 u7 u8 u11 u12 u13 u14 u15 u16 u17 u18 u19 u20 u21 u22 u23 u24 u25 u26 u27 u28 u29 u30 u31 u32 u33 u34 u35 u36 u37 u38 u39 u40 u41 u42 u43 u44 u45 u46 u47 u48 u49 u50 u51 u52 u53 u54 u55 u56 u57 u58 u59 u60 u61 u62 u63 u64 u65 u66 u67 u68 u69 u70 u71 u72 u73 u74 u75 u76 u77 u78 u79 u80 u81 u82 u83 u84 u85 u86 u87 u88 u89 u90 u91 u92 u93 : Value} (Q : Exit → Act → World → Prop) (wb w : World) (lo gq n c j room t gp op n' c' br : Nat) (qs : List Qw) (q : Qw) (r : Rw) (rs : List Rw) (ao : Option Addr) (co : Nat) (D : List Nat) (g : Nat) (TB : List Nat) (TP : List (List Nat)) (TG : Nat) (hj : j < qs.length) (hT : TD wb w lo gq n c j qs q ⟨q.ow, some ⟨gp, op, none⟩, n', c', (g : Int), r :: rs⟩) (hA : Ans w wb.heap.size ao D.length co D) (hroom : room ≤ 60000) (hDl : D.length < room) (hK : TK room TB TP TG D ((r :: rs).map Rw.D) g) (hap : ∀ x, Ofo (some ⟨gp, op, none⟩) (r :: rs) x → (Value.slice ao D.length co).ownBlock ≠ some x) (hra : r.a = some ⟨br, 0, none⟩) (hg : g < r.n) (hrn : r.n ≤ 100000) (ht : t = min (room - D.length) (r.n - g)) (hP : ∀ c a a' wz, a.defers = a'.defers → Q (.panic c) a wz → Q (.panic c) a' wz) (hQ : ∀ (z53 z54 z55 z56 z57 z58 z59 z60 z61 z62 z63 z64 z65 z66 z67 z68 z69 z70 z71 z72 z73 z74 z75 z76 z77 z78 z79 z80 z81 z82 z83 z84 z85 z86 z87 z88 z89 z90 z91 z92 : Value) (w' : World) (ao' : Option Addr) (co' : Nat) (D' : List Nat) (q2 : Qw) (g2 : Nat), D.length < D'.length → TD wb w' lo gq n c j qs q q2 → q2.go = (g2 : Int) → q2.ow = q.ow → Ans w' wb.heap.size ao' D'.length co' D' → TK room TB TP TG D' (q2.rs.map Rw.D) g2 → (∀ x, Ofo q2.a q2.rs x → (Value.slice ao' D'.length co').ownBlock ≠ some x) → Q .normal (Act.mk (List.toArray ((.pointer (some ⟨gq, j * 3, none⟩)) :: (.int .i64 (room : Int)) :: u2 :: u3 :: u4 :: (.slice ao' D'.length co') :: u6 :: u7 :: u8 :: (.slice (some ⟨br, 0, none⟩) r.n r.c) :: (.int .i64 (t : Int)) :: u11 :: u12 :: u13 :: u14 :: u15 :: u16 :: u17 :: u18 :: u19 :: u20 :: u21 :: u22 :: u23 :: u24 :: u25 :: u26 :: u27 :: u28 :: u29 :: u30 :: u31 :: u32 :: u33 :: u34 :: u35 :: u36 :: u37 :: u38 :: u39 :: u40 :: u41 :: u42 :: u43 :: u44 :: u45 :: u46 :: u47 :: u48 :: u49 :: u50 :: u51 :: u52 :: z53 :: z54 :: z55 :: z56 :: z57 :: z58 :: z59 :: z60 :: z61 :: z62 :: z63 :: z64 :: z65 :: z66 :: z67 :: z68 :: z69 :: z70 :: z71 :: z72 :: z73 :: z74 :: z75 :: z76 :: z77 :: z78 :: z79 :: z80 :: z81 :: z82 :: z83 :: z84 :: z85 :: z86 :: z87 :: z88 :: z89 :: z90 :: z91 :: z92 :: u93 :: [])) []) w') :
    Code.wp Try.prog (tailR 9 (Try.f79.body.getD .skip)) Q (Act.mk (List.toArray ((.pointer (some ⟨gq, j * 3, none⟩)) :: (.int .i64 (room : Int)) :: u2 :: u3 :: u4 :: (.slice ao D.length co) :: u6 :: u7 :: u8 :: (.slice (some ⟨br, 0, none⟩) r.n r.c) :: (.int .i64 (t : Int)) :: u11 :: u12 :: u13 :: u14 :: u15 :: u16 :: u17 :: u18 :: u19 :: u20 :: u21 :: u22 :: u23 :: u24 :: u25 :: u26 :: u27 :: u28 :: u29 :: u30 :: u31 :: u32 :: u33 :: u34 :: u35 :: u36 :: u37 :: u38 :: u39 :: u40 :: u41 :: u42 :: u43 :: u44 :: u45 :: u46 :: u47 :: u48 :: u49 :: u50 :: u51 :: u52 :: u53 :: u54 :: u55 :: u56 :: u57 :: u58 :: u59 :: u60 :: u61 :: u62 :: u63 :: u64 :: u65 :: u66 :: u67 :: u68 :: u69 :: u70 :: u71 :: u72 :: u73 :: u74 :: u75 :: u76 :: u77 :: u78 :: u79 :: u80 :: u81 :: u82 :: u83 :: u84 :: u85 :: u86 :: u87 :: u88 :: u89 :: u90 :: u91 :: u92 :: u93 :: [])) []) w := by
  let pq : Exit → Act → World → Prop := bodyPost Try.prog Try.f79 (fun _ _ => True)
  conv => enter [2]; whnf
  have HQ : Hid _ := hQ
  clear hQ
  have hoo := hT.oo
  have hAr := hoo.ro.each r (List.mem_cons_self ..)
  have hrl := hAr.len
  have hln : (r :: rs).length = n' := hoo.ro.len
  have hn1 : 1 ≤ n' := by rw [← hln]; exact Nat.succ_le_succ (Nat.zero_le _)
  have hnc : n' ≤ c' := hoo.ro.max.1
  have hrle := hAr.max.1
  obtain ⟨c0, c1, c2⟩ := hT.cell hj
  have ht1 : 1 ≤ t ∧ g + t ≤ r.n := by omega
  have HT : Hid (t = min (room - D.length) (r.n - g)) := ht
  clear ht
  have hwg : IntKind.i64.wrap ((g : Int) + (t : Int)) = (g : Int) + (t : Int) := wrap_i64_in _ (by omega) (by omega)
  have m1 : ¬ (g : Int) + (t : Int) < (g : Int) := by omega
  have m2 : (g : Int) ≤ (g : Int) + (t : Int) := by omega
  have m3 : (g : Int) + (t : Int) ≤ (r.c : Int) := by omega
  have m4 : ¬ r.c = g := by omega
  have m5 : ¬ (g : Int) + (t : Int) < 0 := by omega
  have m6 : ((g : Int) + (t : Int)).toNat - g = t := by omega
  refine wp_seq_k fun K1 hK1 => ?_
  have HK1 : Hid _ := hK1
  clear hK1
  have SD := grown_drew w none
  have SX : (w.drew).cell? ⟨gq, j * 3 + 2, none⟩ = some (.int .i64 (g : Int)) := c2
  refine wp_regionL (fun wz => wz.cell? ⟨gq, j * 3 + 2, none⟩ = some (.int .i64 (g : Int))) [] #[false, false, false, false, false, false, false, false, false, false, false, false, false, false, false] rfl (by kernel_rfl) ?_
  refine wpAnyZ_take [] 0 (.slice ao D.length co) rfl (by kernel_rfl) (fun c a w h => hP c _ _ w (by rfl) h) SX rfl (by intro wz hz; go_simp) ?_
  try simp only [List.getElem_toArray, List.getElem_cons_succ, List.getElem_cons_zero, Act.put, List.setIfInBounds_toArray, List.set_cons_zero, List.set_cons_succ]
  refine wpAnyZ_take [] 1 (.slice (some ⟨br, 0, none⟩) r.n r.c) rfl (by kernel_rfl) (fun c a w h => hP c _ _ w (by rfl) h) SX rfl (by intro wz hz; go_simp) ?_
  try simp only [List.getElem_toArray, List.getElem_cons_succ, List.getElem_cons_zero, Act.put, List.setIfInBounds_toArray, List.set_cons_zero, List.set_cons_succ]
  refine wpAnyZ_take [] 2 (.pointer (some ⟨gq, j * 3, none⟩)) rfl (by kernel_rfl) (fun c a w h => hP c _ _ w (by rfl) h) SX rfl (by intro wz hz; go_simp) ?_
  try simp only [List.getElem_toArray, List.getElem_cons_succ, List.getElem_cons_zero, Act.put, List.setIfInBounds_toArray, List.set_cons_zero, List.set_cons_succ]
  refine wpAnyZ_take [] 3 (.pointer (some ⟨gq, j * 3, none⟩)) rfl (by kernel_rfl) (fun c a w h => hP c _ _ w (by rfl) h) SX rfl (by intro wz hz; go_simp) ?_
  try simp only [List.getElem_toArray, List.getElem_cons_succ, List.getElem_cons_zero, Act.put, List.setIfInBounds_toArray, List.set_cons_zero, List.set_cons_succ]
  refine wpAnyZ_take [] 4 (.pointer (some ⟨gq, j * 3 + 2, none⟩)) rfl (by kernel_rfl) (fun c a w h => hP c _ _ w (by rfl) h) SX rfl (by intro wz hz; go_simp) ?_
  try simp only [List.getElem_toArray, List.getElem_cons_succ, List.getElem_cons_zero, Act.put, List.setIfInBounds_toArray, List.set_cons_zero, List.set_cons_succ]
  refine wpAnyZ_take [] 5 (.int .i64 (g : Int)) rfl (by kernel_rfl) (fun c a w h => hP c _ _ w (by rfl) h) SX rfl (by intro wz hz; go_simp) ?_
  try simp only [List.getElem_toArray, List.getElem_cons_succ, List.getElem_cons_zero, Act.put, List.setIfInBounds_toArray, List.set_cons_zero, List.set_cons_succ]
  refine wpAnyZ_take [] 6 (.pointer (some ⟨gq, j * 3, none⟩)) rfl (by kernel_rfl) (fun c a w h => hP c _ _ w (by rfl) h) SX rfl (by intro wz hz; go_simp) ?_
  try simp only [List.getElem_toArray, List.getElem_cons_succ, List.getElem_cons_zero, Act.put, List.setIfInBounds_toArray, List.set_cons_zero, List.set_cons_succ]
  refine wpAnyZ_take [] 7 (.pointer (some ⟨gq, j * 3, none⟩)) rfl (by kernel_rfl) (fun c a w h => hP c _ _ w (by rfl) h) SX rfl (by intro wz hz; go_simp) ?_
  try simp only [List.getElem_toArray, List.getElem_cons_succ, List.getElem_cons_zero, Act.put, List.setIfInBounds_toArray, List.set_cons_zero, List.set_cons_succ]
  refine wpAnyZ_take [] 8 (.pointer (some ⟨gq, j * 3 + 2, none⟩)) rfl (by kernel_rfl) (fun c a w h => hP c _ _ w (by rfl) h) SX rfl (by intro wz hz; go_simp) ?_
  try simp only [List.getElem_toArray, List.getElem_cons_succ, List.getElem_cons_zero, Act.put, List.setIfInBounds_toArray, List.set_cons_zero, List.set_cons_succ]
  refine wpAnyZ_take [] 9 (.int .i64 (g : Int)) rfl (by kernel_rfl) (fun c a w h => hP c _ _ w (by rfl) h) SX rfl (by intro wz hz; go_simp) ?_
  try simp only [List.getElem_toArray, List.getElem_cons_succ, List.getElem_cons_zero, Act.put, List.setIfInBounds_toArray, List.set_cons_zero, List.set_cons_succ]
  refine wpAnyZ_take [] 10 (.int .i64 (t : Int)) rfl (by kernel_rfl) (fun c a w h => hP c _ _ w (by rfl) h) SX rfl (by intro wz hz; go_simp) ?_
  try simp only [List.getElem_toArray, List.getElem_cons_succ, List.getElem_cons_zero, Act.put, List.setIfInBounds_toArray, List.set_cons_zero, List.set_cons_succ]
  refine wpAnyZ_take [] 11 (.int .i64 ((g : Int) + (t : Int))) rfl (by kernel_rfl) (fun c a w h => hP c _ _ w (by rfl) h) SX rfl (by intro wz hz; go_simp) ?_
  try simp only [List.getElem_toArray, List.getElem_cons_succ, List.getElem_cons_zero, Act.put, List.setIfInBounds_toArray, List.set_cons_zero, List.set_cons_succ]
  refine wpAnyZ_take [] 12 (.slice (some ⟨br, g, none⟩) t (r.c - g)) rfl (by kernel_rfl) (fun c a w h => hP c _ _ w (by rfl) h) SX rfl (by intro wz hz; go_simp) ?_
  try simp only [List.getElem_toArray, List.getElem_cons_succ, List.getElem_cons_zero, Act.put, List.setIfInBounds_toArray, List.set_cons_zero, List.set_cons_succ]
  have hT4 := hT.keep SD
  have hA4 := hA.keep SD
  have z4 := SD.size
  clear c0 c1 c2
  generalize w.drew = w4 at *
  have hAr4 := hT4.oo.ro.each r (List.mem_cons_self ..)
  have hrd4 := hAr4.rd
  rw [hra] at hrd4
  have hpart := hrd4.part2 g t (by omega)
  rw [Nat.zero_add] at hpart
  have hwb := hT4.fz.size
  refine wpAnyZ_oneB 13 rfl (by kernel_rfl) (fun K hK' => ?_)
  refine step_joinY rfl _ _ rfl ao D.length co wb.heap.size D rfl hA4 hwb (some ⟨br, g, none⟩) t (r.c - g) _ rfl hpart (by omega) (by have := hK.len; omega) ?_
  intro gx c5 w5 hA5 u5 hgx
  have hT5 := hT4.bytes hA4 (Nat.le_refl _) hap u5
  obtain ⟨c0, c1, c2⟩ := hT5.cell hj
  have SX5 : w5.cell? ⟨gq, j * 3 + 2, none⟩ = some (.int .i64 (g : Int)) := c2
  refine hK' _ _ (fun _ => SX5) ?_
  try simp only [List.getElem_toArray, List.getElem_cons_succ, List.getElem_cons_zero, Act.put, List.setIfInBounds_toArray, List.set_cons_zero, List.set_cons_succ]
  refine wpAnyZ_take [] 14 (.slice (some ⟨gx, 0, none⟩) (D.length + t) c5) rfl (by kernel_rfl) (fun c a w h => hP c _ _ w (by rfl) h) SX5 rfl (by intro wz hz; go_simp) ?_
  try simp only [List.getElem_toArray, List.getElem_cons_succ, List.getElem_cons_zero, Act.put, List.setIfInBounds_toArray, List.set_cons_zero, List.set_cons_succ]
  refine wpAnyZ_doneB (by kernel_rfl) ?_ _
  have hll : (D ++ (r.D.drop g).take t).length = D.length + t := by rw [List.length_append, List.length_take, List.length_drop]; omega
  rw [← hll] at hA5 ⊢
  obtain ⟨D', hD'⟩ : ∃ D', D ++ (r.D.drop g).take t = D' := ⟨_, rfl⟩
  rw [hD'] at hA5 hll ⊢
  have HD : Hid (D ++ (r.D.drop g).take t = D') := hD'
  have HLL : Hid (D'.length = D.length + t) := hll
  clear hD' hll
  have hap5 : ∀ x, Ofo (some ⟨gp, op, none⟩) (r :: rs) x → (Value.slice (some ⟨gx, 0, none⟩) D'.length c5).ownBlock ≠ some x := fun x hx e => by
    have e : gx = x := Option.some.inj e
    rcases hgx with h1 | h1
    · exact hap x hx (by rw [← e]; exact h1)
    · have := (hT4.oo.lh hx).1; omega
  refine HK1.out _ _ ?_
  clear HK1
  refine wp_seq_k fun K2 hK2 => ?_
  have HK2 : Hid _ := hK2
  clear hK2
  have s0 : True := trivial
  have hbl := hT5.bl
  go_wp2_with (have _t := s0; clear s0; refine wpList_stT _ rfl _ _ _ rfl hT5 hj 2 (by decide) (.int .i64 ((g : Int) + (t : Int))) ⟨q.ow, some ⟨gp, op, none⟩, n', c', (g : Int) + (t : Int), r :: rs⟩ rfl rfl (stc_int _ _ _) rfl hT5.oo hbl ?_; intro w6 hT6 u6)
  have hA6 : Ans w6 wb.heap.size (some ⟨gx, 0, none⟩) D'.length c5 D' := hA5.fz (Fz.of1 u6) (fun x e e2 => by
    have e2 : x = gq := e2
    subst e2
    obtain ⟨cs, hcs⟩ := hT5.rowbx
    exact hA5.apart hcs (by decide) e)
  clear c0 c1 c2 SX5
  obtain ⟨c0, c1, c2⟩ := hT6.cell hj
  have c2 : w6.cell? ⟨gq, j * 3 + 2, none⟩ = some (.int .i64 ((g : Int) + (t : Int))) := c2
  have c1 : w6.cell? ⟨gq, j * 3 + 1, none⟩ = some (.slice (some ⟨gp, op, none⟩) n' c') := c1
  refine HK2.out _ _ ?_
  clear HK2
  by_cases hx : g + t = r.n
  · have hx' : ((g : Int) + (t : Int) == (r.n : Int)) = true := by simp; omega
    have HX : Hid (g + t = r.n) := hx
    clear hx
    have k1 : ¬ (n' : Int) < 1 := by omega
    have k2 : (1 : Int) ≤ (n' : Int) := by omega
    have hbl6 := hT6.bl
    have hot := hT6.oo.tail
    have s0 : True := trivial
    go_wp2_with (first
      | (have _t := s0; clear s0; refine wpList_stT _ rfl _ _ _ rfl hT6 hj 1 (by decide) (.slice (if c' = 1 then some ⟨gp, op, none⟩ else some ⟨gp, op + 1, none⟩) (n' - 1) (c' - 1)) ⟨q.ow, (if c' = 1 then some ⟨gp, op, none⟩ else some ⟨gp, op + 1, none⟩), n' - 1, c' - 1, (g : Int) + (t : Int), rs⟩ rfl rfl (stc_rows _ _ _ _ _) rfl hot (fun x hx => hbl6 x (ofo_tail hx)) ?_; intro w7 hT7 u7; have s1 : True := trivial)
      | (have _t := s1; clear s1; refine wpList_stT _ rfl _ _ _ rfl hT7 hj 2 (by decide) (.int .i64 0) ⟨q.ow, (if c' = 1 then some ⟨gp, op, none⟩ else some ⟨gp, op + 1, none⟩), n' - 1, c' - 1, 0, rs⟩ rfl rfl (stc_int _ _ _) rfl hT7.oo (fun x hx => hbl6 x (ofo_tail hx)) ?_; intro w8 hT8 u8))
    all_goals (
      have hA8 := hT7.ansK (hT6.ansK hA6 u7) u8
      have htt := HT.out
      have hxx := HX.out
      have e : D ++ r.D.drop g = D' := by rw [← HD.out, List.take_of_length_le (by rw [List.length_drop]; omega)]
      have hTK := hK.all hDl (show r.D.length - g ≤ room - D.length by omega)
      rw [e] at hTK
      exact HQ.out _ _ _ _ _ _ _ _ _ _ _ _ _ _ _ _ _ _ _ _ _ _ _ _ _ _ _ _ _ _ _ _ _ _ _ _ _ _ _ _ w8 _ c5 D' _ 0 (by have := HLL.out; omega) hT8 rfl rfl hA8 hTK (fun x hx => hap5 x (ofo_tail hx)))
  · have hx' : ((g : Int) + (t : Int) == (r.n : Int)) = false := by simp; omega
    have HX : Hid (¬ g + t = r.n) := hx
    clear hx
    go_wp2
    have htt := HT.out
    have hxx := HX.out
    have et : t = room - D.length := by omega
    have hTK := hK.part hDl (show ¬ r.D.length - g ≤ room - D.length by omega)
    have e : D ++ (r.D.drop g).take (room - D.length) = D' := by rw [← HD.out, et]
    rw [e, ← et] at hTK
    exact HQ.out _ _ _ _ _ _ _ _ _ _ _ _ _ _ _ _ _ _ _ _ _ _ _ _ _ _ _ _ _ _ _ _ _ _ _ _ _ _ _ _ w6 _ c5 D' _ (g + t) (by have := HLL.out; omega) hT6 (by show (g : Int) + (t : Int) = ((g + t : Nat) : Int); omega) rfl hA6 hTK hap5

set_option maxHeartbeats 32000000 in
theorem td_t7 {u2 u3 u4 u7 u8 u9 u10 u11 u12 u13 u14 u15 u16 u17 u18 u19 u20 u21 u22 u23 u24 u25 u26 u27 u28 u29 u30 u31 u32 u33 u34 u35 u36 u37 u38 u39 u40 u41 u42 u43 u44 u45 u46 u47 u48 u49 u50 u51 u52 u53 u54 u55 u56 u57 u58 u59 u60 u61 u62 u63 u64 u65 u66 u67 u68 u69 u70 u71 u72 u73 u74 u75 u76 u77 u78 u79 u80 u81 u82 u83 u84 u85 u86 u87 u88 u89 u90 u91 u92 u93 : Value} (Q : Exit → Act → World → Prop) (wb w : World) (lo gq n c j room m : Nat) (qs : List Qw) (q q' : Qw) (ao : Option Addr) (co : Nat) (D : List Nat) (g : Nat) (TB : List Nat) (TP : List (List Nat)) (TG : Nat) (hj : j < qs.length) (hT : TD wb w lo gq n c j qs q q') (hgo : q'.go = (g : Int)) (how : q'.ow = q.ow) (hA : Ans w wb.heap.size ao D.length co D) (hroom : room ≤ 60000) (hm : room - D.length = m) (hDl : D.length < room) (hK : TK room TB TP TG D (q'.rs.map Rw.D) g) (hap : ∀ x, Ofo q'.a q'.rs x → (Value.slice ao D.length co).ownBlock ≠ some x) (hP : ∀ c a a' wz, a.defers = a'.defers → Q (.panic c) a wz → Q (.panic c) a' wz) (hne : q'.rs ≠ []) (hQ : ∀ (z9 z10 z38 z39 z40 z41 z42 z43 z44 z45 z46 z47 z48 z49 z50 z51 z52 z53 z54 z55 z56 z57 z58 z59 z60 z61 z62 z63 z64 z65 z66 z67 z68 z69 z70 z71 z72 z73 z74 z75 z76 z77 z78 z79 z80 z81 z82 z83 z84 z85 z86 z87 z88 z89 z90 z91 z92 : Value) (w' : World) (ao' : Option Addr) (co' : Nat) (D' : List Nat) (q2 : Qw) (g2 : Nat), D.length < D'.length → TD wb w' lo gq n c j qs q q2 → q2.go = (g2 : Int) → q2.ow = q.ow → Ans w' wb.heap.size ao' D'.length co' D' → TK room TB TP TG D' (q2.rs.map Rw.D) g2 → (∀ x, Ofo q2.a q2.rs x → (Value.slice ao' D'.length co').ownBlock ≠ some x) → Q .normal (Act.mk (List.toArray ((.pointer (some ⟨gq, j * 3, none⟩)) :: (.int .i64 (room : Int)) :: u2 :: u3 :: u4 :: (.slice ao' D'.length co') :: (.int .i64 (m : Int)) :: u7 :: u8 :: z9 :: z10 :: u11 :: u12 :: u13 :: u14 :: u15 :: u16 :: u17 :: u18 :: u19 :: u20 :: u21 :: u22 :: u23 :: u24 :: u25 :: u26 :: u27 :: u28 :: u29 :: u30 :: u31 :: u32 :: u33 :: u34 :: u35 :: u36 :: u37 :: z38 :: z39 :: z40 :: z41 :: z42 :: z43 :: z44 :: z45 :: z46 :: z47 :: z48 :: z49 :: z50 :: z51 :: z52 :: z53 :: z54 :: z55 :: z56 :: z57 :: z58 :: z59 :: z60 :: z61 :: z62 :: z63 :: z64 :: z65 :: z66 :: z67 :: z68 :: z69 :: z70 :: z71 :: z72 :: z73 :: z74 :: z75 :: z76 :: z77 :: z78 :: z79 :: z80 :: z81 :: z82 :: z83 :: z84 :: z85 :: z86 :: z87 :: z88 :: z89 :: z90 :: z91 :: z92 :: u93 :: [])) []) w') :
    Code.wp Try.prog (tailR 7 (Try.f79.body.getD .skip)) Q (Act.mk (List.toArray ((.pointer (some ⟨gq, j * 3, none⟩)) :: (.int .i64 (room : Int)) :: u2 :: u3 :: u4 :: (.slice ao D.length co) :: (.int .i64 (m : Int)) :: u7 :: u8 :: u9 :: u10 :: u11 :: u12 :: u13 :: u14 :: u15 :: u16 :: u17 :: u18 :: u19 :: u20 :: u21 :: u22 :: u23 :: u24 :: u25 :: u26 :: u27 :: u28 :: u29 :: u30 :: u31 :: u32 :: u33 :: u34 :: u35 :: u36 :: u37 :: u38 :: u39 :: u40 :: u41 :: u42 :: u43 :: u44 :: u45 :: u46 :: u47 :: u48 :: u49 :: u50 :: u51 :: u52 :: u53 :: u54 :: u55 :: u56 :: u57 :: u58 :: u59 :: u60 :: u61 :: u62 :: u63 :: u64 :: u65 :: u66 :: u67 :: u68 :: u69 :: u70 :: u71 :: u72 :: u73 :: u74 :: u75 :: u76 :: u77 :: u78 :: u79 :: u80 :: u81 :: u82 :: u83 :: u84 :: u85 :: u86 :: u87 :: u88 :: u89 :: u90 :: u91 :: u92 :: u93 :: [])) []) w := by
  let pq : Exit → Act → World → Prop := bodyPost Try.prog Try.f79 (fun _ _ => True)
  conv => enter [2]; whnf
  have HQ : Hid _ := hQ
  clear hQ
  obtain ⟨ow', a', n', c', go', rs'⟩ := q'
  have hgo : go' = (g : Int) := hgo
  subst hgo
  have how : ow' = q.ow := how
  subst how
  obtain ⟨r, rs, rfl⟩ : ∃ r rs, rs' = r :: rs := by
    cases rs' with
    | nil => exact absurd rfl hne
    | cons r rs => exact ⟨r, rs, rfl⟩
  have hoo := hT.oo
  have hln : (r :: rs).length = n' := hoo.ro.len
  have hn1 : 1 ≤ n' := by rw [← hln]; exact Nat.succ_le_succ (Nat.zero_le _)
  have hn1' : (0 : Int) < (n' : Int) := by omega
  obtain ⟨gp, op, rfl, hcell⟩ : ∃ gp op, a' = some ⟨gp, op, none⟩ ∧ ∀ wz : World, OwO wz lo a' n' c' (r :: rs) → wz.cell? ⟨gp, op, none⟩ = some (.slice r.a r.n r.c) := by
    rcases hoo.ro.at' with ⟨_, h0, _⟩ | ⟨g, o, cur, e, _⟩
    · have h0 : n' = 0 := h0
      omega
    · refine ⟨g, o, e, fun wz hz => ?_⟩
      obtain ⟨_, _, ee, _, hc⟩ := hz.ro.rdr.at' (by omega)
      have e : a' = some ⟨g, o, none⟩ := e
      rw [e] at ee
      cases ee
      exact hc 0 (by omega)
  have hAr := hoo.ro.each r (List.mem_cons_self ..)
  have hrl := hAr.len
  have hg : g < r.n := by have := hK.go r.D rfl; omega
  have hrn : r.n ≤ 100000 := by have := (hK.ne r.D (List.mem_cons_self ..)).2; omega
  obtain ⟨br, hra⟩ : ∃ br, r.a = some ⟨br, 0, none⟩ := by
    rcases hAr.cases with ⟨_, h0, _⟩ | ⟨x, e, _⟩
    · omega
    · exact ⟨x, e⟩
  obtain ⟨c0, c1, c2⟩ := hT.cell hj
  have cr := hcell w hoo
  rw [hra] at cr
  obtain ⟨d, hd⟩ : ∃ d, r.n - g = d := ⟨_, rfl⟩
  have hwl : IntKind.i64.wrap ((r.n : Int) - (g : Int)) = (d : Int) := by rw [show (r.n : Int) - (g : Int) = (d : Int) by omega]; exact wrap_i64_in _ (by omega) (by omega)
  have HM : Hid (room - D.length = m) := hm
  have HDd : Hid (r.n - g = d) := hd
  clear hm hd
  refine wp_seq_k fun K1 hK1 => ?_
  have HK1 : Hid _ := hK1
  clear hK1
  go_wp2
  refine HK1.out _ _ ?_
  clear HK1
  refine wp_seq_k fun K2 hK2 => ?_
  have HK2 : Hid _ := hK2
  clear hK2
  by_cases hle : m ≤ d
  · have hle' : (m : Int) ≤ (d : Int) := by omega
    go_wp2
    have hm := HM.out
    have hd := HDd.out
    refine HK2.out _ _ ?_
    clear HK2
    refine td_t9 Q wb w lo gq n c j room m gp op n' c' br qs q r rs ao co D g TB TP TG hj hT hA hroom hDl hK hap hra hg hrn (by omega) hP ?_
    intro z53 z54 z55 z56 z57 z58 z59 z60 z61 z62 z63 z64 z65 z66 z67 z68 z69 z70 z71 z72 z73 z74 z75 z76 z77 z78 z79 z80 z81 z82 z83 z84 z85 z86 z87 z88 z89 z90 z91 z92 w' ao' co' D' q2 g2 hl' h1 h2 h3 h4 h5 h6
    exact HQ.out _ _ _ _ _ _ _ _ _ _ _ _ _ _ _ _ _ _ _ _ _ _ _ _ _ _ _ _ _ _ _ _ _ _ _ _ _ _ _ _ _ _ _ _ _ _ _ _ _ _ _ _ _ _ _ _ _ w' ao' co' D' q2 g2 hl' h1 h2 h3 h4 h5 h6
  · have hle' : ¬ (m : Int) ≤ (d : Int) := by omega
    go_wp2
    have hm := HM.out
    have hd := HDd.out
    refine HK2.out _ _ ?_
    clear HK2
    refine td_t9 Q wb w lo gq n c j room d gp op n' c' br qs q r rs ao co D g TB TP TG hj hT hA hroom hDl hK hap hra hg hrn (by omega) hP ?_
    intro z53 z54 z55 z56 z57 z58 z59 z60 z61 z62 z63 z64 z65 z66 z67 z68 z69 z70 z71 z72 z73 z74 z75 z76 z77 z78 z79 z80 z81 z82 z83 z84 z85 z86 z87 z88 z89 z90 z91 z92 w' ao' co' D' q2 g2 hl' h1 h2 h3 h4 h5 h6
    exact HQ.out _ _ _ _ _ _ _ _ _ _ _ _ _ _ _ _ _ _ _ _ _ _ _ _ _ _ _ _ _ _ _ _ _ _ _ _ _ _ _ _ _ _ _ _ _ _ _ _ _ _ _ _ _ _ _ _ _ w' ao' co' D' q2 g2 hl' h1 h2 h3 h4 h5 h6

theorem fill_new {w wr w5 : World} {a5 : Option Addr} {n5 c5 : Nat} {FB : List Nat} (hA5 : Ans w5 wr.heap.size a5 n5 c5 FB) (h1 : w.heap.size ≤ wr.heap.size) (h2 : wr.heap.size ≤ w5.heap.size) {x : Nat} (hx : Ofo (some ⟨w5.heap.size, 0, none⟩) [⟨a5, n5, c5, FB⟩] x) : w.heap.size ≤ x := by
  rcases hx with ⟨o, s, e⟩ | ⟨r, hr, e⟩
  · cases e; omega
  · rw [List.mem_singleton.1 hr] at e
    have := hA5.new x e
    omega
def slN : Value → Nat
  | .slice _ n _ => n
  | _ => 0
set_option maxHeartbeats 32000000 in
theorem takeData_any (w : World) (lo gq n c j room g : Nat) (qs : List Qw) (q : Qw) (hj : qs[j]? = some q) (hrow : w.ownsRow 0 83 3 (.slice (some ⟨gq, 0, none⟩) n c) n (flQ qs)) (hoo : OwO w lo q.a q.n q.c q.rs) (hlo : lo ≤ w.heap.size) (hgo : q.go = (g : Int)) (hr1 : 1 ≤ room ∧ room ≤ 60000) (TB : List Nat) (TP : List (List Nat)) (TG : Nat) (hK : TK room TB TP TG [] (q.rs.map Rw.D) g) :
    Calls Try.prog 79 #[.pointer (some ⟨gq, j * 3, none⟩), .int .i64 (room : Int)] w fun e w' => ∃ (ya : Option Addr) (yc : Nat) (q2 : Qw), e = .returned (.slice ya room yc) ∧ Ans w' w.heap.size ya room yc TB ∧ TD w w' lo gq n c j qs q q2 ∧ q2.ow = q.ow ∧ q2.go = (TG : Int) ∧ q2.rs.map Rw.D = TP ∧ (∀ x, Ofo q2.a q2.rs x → (Value.slice ya room yc).ownBlock ≠ some x) := by
  have hjl := (List.getElem?_eq_some_iff.1 hj).1
  have hset : qs.set j q = qs := by
    obtain ⟨h1, h2⟩ := List.getElem?_eq_some_iff.1 hj
    rw [← h2]; exact List.set_getElem_self h1
  have hT0 : TD w w lo gq n c j qs q q := ⟨by rw [hset]; exact hrow, hoo, Fz.refl _ _, fun x hx => .inl hx⟩
  obtain ⟨i0, hi, hz0, hz1, hz2⟩ := info_parts Try.info_u8
  go_enter Try.func79, Try.ntmps79
  refine wp_seq_k fun K0 hK0 => ?_
  have HK0 : Hid _ := hK0
  clear hK0
  go_wp2
  refine HK0.out _ _ ?_
  clear HK0
  refine wp_seq_k fun K1 hK1 => ?_
  have HK1 : Hid _ := hK1
  clear hK1
  have s0 : True := trivial
  go_wp2_with (at_make; have _t := s0; clear s0; refine wpList_make_own _ rfl _ _ 22 rfl w.heap.size 5 i0 (.int .u8 0) 1 Try.underlying22 hi hz0 hz1 .i64 .i64 (room : Int) room rfl rfl rfl (by rw [hz2]; omega) (by unfold maxLen; omega) (Nat.le_refl _) ?_; intro w1 hown1 g1)
  have hA1 := own_nil w1 w.heap.size _ _ hown1 (Nat.le_refl _)
  have hT1 := hT0.keep g1
  refine HK1.out _ _ ?_
  clear HK1
  refine wp_seq_k fun K2 hK2 => ?_
  have HK2 : Hid _ := hK2
  clear hK2
  go_wp2
  go_loopw [5] (fun ov wr => ∃ (ao : Option Addr) (co : Nat) (D : List Nat) (q' : Qw) (g' : Nat), ov = .slice ao D.length co ∧ TD w wr lo gq n c j qs q q' ∧ q'.go = (g' : Int) ∧ q'.ow = q.ow ∧ Ans wr w.heap.size ao D.length co D ∧ TK room TB TP TG D (q'.rs.map Rw.D) g' ∧ (∀ x, Ofo q'.a q'.rs x → (Value.slice ao D.length co).ownBlock ≠ some x)) (fun ov _ => room - slN ov)
  case atStart => exact ⟨_, _, [], q, g, rfl, hT1, hgo, rfl, hA1, hK, fun x hx e => by have := (hoo.lh hx).1; have e : w.heap.size = x := Option.some.inj e; omega⟩
  case round =>
    clear hT0 hT1 hA1 hK
    obtain ⟨ao, co, D, q', g', rfl, hT, hgo', how', hA, hK, hap⟩ := hrel
    have hDle := hK.len
    by_cases hlt : D.length < room
    · have hlt' : (D.length : Int) < (room : Int) := by omega
      obtain ⟨m, hm⟩ : ∃ m, room - D.length = m := ⟨_, rfl⟩
      have hwm : IntKind.i64.wrap ((room : Int) - (D.length : Int)) = (m : Int) := by rw [show (room : Int) - (D.length : Int) = (m : Int) by omega]; exact wrap_i64_in _ (by omega) (by omega)
      have HM : Hid (room - D.length = m) := hm
      have hm1 : 1 ≤ m ∧ m ≤ 60000 := by omega
      clear hm
      refine wp_seq_k fun K3 hK3 => ?_
      have HK3 : Hid _ := hK3
      clear hK3
      go_wp2
      refine HK3.out _ _ ?_
      clear HK3
      refine wp_block ?_
      refine wp_seq_k fun K4 hK4 => ?_
      have HK4 : Hid _ := hK4
      clear hK4
      go_wp2
      refine HK4.out _ _ ?_
      clear HK4
      obtain ⟨c0, c1, c2⟩ := hT.cell hjl
      have hqn := hT.oo.ro.len
      have HGO : Hid (q'.go = (g' : Int)) := hgo'
      have HOW : Hid (q'.ow = q.ow) := how'
      clear hgo' how'
      refine wp_seq_k fun K5 hK5 => ?_
      have HK5 : Hid _ := hK5
      clear hK5
      by_cases h0 : q'.n = 0
      · have hrs0 : q'.rs = [] := List.eq_nil_of_length_eq_zero (by omega)
        have h0' : ((q'.n : Int) == 0) = true := by rw [h0]; rfl
        rw [hrs0] at hK
        obtain ⟨hg0, hKf⟩ := hK.fill hlt (by omega)
        have HG0 : Hid (g' = 0) := hg0
        have HH : Hid (q'.n = 0) := h0
        clear h0 hqn hg0
        have hways : ∃ mx : Nat, max m 7 = mx ∧ ((mx = 7 ∧ m < 7) ∨ (mx = m ∧ 7 < m) ∨ (m = 7 ∧ mx = 7)) := ⟨max m 7, rfl, by omega⟩
        obtain ⟨mx, hmx, hways⟩ := hways
        have hkF := fun wz => fill_any (mx : Int) wz
        have hE0 : filE (mx : Int) = 0 := by unfold filE; rw [if_pos (by omega)]
        have hFl : (filL (mx : Int)).length = mx := by have := nxF_len m hm1.2; unfold nxF at this; rw [hmx] at this; exact this
        have hKf : TK room TB TP TG D [filL (mx : Int)] 0 := by have h := hKf; rw [HM.out] at h; unfold nxF at h; rw [hmx] at h; exact h
        rw [hE0] at hkF
        clear hE0 hmx
        generalize filL (mx : Int) = FB at *
        have HFl : Hid (FB.length = mx) := hFl
        clear hFl
        rcases hways with ⟨rfl, hw1⟩ | ⟨rfl, hw1⟩ | ⟨rfl, rfl⟩
        · have k1 : (m : Int) ≤ 7 := by omega
          have k2 : ¬ (7 : Int) ≤ (m : Int) := by omega
          have k3 : (m : Int) < 7 := by omega
          have s0 : True := trivial
          go_wp2_with (first
            | (go_at_call 89; have _t := s0; clear s0; refine (hkF _).mono ?_; rintro e w5 ⟨a5, n5, c5, rfl, hA5, y5⟩; have z5 := y5.size; clear c0 c1 c2; have hT5 := hT.keep y5; have gA := World.grownBy_alloc w5 (.cells #[.slice a5 n5 c5] 22) none; have hT6 := hT5.keep gA; have hwz := hT.fz.size; have hon := OwO.one (r := ⟨a5, n5, c5, FB⟩) (hA5.wide (show lo ≤ wr.heap.size by omega)) (show lo ≤ w5.heap.size by omega); have s1 : True := trivial)
            | (have _t := s1; clear s1; refine wpList_stT _ rfl _ _ _ rfl hT6 hjl 1 (by decide) (.slice (some ⟨w5.heap.size, 0, none⟩) 1 1) ⟨q'.ow, some ⟨w5.heap.size, 0, none⟩, 1, 1, q'.go, [⟨a5, n5, c5, FB⟩]⟩ rfl rfl (stc_rows _ _ _ _ _) rfl hon (fun x hx => .inr ?_) ?_; exact fill_new hA5 hwz z5 hx; intro w7 hT7 u7))
          have hA7 := hT6.ansK ((hA.keep y5).keep gA) u7
          have hn5 := hA5.len
          refine HK5.out _ _ ?_
          clear HK5
          refine td_t7 _ w w7 lo gq n c j room _ qs q _ ao co D 0 TB TP TG hjl hT7 (by show q'.go = _; rw [HGO.out, HG0.out]) HOW.out hA7 hr1.2 HM.out hlt hKf (fun x hx e => ?_) (fun c a a' wz e h => by cases a; cases a'; cases e; exact h) (fun e => by cases e) ?_
          · have h1 := fill_new hA5 (Nat.le_refl wr.heap.size) z5 hx
            have h2 := hA.ltB e
            omega
          · intro z9 z10 z38 z39 z40 z41 z42 z43 z44 z45 z46 z47 z48 z49 z50 z51 z52 z53 z54 z55 z56 z57 z58 z59 z60 z61 z62 z63 z64 z65 z66 z67 z68 z69 z70 z71 z72 z73 z74 z75 z76 z77 z78 z79 z80 z81 z82 z83 z84 z85 z86 z87 z88 z89 z90 z91 z92 w' ao' co' D' q2 g2 hl' h1 h2 h3 h4 h5 h6
            simp only [Exit.inBlock, Exit.then]
            refine ⟨?_, ?_⟩
            · repeat apply Exists.intro
              refine ⟨?_, rfl⟩
              exact ⟨ao', co', D', q2, g2, rfl, h1, h2, h3, h4, h5, h6⟩
            · have := h5.len
              show room - D'.length < room - D.length
              omega
        · have k1 : ¬ (mx : Int) ≤ 7 := by omega
          have k2 : (7 : Int) ≤ (mx : Int) := by omega
          have k3 : ¬ (mx : Int) < 7 := by omega
          have s0 : True := trivial
          go_wp2_with (first
            | (go_at_call 89; have _t := s0; clear s0; refine (hkF _).mono ?_; rintro e w5 ⟨a5, n5, c5, rfl, hA5, y5⟩; have z5 := y5.size; clear c0 c1 c2; have hT5 := hT.keep y5; have gA := World.grownBy_alloc w5 (.cells #[.slice a5 n5 c5] 22) none; have hT6 := hT5.keep gA; have hwz := hT.fz.size; have hon := OwO.one (r := ⟨a5, n5, c5, FB⟩) (hA5.wide (show lo ≤ wr.heap.size by omega)) (show lo ≤ w5.heap.size by omega); have s1 : True := trivial)
            | (have _t := s1; clear s1; refine wpList_stT _ rfl _ _ _ rfl hT6 hjl 1 (by decide) (.slice (some ⟨w5.heap.size, 0, none⟩) 1 1) ⟨q'.ow, some ⟨w5.heap.size, 0, none⟩, 1, 1, q'.go, [⟨a5, n5, c5, FB⟩]⟩ rfl rfl (stc_rows _ _ _ _ _) rfl hon (fun x hx => .inr ?_) ?_; exact fill_new hA5 hwz z5 hx; intro w7 hT7 u7))
          have hA7 := hT6.ansK ((hA.keep y5).keep gA) u7
          have hn5 := hA5.len
          refine HK5.out _ _ ?_
          clear HK5
          refine td_t7 _ w w7 lo gq n c j room _ qs q _ ao co D 0 TB TP TG hjl hT7 (by show q'.go = _; rw [HGO.out, HG0.out]) HOW.out hA7 hr1.2 HM.out hlt hKf (fun x hx e => ?_) (fun c a a' wz e h => by cases a; cases a'; cases e; exact h) (fun e => by cases e) ?_
          · have h1 := fill_new hA5 (Nat.le_refl wr.heap.size) z5 hx
            have h2 := hA.ltB e
            omega
          · intro z9 z10 z38 z39 z40 z41 z42 z43 z44 z45 z46 z47 z48 z49 z50 z51 z52 z53 z54 z55 z56 z57 z58 z59 z60 z61 z62 z63 z64 z65 z66 z67 z68 z69 z70 z71 z72 z73 z74 z75 z76 z77 z78 z79 z80 z81 z82 z83 z84 z85 z86 z87 z88 z89 z90 z91 z92 w' ao' co' D' q2 g2 hl' h1 h2 h3 h4 h5 h6
            simp only [Exit.inBlock, Exit.then]
            refine ⟨?_, ?_⟩
            · repeat apply Exists.intro
              refine ⟨?_, rfl⟩
              exact ⟨ao', co', D', q2, g2, rfl, h1, h2, h3, h4, h5, h6⟩
            · have := h5.len
              show room - D'.length < room - D.length
              omega
        · have s0 : True := trivial
          go_wp2_with (first
            | (go_at_call 89; have _t := s0; clear s0; refine (hkF _).mono ?_; rintro e w5 ⟨a5, n5, c5, rfl, hA5, y5⟩; have z5 := y5.size; clear c0 c1 c2; have hT5 := hT.keep y5; have gA := World.grownBy_alloc w5 (.cells #[.slice a5 n5 c5] 22) none; have hT6 := hT5.keep gA; have hwz := hT.fz.size; have hon := OwO.one (r := ⟨a5, n5, c5, FB⟩) (hA5.wide (show lo ≤ wr.heap.size by omega)) (show lo ≤ w5.heap.size by omega); have s1 : True := trivial)
            | (have _t := s1; clear s1; refine wpList_stT _ rfl _ _ _ rfl hT6 hjl 1 (by decide) (.slice (some ⟨w5.heap.size, 0, none⟩) 1 1) ⟨q'.ow, some ⟨w5.heap.size, 0, none⟩, 1, 1, q'.go, [⟨a5, n5, c5, FB⟩]⟩ rfl rfl (stc_rows _ _ _ _ _) rfl hon (fun x hx => .inr ?_) ?_; exact fill_new hA5 hwz z5 hx; intro w7 hT7 u7))
          have hA7 := hT6.ansK ((hA.keep y5).keep gA) u7
          have hn5 := hA5.len
          refine HK5.out _ _ ?_
          clear HK5
          refine td_t7 _ w w7 lo gq n c j room _ qs q _ ao co D 0 TB TP TG hjl hT7 (by show q'.go = _; rw [HGO.out, HG0.out]) HOW.out hA7 hr1.2 HM.out hlt hKf (fun x hx e => ?_) (fun c a a' wz e h => by cases a; cases a'; cases e; exact h) (fun e => by cases e) ?_
          · have h1 := fill_new hA5 (Nat.le_refl wr.heap.size) z5 hx
            have h2 := hA.ltB e
            omega
          · intro z9 z10 z38 z39 z40 z41 z42 z43 z44 z45 z46 z47 z48 z49 z50 z51 z52 z53 z54 z55 z56 z57 z58 z59 z60 z61 z62 z63 z64 z65 z66 z67 z68 z69 z70 z71 z72 z73 z74 z75 z76 z77 z78 z79 z80 z81 z82 z83 z84 z85 z86 z87 z88 z89 z90 z91 z92 w' ao' co' D' q2 g2 hl' h1 h2 h3 h4 h5 h6
            simp only [Exit.inBlock, Exit.then]
            refine ⟨?_, ?_⟩
            · repeat apply Exists.intro
              refine ⟨?_, rfl⟩
              exact ⟨ao', co', D', q2, g2, rfl, h1, h2, h3, h4, h5, h6⟩
            · have := h5.len
              show room - D'.length < room - D.length
              omega
      · have h0' : ((q'.n : Int) == 0) = false := by simp; omega
        go_wp2
        refine HK5.out _ _ ?_
        clear HK5
        refine td_t7 _ w wr lo gq n c j room m qs q q' ao co D g' TB TP TG hjl hT HGO.out HOW.out hA hr1.2 HM.out hlt hK hap (fun c a a' wz e h => by cases a; cases a'; cases e; exact h) (fun e => by rw [e] at hqn; exact h0 hqn.symm) ?_
        intro z9 z10 z38 z39 z40 z41 z42 z43 z44 z45 z46 z47 z48 z49 z50 z51 z52 z53 z54 z55 z56 z57 z58 z59 z60 z61 z62 z63 z64 z65 z66 z67 z68 z69 z70 z71 z72 z73 z74 z75 z76 z77 z78 z79 z80 z81 z82 z83 z84 z85 z86 z87 z88 z89 z90 z91 z92 w' ao' co' D' q2 g2 hl' h1 h2 h3 h4 h5 h6
        simp only [Exit.inBlock, Exit.then]
        refine ⟨?_, ?_⟩
        · repeat apply Exists.intro
          refine ⟨?_, rfl⟩
          exact ⟨ao', co', D', q2, g2, rfl, h1, h2, h3, h4, h5, h6⟩
        · have := h5.len
          show room - D'.length < room - D.length
          omega
    · have hlt' : ¬ (D.length : Int) < (room : Int) := by omega
      obtain ⟨rfl, e2, e3, e4⟩ := hK.done hlt
      have HE2 : Hid _ := e2
      have HE3 : Hid _ := e3
      have HE4 : Hid _ := e4
      clear e2 e3 e4
      go_wp2
      refine HK2.out _ _ ?_
      clear HK2
      go_wp2
      go_ret
      have e4 := HE4.out
      subst e4
      exact ⟨ao, co, q', rfl, hA, hT, how', by rw [hgo', HE3.out], HE2.out, hap⟩
end Go.Proofs.Ytlmddjkplnbadaa
