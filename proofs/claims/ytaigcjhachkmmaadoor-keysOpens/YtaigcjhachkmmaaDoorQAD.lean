import Derived.Test.YtaigcjhachkmmaaDoorQZ
import Derived.Test.YtaigcjhachkmmaaDoorYKm
import Derived.Test.YtaigcjhachkmmaaDoorUGn
import Derived.Test.YtaigcjhachkmmaaDoorZRs
import Derived.Maps.OwnOps
import Derived.Maps.OwnSet
import Derived.Maps.Views
namespace Go.Proofs.YtaigcjhachkmmaaDoor
open Go.RowKit
set_option maxRecDepth 100000
set_option linter.unusedVariables false
set_option linter.unusedSimpArgs false

/-- a key: where its words lie, and what it says -/
structure Kw where
  id : Int
  a : Option Addr
  n : Nat
  c : Nat
  W : List Int
  tp : Int
  sn : Int
/-- a key as data -/
structure Kd where
  id : Int
  W : List Int
  tp : Int
  sn : Int
def Kw.d (k : Kw) : Kd := ⟨k.id, k.W, k.tp, k.sn⟩
def Kw.v (k : Kw) : Value := .slice k.a k.n k.c
def Kw.cells (k : Kw) : List Value := [.int .i64 k.id, .slice k.a k.n k.c, .int .i64 k.tp, .int .i64 k.sn]
def kw0 : Kw := ⟨0, none, 0, 0, [], 0, 0⟩
def flK (ks : List Kw) : List Value := ks.flatMap Kw.cells
theorem flK_len (ks : List Kw) : (flK ks).length = ks.length * 4 := by
  induction ks with
  | nil => rfl
  | cons k ks ih => simp only [flK, List.flatMap_cons, List.length_append, List.length_cons] at ih ⊢; rw [ih]; show 4 + _ = _; omega
theorem flK_app (ks ls : List Kw) : flK (ks ++ ls) = flK ks ++ flK ls := by simp [flK]
theorem flK_at (ks : List Kw) (i : Nat) (k : Kw) (h : ks[i]? = some k) (j : Nat) (hj : j < 4) : (flK ks)[i * 4 + j]? = k.cells[j]? := by
  induction ks generalizing i with
  | nil => cases h
  | cons a ks ih =>
    cases i with
    | zero =>
      have h : some a = some k := h
      have h := Option.some.inj h
      subst h
      show (a.cells ++ flK ks)[0 * 4 + j]? = _
      rw [List.getElem?_append_left (by show 0 * 4 + j < 4; omega), Nat.zero_mul, Nat.zero_add]
    | succ i =>
      have h : ks[i]? = some k := h
      show (a.cells ++ flK ks)[(i + 1) * 4 + j]? = _
      rw [List.getElem?_append_right (by show 4 ≤ _; omega), show (i + 1) * 4 + j - a.cells.length = i * 4 + j by show _ - 4 = _; omega]
      exact ih i h
theorem flK_one (ks : List Kw) : ∀ u, u ∈ flK ks → u.oneCell' = true := by
  intro u hu
  obtain ⟨k, _, hk⟩ := List.mem_flatMap.1 hu
  simp only [Kw.cells, List.mem_cons, List.not_mem_nil, or_false] at hk
  rcases hk with rfl | rfl | rfl | rfl <;> rfl
theorem flK_take (ks : List Kw) (m : Nat) : (flK ks).take (m * 4) = flK (ks.take m) := by
  induction ks generalizing m with
  | nil => simp [flK]
  | cons k ks ih =>
    cases m with
    | zero => simp [flK]
    | succ m =>
      show (k.cells ++ flK ks).take ((m + 1) * 4) = k.cells ++ flK (ks.take m)
      rw [← ih m, List.take_append, List.take_of_length_le (by show 4 ≤ _; omega)]
      congr 2
      show _ - 4 = _
      omega
theorem flK_drop (ks : List Kw) (m : Nat) : (flK ks).drop (m * 4) = flK (ks.drop m) := by
  induction ks generalizing m with
  | nil => simp [flK]
  | cons k ks ih =>
    cases m with
    | zero => simp [flK]
    | succ m =>
      show (k.cells ++ flK ks).drop ((m + 1) * 4) = flK (ks.drop m)
      rw [← ih m, List.drop_append, List.drop_of_length_le (by show 4 ≤ _; omega), List.nil_append]
      congr 1
      show _ - 4 = _
      omega
theorem Tryd.info_ky : (Tryd.prog.info? 36).map (fun i => (i.zero, i.size, i.bytes)) = some (some (.agg #[.int .i64 0, .slice none 0 0, .int .i64 0, .int .i64 0]), 4, 48) := by kernel_rfl
theorem Tryd.info_ky4 : (Tryd.prog.info? 36).map (fun i => i.size) = some 4 := by kernel_rfl
theorem Tryd.info_rg1 : (Tryd.prog.info? 24).map (fun i => i.size) = some 1 := by kernel_rfl
/-- numbers that an int can be -/
def I64 (z : Int) : Prop := -9223372036854775808 ≤ z ∧ z ≤ 9223372036854775807
/-- a slice of keys as it is read -/
structure RdK (w : World) (a : Option Addr) (n c : Nat) (ks : List Kw) : Prop where
  len : ks.length = n
  le : n ≤ c
  max : c ≤ maxLen
  at' : 0 < n → ∃ b off, a = some ⟨b, off, none⟩ ∧ b < w.heap.size ∧ ∀ i k, ks[i]? = some k → ∀ j, j < 4 → w.cell? ⟨b, off + (i * 4 + j), none⟩ = k.cells[j]?
  ws : ∀ k, k ∈ ks → RdI w k.a k.n k.c k.W
  bd : ∀ k, k ∈ ks → I64 k.id ∧ I64 k.tp ∧ I64 k.sn
theorem RdK.nil (w : World) : RdK w none 0 0 [] := ⟨rfl, Nat.le_refl _, Nat.zero_le _, (fun h => absurd h (by decide)), (fun k h => by cases h), fun k h => by cases h⟩
theorem RdK.keep {w w' : World} {a : Option Addr} {n c : Nat} {ks : List Kw} (h : RdK w a n c ks) (hg : w.grownBy w' none) : RdK w' a n c ks :=
  ⟨h.len, h.le, h.max, fun h0 => by
    obtain ⟨b, off, e, hb, hc⟩ := h.at' h0
    refine ⟨b, off, e, Nat.lt_of_lt_of_le hb hg.size, fun i k hi j hj => ?_⟩
    rw [← hc i k hi j hj]
    unfold World.cell?
    rw [hg.block b hb (by simp)], fun k hk => (h.ws k hk).keep hg, h.bd⟩
theorem RdK.four {w : World} {b off n c : Nat} {ks : List Kw} (h : RdK w (some ⟨b, off, none⟩) n c ks) {i : Nat} {k : Kw} (hi : ks[i]? = some k) :
    w.cell? ⟨b, off + i * 4, none⟩ = some (.int .i64 k.id) ∧ w.cell? ⟨b, off + i * 4 + 1, none⟩ = some (.slice k.a k.n k.c) ∧ w.cell? ⟨b, off + i * 4 + 2, none⟩ = some (.int .i64 k.tp) ∧ w.cell? ⟨b, off + i * 4 + 3, none⟩ = some (.int .i64 k.sn) := by
  have hl := (List.getElem?_eq_some_iff.1 hi).1
  obtain ⟨_, _, e, _, hc⟩ := h.at' (by have := h.len; omega)
  cases e
  exact ⟨hc i k hi 0 (by decide), hc i k hi 1 (by decide), hc i k hi 2 (by decide), hc i k hi 3 (by decide)⟩
/-- the blocks that keys own -/
def Okb (v : Value) (ks : List Kw) (i : Nat) : Prop := v.ownBlock = some i ∨ ∃ k, k ∈ ks ∧ k.v.ownBlock = some i
/-- keys in memory of the call's own -/
structure OwK (w : World) (lo : Nat) (a : Option Addr) (n c : Nat) (ks : List Kw) : Prop where
  own : w.ownsRow 0 36 4 (.slice a n c) n (flK ks)
  len : ks.length = n
  new : ∀ g, (Value.slice a n c).ownBlock = some g → lo ≤ g
  each : ∀ k, k ∈ ks → AnsZ w lo k.a k.n k.c k.W
  bd : ∀ k, k ∈ ks → I64 k.id ∧ I64 k.tp ∧ I64 k.sn
  apart : ks.Pairwise fun r s => ∀ g, r.v.ownBlock = some g → s.v.ownBlock ≠ some g
theorem OwK.nil (w : World) (lo : Nat) : OwK w lo none 0 0 [] := ⟨World.ownsRow_nil _ _ _ _, rfl, (fun g h => by simp [Value.ownBlock] at h), (fun k h => by cases h), (fun k h => by cases h), List.Pairwise.nil⟩
theorem OwK.max {w : World} {lo : Nat} {a : Option Addr} {n c : Nat} {ks : List Kw} (h : OwK w lo a n c ks) : n ≤ c ∧ c ≤ maxLen := by
  rcases h.own.2 with ⟨h1, h2⟩ | ⟨g, cap', cur, h1, _, h3, h4, h5, _⟩
  · simp only [Value.slice.injEq] at h1; obtain ⟨_, h6, h7⟩ := h1; subst h6; subst h7; exact ⟨Nat.le_refl _, Nat.zero_le _⟩
  · simp only [Value.slice.injEq] at h1; obtain ⟨_, _, h7⟩ := h1; subst h7; exact ⟨h4, h5⟩
theorem OwK.rd {w : World} {lo : Nat} {a : Option Addr} {n c : Nat} {ks : List Kw} (h : OwK w lo a n c ks) : RdK w a n c ks := by
  have hm := h.max
  refine ⟨h.len, hm.1, hm.2, fun h0 => ?_, fun k hk => (h.each k hk).rd, h.bd⟩
  rcases h.own.2 with ⟨h1, h2⟩ | ⟨g, cap', cur, h1, hb, h3, _⟩
  · omega
  · simp only [Value.slice.injEq] at h1; obtain ⟨h5, _, h7⟩ := h1; subst h5
    refine ⟨g, 0, rfl, (Array.getElem?_eq_some_iff.1 h3).1, fun i k hi j hj => ?_⟩
    have hc := flK_at ks i k hi j hj
    obtain ⟨u, hu⟩ : ∃ u, k.cells[j]? = some u := ⟨_, List.getElem?_eq_getElem (by show j < 4; exact hj)⟩
    rw [hu] at hc ⊢
    have := h.own.cells (g := g) rfl (i * 4 + j) u hc
    rw [addr_add] at this
    exact this
theorem OwK.keep {w w' : World} {lo : Nat} {a : Option Addr} {n c : Nat} {ks : List Kw} (h : OwK w lo a n c ks) (hg : w.grownBy w' none) : OwK w' lo a n c ks :=
  ⟨h.own.kept hg (by cases (Value.slice a n c).ownBlock <;> simp), h.len, h.new, fun k hk => (h.each k hk).keep hg, h.bd, h.apart⟩
theorem AnsZ.wide {w : World} {lo lo' : Nat} {a : Option Addr} {n c : Nat} {S : List Int} (h : AnsZ w lo a n c S) (hl : lo' ≤ lo) : AnsZ w lo' a n c S := ⟨h.own, fun g hg => Nat.le_trans hl (h.new g hg)⟩
theorem OwK.wide {w : World} {lo lo' : Nat} {a : Option Addr} {n c : Nat} {ks : List Kw} (h : OwK w lo a n c ks) (hl : lo' ≤ lo) : OwK w lo' a n c ks :=
  ⟨h.own, h.len, fun g hg => Nat.le_trans hl (h.new g hg), fun k hk => (h.each k hk).wide hl, h.bd, h.apart⟩
theorem OwK.hi {w : World} {lo : Nat} {a : Option Addr} {n c : Nat} {ks : List Kw} (h : OwK w lo a n c ks) {x : Nat} (hx : Okb (.slice a n c) ks x) : x < w.heap.size ∧ lo ≤ x := by
  rcases hx with hx | ⟨k, hk, hx⟩
  · refine ⟨?_, h.new x hx⟩
    rcases h.own.2 with ⟨h1, _⟩ | ⟨g, cap', cur, h1, _, h3, _⟩
    · rw [h1] at hx; simp [Value.ownBlock] at hx
    · rw [h1] at hx
      have hx : g = x := Option.some.inj hx
      subst hx
      exact (Array.getElem?_eq_some_iff.1 h3).1
  · exact ⟨(h.each k hk).lt x hx, (h.each k hk).new x hx⟩
/-- another block is written -/
theorem OwK.kept {w w' : World} {lo : Nat} {a : Option Addr} {n c : Nat} {ks : List Kw} {r : Option Nat} (h : OwK w lo a n c ks) (hg : w.grownBy w' r) (hne : ∀ x, r = some x → ¬ Okb (.slice a n c) ks x) : OwK w' lo a n c ks := by
  have h1 : ∀ (v : Value), (∀ x, r = some x → v.ownBlock ≠ some x) → v.ownBlock = none ∨ v.ownBlock ≠ r := fun v hv => by
    cases e : v.ownBlock with
    | none => exact .inl rfl
    | some x => exact .inr (fun e2 => hv x e2.symm e)
  exact ⟨h.own.kept hg (h1 _ (fun x e e2 => hne x e (.inl e2))), h.len, h.new, fun k hk => (h.each k hk).kept hg (h1 _ (fun x e e2 => hne x e (.inr ⟨k, hk, e2⟩))), h.bd, h.apart⟩
theorem AnsZ.fz {w w' : World} {p : Nat → Prop} {lo : Nat} {a : Option Addr} {n c : Nat} {S : List Int} (h : AnsZ w lo a n c S) (hF : Fz p w w') (hn : ∀ x, (Value.slice a n c).ownBlock = some x → ¬ p x) : AnsZ w' lo a n c S := by
  refine ⟨?_, h.new⟩
  refine ⟨h.own.1, ?_⟩
  rcases h.own.2 with h1 | ⟨g, cap', cur, h1, h2, h3, h4⟩
  · exact .inl h1
  · refine .inr ⟨g, cap', cur, h1, h2, ?_, h4⟩
    rw [hF.block g (Array.getElem?_eq_some_iff.1 h3).1 (hn g (by rw [h1]; rfl))]
    exact h3
theorem OwK.fz {w w' : World} {p : Nat → Prop} {lo : Nat} {a : Option Addr} {n c : Nat} {ks : List Kw} (h : OwK w lo a n c ks) (hF : Fz p w w') (hn : ∀ x, Okb (.slice a n c) ks x → ¬ p x) : OwK w' lo a n c ks := by
  refine ⟨⟨h.own.1, ?_⟩, h.len, h.new, fun k hk => (h.each k hk).fz hF (fun x e => hn x (.inr ⟨k, hk, e⟩)), h.bd, h.apart⟩
  rcases h.own.2 with h1 | ⟨g, cap', cur, h1, h2, h3, h4⟩
  · exact .inl h1
  · refine .inr ⟨g, cap', cur, h1, h2, ?_, h4⟩
    rw [hF.block g (Array.getElem?_eq_some_iff.1 h3).1 (hn g (.inl (by rw [h1]; rfl)))]
    exact h3
/-- no box of another type -/
theorem AnsZ.box {w : World} {lo n c g : Nat} {a : Option Addr} {S : List Int} {t : TypeId} {cs : Array Value} (h : AnsZ w lo a n c S) (b : BxS w g t cs) (ht : 3 ≠ t) : (Value.slice a n c).ownBlock ≠ some g := by
  intro e
  rcases h.own.2 with ⟨h1, _⟩ | ⟨x, cap, cur, h1, _, hh, _⟩
  · rw [h1] at e; simp [Value.ownBlock] at e
  · rw [h1] at e
    have e : x = g := Option.some.inj e
    subst e
    unfold BxS at b
    rw [hh] at b
    injection b with b
    injection b with _ b _
    exact ht b
theorem OwK.box {w : World} {lo n c g : Nat} {a : Option Addr} {ks : List Kw} {t : TypeId} {cs : Array Value} (h : OwK w lo a n c ks) (b : BxS w g t cs) (ht : 36 ≠ t) : (Value.slice a n c).ownBlock ≠ some g := by
  intro e
  rcases h.own.2 with ⟨h1, _⟩ | ⟨x, cap, cur, h1, _, hh, _⟩
  · rw [h1] at e; simp [Value.ownBlock] at e
  · rw [h1] at e
    have e : x = g := Option.some.inj e
    subst e
    unfold BxS at b
    rw [hh] at b
    injection b with b
    injection b with _ b _
    exact ht b
/-- as data -/
structure RdG (w : World) (a : Option Addr) (n c : Nat) (R : List Kd) : Prop where
  ex : ∃ ks, RdK w a n c ks ∧ ks.map Kw.d = R
structure OwG (w : World) (lo : Nat) (a : Option Addr) (n c : Nat) (ks : List Kw) (R : List Kd) : Prop where
  o : OwK w lo a n c ks
  d : ks.map Kw.d = R
theorem RdG.keep {w w' : World} {a : Option Addr} {n c : Nat} {R : List Kd} (h : RdG w a n c R) (hg : w.grownBy w' none) : RdG w' a n c R := by
  obtain ⟨ks, h1, h2⟩ := h.ex
  exact ⟨ks, h1.keep hg, h2⟩
theorem RdG.len {w : World} {a : Option Addr} {n c : Nat} {R : List Kd} (h : RdG w a n c R) : R.length = n := by
  obtain ⟨ks, h1, h2⟩ := h.ex
  rw [← h2, List.length_map]; exact h1.len
theorem OwG.rd {w : World} {lo : Nat} {a : Option Addr} {n c : Nat} {ks : List Kw} {R : List Kd} (h : OwG w lo a n c ks R) : RdG w a n c R := ⟨ks, h.o.rd, h.d⟩
theorem OwG.keep {w w' : World} {lo : Nat} {a : Option Addr} {n c : Nat} {ks : List Kw} {R : List Kd} (h : OwG w lo a n c ks R) (hg : w.grownBy w' none) : OwG w' lo a n c ks R := ⟨h.o.keep hg, h.d⟩
theorem OwG.wide {w : World} {lo lo' : Nat} {a : Option Addr} {n c : Nat} {ks : List Kw} {R : List Kd} (h : OwG w lo a n c ks R) (hl : lo' ≤ lo) : OwG w lo' a n c ks R := ⟨h.o.wide hl, h.d⟩
theorem OwG.fz {w w' : World} {p : Nat → Prop} {lo : Nat} {a : Option Addr} {n c : Nat} {ks : List Kw} {R : List Kd} (h : OwG w lo a n c ks R) (hF : Fz p w w') (hn : ∀ x, Okb (.slice a n c) ks x → ¬ p x) : OwG w' lo a n c ks R := ⟨h.o.fz hF hn, h.d⟩
theorem RdG.nil (w : World) : RdG w none 0 0 [] := ⟨[], RdK.nil w, rfl⟩
theorem OwG.nil (w : World) (lo : Nat) : OwG w lo none 0 0 [] [] := ⟨OwK.nil w lo, rfl⟩
/-- a key more, in a row that grows -/
theorem OwK.push {w w' : World} {lo : Nat} {ao : Option Addr} {n co : Nat} {ks : List Kw} (hA : OwK w lo ao n co ks) (hlo : lo ≤ w.heap.size) {g cap : Nat} (hgx : (Value.slice ao n co).ownBlock = some g ∨ w.heap.size ≤ g)
    (hg : w.grownBy w' (Value.slice ao n co).ownBlock) {k : Kw} (hk : AnsZ w lo k.a k.n k.c k.W) (hb : I64 k.id ∧ I64 k.tp ∧ I64 k.sn) (hap : ∀ q, q ∈ ks → ∀ y, q.v.ownBlock = some y → k.v.ownBlock ≠ some y)
    (hown : w'.ownsRow 0 36 4 (.slice (some ⟨g, 0, none⟩) (n + 1) cap) (n + 1) (flK ks ++ k.cells)) : OwK w' lo (some ⟨g, 0, none⟩) (n + 1) cap (ks ++ [k]) := by
  have hty : ∀ k : Kw, AnsZ w lo k.a k.n k.c k.W → k.v.ownBlock = none ∨ k.v.ownBlock ≠ (Value.slice ao n co).ownBlock := fun k hk => by
    cases e : k.v.ownBlock with
    | none => exact .inl rfl
    | some x =>
      refine .inr (fun e2 => ?_)
      rcases hA.own.2 with ⟨h1, _⟩ | ⟨y, cap, cur, h1, _, hh, _⟩
      · rw [h1] at e2; simp [Value.ownBlock] at e2
      · rw [h1] at e2
        have e2 : x = y := Option.some.inj e2
        subst e2
        exact hk.box hh (by decide) e
  refine ⟨by rw [flK_app]; simpa [flK] using hown, by simp [hA.len], fun y hy => ?_, fun q hq => ?_, fun q hq => ?_, List.pairwise_append.2 ⟨hA.apart, List.pairwise_singleton _ _, fun r hr s hs => by rw [List.mem_singleton.1 hs]; exact hap r hr⟩⟩
  · have e : g = y := Option.some.inj hy
    subst e
    rcases hgx with h | h
    · exact hA.new g h
    · omega
  · rcases List.mem_append.1 hq with hq | hq
    · exact (hA.each q hq).kept hg (hty q (hA.each q hq))
    · have hq := List.mem_singleton.1 hq
      subst hq
      exact hk.kept hg (hty q hk)
  · rcases List.mem_append.1 hq with hq | hq
    · exact hA.bd q hq
    · have hq := List.mem_singleton.1 hq
      subst hq
      exact hb
theorem four_row (w : World) (k : Kw) : ∀ j u, k.cells[j]? = some u → (w.alloc (.cells k.cells.toArray 36)).cell? ((⟨w.heap.size, 0, none⟩ : Addr).add j) = some u := by
  intro j u hu
  rw [addr_add, Nat.zero_add]
  have b := BxS.new w 36 k.cells.toArray
  have hj : j < k.cells.length := (List.getElem?_eq_some_iff.1 hu).1
  rw [b.cell j (by simpa using hj)]
  rw [← hu]
  simp
/-- 'append(v, k)' of keys -/
theorem wpList_psK (w : World) (lo : Nat) (k : Kw) {ops : Array Oper} {rest : List Oper} {o : Oper} {a : Act} {Q : Exit → Act → World → Prop} (hg : o.guard = none) (s x : Operand)
    (hop : o.op = Op.call { callee := .builtin .append, args := #[s, x], argTypes := #[22, 22] }) (ao : Option Addr) (m co : Nat) (ks : List Kw) (hs : a.eval s = .slice ao m co)
    (hA : OwK w lo ao m co ks) (hlo : lo ≤ w.heap.size) (hx : a.eval x = .slice (some ⟨w.heap.size, 0, none⟩) 1 1) (hb : (m + 1) * 48 ≤ 140737488355328) (cs : Array Value) (hcs : cs = k.cells.toArray) (hk : AnsZ w lo k.a k.n k.c k.W) (hbd : I64 k.id ∧ I64 k.tp ∧ I64 k.sn) (hap : ∀ q, q ∈ ks → ∀ y, q.v.ownBlock = some y → k.v.ownBlock ≠ some y)
    (hK : ∀ gx cx w', OwK w' lo (some ⟨gx, 0, none⟩) (m + 1) cx (ks ++ [k]) → w.grownBy w' (Value.slice ao m co).ownBlock → ((Value.slice ao m co).ownBlock = some gx ∨ w.heap.size ≤ gx) → wpList Tryd.prog ops Q rest (a.put o.dst (.slice (some ⟨gx, 0, none⟩) (m + 1) cx)) w') :
    wpList Tryd.prog ops Q (o :: rest) a (w.alloc (.cells cs 36)) := by
  subst hcs
  obtain ⟨i0, hi, hz0, hz1, hz2⟩ := info_parts Tryd.info_ky
  have gA := World.grownBy_alloc w (.cells k.cells.toArray 36) none
  refine wpList_apS _ hg s x 22 36 i0 _ 4 48 Tryd.underlying22 hi hz0 hz1 hz2 rfl (by decide) hop (.slice ao m co) m (flK ks) hs (hA.own.alloc _) ⟨w.heap.size, 0, none⟩ 1 1 k.cells hx rfl (four_row w k) (by simp [Kw.cells, Value.oneCell']) (by decide) (by unfold maxLen; omega) (by omega) ?_
  intro gx cx w' hgx hgr hown
  have hsz := gA.size
  have hor : (Value.slice ao m co).ownBlock = some gx ∨ w.heap.size ≤ gx := by
    rcases hgx with h | h
    · exact .inl h
    · exact .inr (by omega)
  have hgr' := grown_trans (grown_weak gA (Value.slice ao m co).ownBlock) hgr
  exact hK gx cx w' (hA.push hlo hor hgr' hk hbd hap hown) hgr' hor
/-- the same in a region that draws -/
theorem step_psK (w : World) (lo : Nat) (k : Kw) {ops : Array Oper} {o : Oper} {a : Act} {K : Act → World → Prop} {Q : Exit → Act → World → Prop} {E : Prop} (hg : o.guard = none) (s x : Operand)
    (hop : o.op = Op.call { callee := .builtin .append, args := #[s, x], argTypes := #[22, 22] }) (ao : Option Addr) (m co : Nat) (ks : List Kw) (hs : a.eval s = .slice ao m co)
    (hA : OwK w lo ao m co ks) (hlo : lo ≤ w.heap.size) (hx : a.eval x = .slice (some ⟨w.heap.size, 0, none⟩) 1 1) (hb : (m + 1) * 48 ≤ 140737488355328) (cs : Array Value) (hcs : cs = k.cells.toArray) (hk : AnsZ w lo k.a k.n k.c k.W) (hbd : I64 k.id ∧ I64 k.tp ∧ I64 k.sn) (hap : ∀ q, q ∈ ks → ∀ y, q.v.ownBlock = some y → k.v.ownBlock ≠ some y)
    (hK : ∀ gx cx w', OwK w' lo (some ⟨gx, 0, none⟩) (m + 1) cx (ks ++ [k]) → w.grownBy w' (Value.slice ao m co).ownBlock → ((Value.slice ao m co).ownBlock = some gx ∨ w.heap.size ≤ gx) → K (a.put o.dst (.slice (some ⟨gx, 0, none⟩) (m + 1) cx)) w') :
    if Region.wanted o (yielded ops a.tmps) = true then Oper.wp Tryd.prog o a (w.alloc (.cells cs 36)) K Q else E := by
  subst hcs
  obtain ⟨i0, hi, hz0, hz1, hz2⟩ := info_parts Tryd.info_ky
  have gA := World.grownBy_alloc w (.cells k.cells.toArray 36) none
  refine step_apS _ hg s x 22 36 i0 _ 4 48 Tryd.underlying22 hi hz0 hz1 hz2 rfl (by decide) hop (.slice ao m co) m (flK ks) hs (hA.own.alloc _) ⟨w.heap.size, 0, none⟩ 1 1 k.cells hx rfl (four_row w k) (by simp [Kw.cells, Value.oneCell']) (by decide) (by unfold maxLen; omega) (by omega) ?_
  intro gx cx w' hgx hgr hown
  have hsz := gA.size
  have hor : (Value.slice ao m co).ownBlock = some gx ∨ w.heap.size ≤ gx := by
    rcases hgx with h | h
    · exact .inl h
    · exact .inr (by omega)
  have hgr' := grown_trans (grown_weak gA (Value.slice ao m co).ownBlock) hgr
  exact hK gx cx w' (hA.push hlo hor hgr' hk hbd hap hown) hgr' hor
theorem BxS.cell4 {w : World} {g : Nat} {t : TypeId} {a b c d : Value} (h : BxS w g t #[a, b, c, d]) : w.cell? ⟨g, 0, none⟩ = some a ∧ w.cell? ⟨g, 1, none⟩ = some b ∧ w.cell? ⟨g, 2, none⟩ = some c ∧ w.cell? ⟨g, 3, none⟩ = some d := by
  simp [World.cell?, show w.heap[g]? = _ from h]
theorem stc_ints (g i : Nat) (p : Option Addr) (l c : Nat) (w : World) (hc : ∃ u, w.cell? ⟨g, i, none⟩ = some u) (hf : w.frozen? ⟨g, i, none⟩ = false) : (Instr.storeAt 34 (.pointer (some ⟨g, i, none⟩)) (.slice p l c)).run Tryd.prog w = .ok () (w.setCell ⟨g, i, none⟩ (.slice p l c)) := by
  obtain ⟨u, hc⟩ := hc
  simp [go_sem, hc, hf]
theorem stc_keys (g i : Nat) (p : Option Addr) (l c : Nat) (w : World) (hc : ∃ u, w.cell? ⟨g, i, none⟩ = some u) (hf : w.frozen? ⟨g, i, none⟩ = false) : (Instr.storeAt 22 (.pointer (some ⟨g, i, none⟩)) (.slice p l c)).run Tryd.prog w = .ok () (w.setCell ⟨g, i, none⟩ (.slice p l c)) := by
  obtain ⟨u, hc⟩ := hc
  simp [go_sem, hc, hf]

theorem results_cellQ1 {fn : Func} {p : Tmp} {ty : TypeId} (h : fn.results = #[.cell p ty]) (tmps : Array Value) (P : Program) (w : World) (a : Addr) (v : Value) (ha : tmps.getD p undef = .pointer (some a)) (hl : (loadVar ty a).run P w = .ok v w) :
    (results fn tmps).run P w = .ok v w := by
  simp only [results, h]
  rw [Array.getD_eq_getD_getElem?] at ha
  simp [Sem.run_bind, Result.andThen]
  rw [ha]
  simp [asAddr, hl]

set_option maxHeartbeats 1000000 in
theorem sameKeyQ_any (id : Int) (a b : Option Addr) (n cap cap' : Nat) (top seen : Int) (S : List Int) (w : World) (ha : RdI w a n cap S) (hb : RdI w b n cap' S) :
    Calls Tryd.prog 45 #[kyV id a n cap top seen, kyV id b n cap' top seen] w fun e w' => e = .returned (.bool true) ∧ w.grownBy w' none := by
  have gA := grown_trans (World.grownBy_alloc w (.cells #[.int .i64 id, .slice a n cap, .int .i64 top, .int .i64 seen] 36) none) (World.grownBy_alloc _ (.cells #[.int .i64 id, .slice b n cap', .int .i64 top, .int .i64 seen] 36) none)
  have hS := sameInts_any a b n n cap cap' S _ (ha.keep gA) (hb.keep gA)
  have bx0 : ((w.alloc (.cells #[.int .i64 id, .slice a n cap, .int .i64 top, .int .i64 seen] 36)).alloc (.cells #[.int .i64 id, .slice b n cap', .int .i64 top, .int .i64 seen] 36)).heap[w.heap.size]? = some (.cells #[.int .i64 id, .slice a n cap, .int .i64 top, .int .i64 seen] 36) := by
    rw [(World.grownBy_alloc (w.alloc _) _ none).block w.heap.size (by simp) (by simp)]; exact heap_alloc_new w _
  have bx1 : ((w.alloc (.cells #[.int .i64 id, .slice a n cap, .int .i64 top, .int .i64 seen] 36)).alloc (.cells #[.int .i64 id, .slice b n cap', .int .i64 top, .int .i64 seen] 36)).heap[w.heap.size + 1]? = some (.cells #[.int .i64 id, .slice b n cap', .int .i64 top, .int .i64 seen] 36) := by
    have := heap_alloc_new (w.alloc (.cells #[.int .i64 id, .slice a n cap, .int .i64 top, .int .i64 seen] 36)) (.cells #[.int .i64 id, .slice b n cap', .int .i64 top, .int .i64 seen] 36)
    simpa using this
  go_enter Tryd.func45, Tryd.ntmps45
  go_wp2_with (go_at_call 61; refine hS.mono ?_; rintro e w3 ⟨rfl, g3⟩; have hx0 : w3.heap[w.heap.size]? = _ := (g3.block _ (by simp; omega) (by simp)).trans bx0; have hx1 : w3.heap[w.heap.size + 1]? = _ := (g3.block _ (by simp) (by simp)).trans bx1; have k02 : w3.cell? ⟨w.heap.size, 2, none⟩ = some (.int .i64 top) := (by rw [cell_of_row _ _ _ _ _ _ hx0]; rfl); have k03 : w3.cell? ⟨w.heap.size, 3, none⟩ = some (.int .i64 seen) := (by rw [cell_of_row _ _ _ _ _ _ hx0]; rfl); have k12 : w3.cell? ⟨w.heap.size + 1, 2, none⟩ = some (.int .i64 top) := (by rw [cell_of_row _ _ _ _ _ _ hx1]; rfl); have k13 : w3.cell? ⟨w.heap.size + 1, 3, none⟩ = some (.int .i64 seen) := (by rw [cell_of_row _ _ _ _ _ _ hx1]; rfl))
  go_ret
  exact ⟨rfl, grown_trans gA g3⟩
/-- 'append([]int(nil), x...)' whatever x is -/
theorem wpList_cpI (w : World) {ops : Array Oper} {rest : List Oper} {o : Oper} {a : Act} {Q : Exit → Act → World → Prop} (hg : o.guard = none) (s x : Operand)
    (hop : o.op = Op.call { callee := .builtin .append, args := #[s, x], argTypes := #[34, 34] }) (hs : a.eval s = .slice none 0 0) (xa : Option Addr) (n cap : Nat) (S : List Int) (hx : a.eval x = .slice xa n cap) (hp : RdI w xa n cap S) (hn : n ≤ 17592186044000)
    (hK : ∀ a' c' w', AnsZ w' w.heap.size a' n c' S → w.grownBy w' none → wpList Tryd.prog ops Q rest (a.put o.dst (.slice a' n c')) w') :
    wpList Tryd.prog ops Q (o :: rest) a w := by
  have hm1 := hp.le; have hm2 := hp.max
  unfold maxLen at hm2
  by_cases h0 : 0 < n
  · obtain ⟨b, off, e, hbw, hcc⟩ := hp.at' h0
    subst e
    have hl : (zys S).length = n := by rw [zys_length, hp.len]
    have hc : ∀ j u, (zys S)[j]? = some u → w.cell? ((⟨b, off, none⟩ : Addr).add j) = some u := by
      intro j u hu
      have hj : j < S.length := by
        have := (List.getElem?_eq_some_iff.1 hu).1
        rw [zys_length] at this; exact this
      rw [zys_at S j hj] at hu
      rw [← hu, addr_add]
      exact hcc j (by rw [← hp.len]; exact hj)
    refine wpList_apI _ hg _ _ hop (.slice none 0 0) 0 [] hs (World.ownsRow_nil _ _ _ _) ⟨b, off, none⟩ n cap (zys S) hx hl hc (zys_one S) h0 (by omega) ?_
    intro g c w1 hg1 hgr1 hown1
    simp only [Nat.zero_add, List.nil_append] at hown1 ⊢
    have hgl : w.heap.size ≤ g := by
      rcases hg1 with h | h
      · simp [Value.ownBlock] at h
      · exact h
    refine hK _ _ _ ⟨hown1, fun g' h => ?_⟩ hgr1
    have e : g = g' := Option.some.inj h
    omega
  · obtain rfl : n = 0 := by omega
    have hS : S = [] := List.eq_nil_of_length_eq_zero hp.len
    subst hS
    obtain ⟨i0, hi, hz0, hz1, hz2⟩ := info_parts Tryd.info_int
    cases xa with
    | none =>
      have hc0 : cap = 0 := hp.nil rfl
      subst hc0
      refine wpList_append_own_none hg _ _ 34 hop 0 3 i0 1 Tryd.underlying34 hi (.slice none 0 0) 0 [] hs (World.ownsRow_nil _ _ _ _) hx ?_
      exact hK _ _ _ (ansZ_nil _ _) (World.grownBy.refl _ _)
    | some ad =>
      refine wpList_append_own w hg _ _ 34 hop w.heap.size 3 i0 (.int .i64 0) 1 8 Tryd.underlying34 hi hz0 hz1 hz2 rfl (by decide) (.slice none 0 0) 0 [] hs (World.ownsRow_nil _ _ _ _) ad 0 cap [] hx rfl (fun j u h => by simp at h) (fun u h => by simp at h) (by unfold maxLen; omega) (by omega) (Nat.le_refl _) ?_
      intro v' w' hown' hgr hnil
      have hv : v' = .slice none 0 0 := hnil.2 ⟨rfl, rfl⟩
      subst hv
      exact hK _ _ _ (ansZ_nil _ _) hgr
theorem map_d_at {ks : List Kw} {R : List Kd} (h : ks.map Kw.d = R) (i : Nat) (hi : i < ks.length) : ∃ k, ks[i]? = some k ∧ R[i]? = some k.d := by
  refine ⟨_, List.getElem?_eq_getElem hi, ?_⟩
  rw [← h, List.getElem?_map, List.getElem?_eq_getElem hi]; rfl
set_option maxHeartbeats 16000000 in
theorem sameRing_any (a b : Option Addr) (n m c c' : Nat) (R : List Kd) (w : World) (h : RdG w a n c R) (hk2 : RdG w b m c' R) :
    Calls Tryd.prog 30 #[.agg #[.slice a n c], .agg #[.slice b m c']] w fun e w' => e = .returned (.bool true) ∧ w.grownBy w' none := by
  obtain rfl : n = m := by rw [← h.len, hk2.len]
  obtain ⟨ks, h1, h2⟩ := h.ex
  obtain ⟨ls, k1, k2⟩ := hk2.ex
  have hl1 := h1.len
  have hl2 := k1.len
  have b0 := BxS.new w 24 #[.slice a n c]
  have g0 := World.grownBy_alloc w (.cells #[.slice a n c] 24) none
  generalize hw0 : w.alloc (.cells #[.slice a n c] 24) = w0 at b0 g0
  have hz0 : w0.heap.size = w.heap.size + 1 := by rw [← hw0]; simp
  have b1 := BxS.new w0 24 #[.slice b n c']
  have g1 := World.grownBy_alloc w0 (.cells #[.slice b n c'] 24) none
  generalize hw1 : w0.alloc (.cells #[.slice b n c'] 24) = w1 at b1 g1
  rw [hz0] at b1
  have p0 := b0.keep g1 (by simp)
  have G1 := grown_trans g0 g1
  have H1 := h1.keep G1
  have K1 := k1.keep G1
  have x0 : w1.cell? ⟨w.heap.size, 0, none⟩ = some (.slice a n c) := p0.cell 0 (by show 0 < 1; decide)
  have x1 : w1.cell? ⟨w.heap.size + 1, 0, none⟩ = some (.slice b n c') := b1.cell 0 (by show 0 < 1; decide)
  have hmm : maxLen ≤ 9223372036854775807 := by decide
  have hle := h1.le
  have hmx := h1.max
  go_enter Tryd.func30, Tryd.ntmps30
  go_wp2
  clear x0 x1
  go_loopw [5] (fun iv wr => ∃ (k : Nat), iv = .int .i64 k ∧ k ≤ n ∧ w1.grownBy wr none) (fun iv _ => n - (intOf iv).toNat)
  case atStart => exact ⟨0, by go_num, Nat.zero_le _, World.grownBy.refl _ _⟩
  case round =>
    clear h hk2
    obtain ⟨k, rfl, hk, yr⟩ := hrel
    have B0 := p0.keep yr (by simp)
    have B1 := b1.keep yr (by simp)
    have x0 : wr.cell? ⟨w.heap.size, 0, none⟩ = some (.slice a n c) := B0.cell 0 (by show 0 < 1; decide)
    by_cases hlt : k < n
    · have hlt' : (k : Int) < (n : Int) := by omega
      obtain ⟨kk, hi, hd1⟩ := map_d_at h2 k (by omega)
      obtain ⟨ll, hj, hd2⟩ := map_d_at k2 k (by omega)
      have hm1 : kk ∈ ks := List.mem_of_getElem? hi
      have hm2 : ll ∈ ls := List.mem_of_getElem? hj
      obtain ⟨ba, oa, ea, _⟩ := H1.at' (by omega)
      obtain ⟨bb, ob, eb, _⟩ := K1.at' (by omega)
      subst ea
      subst eb
      have HA := H1.keep yr
      have HB := K1.keep yr
      have ed : kk.d = ll.d := Option.some.inj (hd1.symm.trans hd2)
      have eid : kk.id = ll.id := congrArg Kd.id ed
      have eW : kk.W = ll.W := congrArg Kd.W ed
      have etp : kk.tp = ll.tp := congrArg Kd.tp ed
      have esn : kk.sn = ll.sn := congrArg Kd.sn ed
      have en : kk.n = ll.n := by rw [← (HA.ws kk hm1).len, ← (HB.ws ll hm2).len, eW]
      have kS := fun wz (hg : wr.grownBy wz none) => sameKeyQ_any kk.id kk.a ll.a kk.n kk.c ll.c kk.tp kk.sn kk.W wz ((HA.ws kk hm1).keep hg) (by rw [en, eW]; exact (HB.ws ll hm2).keep hg)
      have hwk : IntKind.i64.wrap ((k : Int) + 1) = (k : Int) + 1 := wrap_i64_in _ (by omega) (by omega)
      have HID : Hid (ll.id = kk.id ∧ ll.n = kk.n ∧ ll.tp = kk.tp ∧ ll.sn = kk.sn) := ⟨eid.symm, en.symm, etp.symm, esn.symm⟩
      clear ed eid eW etp esn en hd1 hd2
      have SS := grown_drew wr none
      go_wp2
      refine wp_regionL (fun wz => wr.grownBy wz none) [] #[false, false, false, false, false, false, false, false, false, false, false, false] rfl (by kernel_rfl) ?_
      refine wpAnyZ_take [] 0 (.pointer (some ⟨w.heap.size, 0, none⟩)) rfl (by kernel_rfl) (fun _ _ _ h => h) SS rfl (by intro wz hz; have p0 := (B0.keep hz (by simp)).cell 0 (by show 0 < 1; decide); have p1 := (B1.keep hz (by simp)).cell 0 (by show 0 < 1; decide); have p0 : wz.cell? ⟨w.heap.size, 0, none⟩ = some (.slice (some ⟨ba, oa, none⟩) n c) := p0; have p1 : wz.cell? ⟨w.heap.size + 1, 0, none⟩ = some (.slice (some ⟨bb, ob, none⟩) n c') := p1; obtain ⟨q0, q1, q2, q3⟩ := (HA.keep hz).four hi; obtain ⟨r0, r1, r2, r3⟩ := (HB.keep hz).four hj; go_simp) ?_
      try simp only [List.getElem_toArray, List.getElem_cons_succ, List.getElem_cons_zero, Act.put, List.setIfInBounds_toArray, List.set_cons_zero, List.set_cons_succ]
      refine wpAnyZ_take [] 1 (.slice (some ⟨ba, oa, none⟩) n c) rfl (by kernel_rfl) (fun _ _ _ h => h) SS rfl (by intro wz hz; have p0 := (B0.keep hz (by simp)).cell 0 (by show 0 < 1; decide); have p1 := (B1.keep hz (by simp)).cell 0 (by show 0 < 1; decide); have p0 : wz.cell? ⟨w.heap.size, 0, none⟩ = some (.slice (some ⟨ba, oa, none⟩) n c) := p0; have p1 : wz.cell? ⟨w.heap.size + 1, 0, none⟩ = some (.slice (some ⟨bb, ob, none⟩) n c') := p1; obtain ⟨q0, q1, q2, q3⟩ := (HA.keep hz).four hi; obtain ⟨r0, r1, r2, r3⟩ := (HB.keep hz).four hj; go_simp) ?_
      try simp only [List.getElem_toArray, List.getElem_cons_succ, List.getElem_cons_zero, Act.put, List.setIfInBounds_toArray, List.set_cons_zero, List.set_cons_succ]
      refine wpAnyZ_take [] 2 (.int .i64 (k : Int)) rfl (by kernel_rfl) (fun _ _ _ h => h) SS rfl (by intro wz hz; have p0 := (B0.keep hz (by simp)).cell 0 (by show 0 < 1; decide); have p1 := (B1.keep hz (by simp)).cell 0 (by show 0 < 1; decide); have p0 : wz.cell? ⟨w.heap.size, 0, none⟩ = some (.slice (some ⟨ba, oa, none⟩) n c) := p0; have p1 : wz.cell? ⟨w.heap.size + 1, 0, none⟩ = some (.slice (some ⟨bb, ob, none⟩) n c') := p1; obtain ⟨q0, q1, q2, q3⟩ := (HA.keep hz).four hi; obtain ⟨r0, r1, r2, r3⟩ := (HB.keep hz).four hj; go_simp) ?_
      try simp only [List.getElem_toArray, List.getElem_cons_succ, List.getElem_cons_zero, Act.put, List.setIfInBounds_toArray, List.set_cons_zero, List.set_cons_succ]
      refine wpAnyZ_take [] 3 (.pointer (some ⟨ba, oa + k * 4, none⟩)) rfl (by kernel_rfl) (fun _ _ _ h => h) SS rfl (by intro wz hz; have p0 := (B0.keep hz (by simp)).cell 0 (by show 0 < 1; decide); have p1 := (B1.keep hz (by simp)).cell 0 (by show 0 < 1; decide); have p0 : wz.cell? ⟨w.heap.size, 0, none⟩ = some (.slice (some ⟨ba, oa, none⟩) n c) := p0; have p1 : wz.cell? ⟨w.heap.size + 1, 0, none⟩ = some (.slice (some ⟨bb, ob, none⟩) n c') := p1; obtain ⟨q0, q1, q2, q3⟩ := (HA.keep hz).four hi; obtain ⟨r0, r1, r2, r3⟩ := (HB.keep hz).four hj; go_simp) ?_
      try simp only [List.getElem_toArray, List.getElem_cons_succ, List.getElem_cons_zero, Act.put, List.setIfInBounds_toArray, List.set_cons_zero, List.set_cons_succ]
      refine wpAnyZ_take [] 4 (.agg #[.int .i64 kk.id, .slice kk.a kk.n kk.c, .int .i64 kk.tp, .int .i64 kk.sn]) rfl (by kernel_rfl) (fun _ _ _ h => h) SS rfl (by intro wz hz; have p0 := (B0.keep hz (by simp)).cell 0 (by show 0 < 1; decide); have p1 := (B1.keep hz (by simp)).cell 0 (by show 0 < 1; decide); have p0 : wz.cell? ⟨w.heap.size, 0, none⟩ = some (.slice (some ⟨ba, oa, none⟩) n c) := p0; have p1 : wz.cell? ⟨w.heap.size + 1, 0, none⟩ = some (.slice (some ⟨bb, ob, none⟩) n c') := p1; obtain ⟨q0, q1, q2, q3⟩ := (HA.keep hz).four hi; obtain ⟨r0, r1, r2, r3⟩ := (HB.keep hz).four hj; go_simp) ?_
      try simp only [List.getElem_toArray, List.getElem_cons_succ, List.getElem_cons_zero, Act.put, List.setIfInBounds_toArray, List.set_cons_zero, List.set_cons_succ]
      refine wpAnyZ_take [] 5 (.pointer (some ⟨w.heap.size + 1, 0, none⟩)) rfl (by kernel_rfl) (fun _ _ _ h => h) SS rfl (by intro wz hz; have p0 := (B0.keep hz (by simp)).cell 0 (by show 0 < 1; decide); have p1 := (B1.keep hz (by simp)).cell 0 (by show 0 < 1; decide); have p0 : wz.cell? ⟨w.heap.size, 0, none⟩ = some (.slice (some ⟨ba, oa, none⟩) n c) := p0; have p1 : wz.cell? ⟨w.heap.size + 1, 0, none⟩ = some (.slice (some ⟨bb, ob, none⟩) n c') := p1; obtain ⟨q0, q1, q2, q3⟩ := (HA.keep hz).four hi; obtain ⟨r0, r1, r2, r3⟩ := (HB.keep hz).four hj; go_simp) ?_
      try simp only [List.getElem_toArray, List.getElem_cons_succ, List.getElem_cons_zero, Act.put, List.setIfInBounds_toArray, List.set_cons_zero, List.set_cons_succ]
      refine wpAnyZ_take [] 6 (.slice (some ⟨bb, ob, none⟩) n c') rfl (by kernel_rfl) (fun _ _ _ h => h) SS rfl (by intro wz hz; have p0 := (B0.keep hz (by simp)).cell 0 (by show 0 < 1; decide); have p1 := (B1.keep hz (by simp)).cell 0 (by show 0 < 1; decide); have p0 : wz.cell? ⟨w.heap.size, 0, none⟩ = some (.slice (some ⟨ba, oa, none⟩) n c) := p0; have p1 : wz.cell? ⟨w.heap.size + 1, 0, none⟩ = some (.slice (some ⟨bb, ob, none⟩) n c') := p1; obtain ⟨q0, q1, q2, q3⟩ := (HA.keep hz).four hi; obtain ⟨r0, r1, r2, r3⟩ := (HB.keep hz).four hj; go_simp) ?_
      try simp only [List.getElem_toArray, List.getElem_cons_succ, List.getElem_cons_zero, Act.put, List.setIfInBounds_toArray, List.set_cons_zero, List.set_cons_succ]
      refine wpAnyZ_take [] 7 (.int .i64 (k : Int)) rfl (by kernel_rfl) (fun _ _ _ h => h) SS rfl (by intro wz hz; have p0 := (B0.keep hz (by simp)).cell 0 (by show 0 < 1; decide); have p1 := (B1.keep hz (by simp)).cell 0 (by show 0 < 1; decide); have p0 : wz.cell? ⟨w.heap.size, 0, none⟩ = some (.slice (some ⟨ba, oa, none⟩) n c) := p0; have p1 : wz.cell? ⟨w.heap.size + 1, 0, none⟩ = some (.slice (some ⟨bb, ob, none⟩) n c') := p1; obtain ⟨q0, q1, q2, q3⟩ := (HA.keep hz).four hi; obtain ⟨r0, r1, r2, r3⟩ := (HB.keep hz).four hj; go_simp) ?_
      try simp only [List.getElem_toArray, List.getElem_cons_succ, List.getElem_cons_zero, Act.put, List.setIfInBounds_toArray, List.set_cons_zero, List.set_cons_succ]
      refine wpAnyZ_take [] 8 (.pointer (some ⟨bb, ob + k * 4, none⟩)) rfl (by kernel_rfl) (fun _ _ _ h => h) SS rfl (by intro wz hz; have p0 := (B0.keep hz (by simp)).cell 0 (by show 0 < 1; decide); have p1 := (B1.keep hz (by simp)).cell 0 (by show 0 < 1; decide); have p0 : wz.cell? ⟨w.heap.size, 0, none⟩ = some (.slice (some ⟨ba, oa, none⟩) n c) := p0; have p1 : wz.cell? ⟨w.heap.size + 1, 0, none⟩ = some (.slice (some ⟨bb, ob, none⟩) n c') := p1; obtain ⟨q0, q1, q2, q3⟩ := (HA.keep hz).four hi; obtain ⟨r0, r1, r2, r3⟩ := (HB.keep hz).four hj; go_simp) ?_
      try simp only [List.getElem_toArray, List.getElem_cons_succ, List.getElem_cons_zero, Act.put, List.setIfInBounds_toArray, List.set_cons_zero, List.set_cons_succ]
      refine wpAnyZ_take [] 9 (.agg #[.int .i64 kk.id, .slice ll.a kk.n ll.c, .int .i64 kk.tp, .int .i64 kk.sn]) rfl (by kernel_rfl) (fun _ _ _ h => h) SS rfl (by intro wz hz; have p0 := (B0.keep hz (by simp)).cell 0 (by show 0 < 1; decide); have p1 := (B1.keep hz (by simp)).cell 0 (by show 0 < 1; decide); have p0 : wz.cell? ⟨w.heap.size, 0, none⟩ = some (.slice (some ⟨ba, oa, none⟩) n c) := p0; have p1 : wz.cell? ⟨w.heap.size + 1, 0, none⟩ = some (.slice (some ⟨bb, ob, none⟩) n c') := p1; obtain ⟨q0, q1, q2, q3⟩ := (HA.keep hz).four hi; obtain ⟨r0, r1, r2, r3⟩ := (HB.keep hz).four hj; obtain ⟨hi1, hi2, hi3, hi4⟩ := HID.out; rw [hi1] at r0; rw [hi2] at r1; rw [hi3] at r2; rw [hi4] at r3; go_simp) ?_
      try simp only [List.getElem_toArray, List.getElem_cons_succ, List.getElem_cons_zero, Act.put, List.setIfInBounds_toArray, List.set_cons_zero, List.set_cons_succ]
      refine wpAnyZ_oneB 10 rfl (by kernel_rfl) (fun K hK => ?_)
      go_simp
      go_at_call 45
      refine (kS _ SS).mono ?_
      rintro e w4 ⟨rfl, y4⟩
      dsimp only
      have SS := grown_trans SS y4
      refine hK _ _ (fun _ => SS) ?_
      try simp only [List.getElem_toArray, List.getElem_cons_succ, List.getElem_cons_zero, Act.put, List.setIfInBounds_toArray, List.set_cons_zero, List.set_cons_succ]
      refine wpAnyZ_take [] 11 (.bool false) rfl (by kernel_rfl) (fun _ _ _ h => h) SS rfl (by intro wz hz; go_simp) ?_
      try simp only [List.getElem_toArray, List.getElem_cons_succ, List.getElem_cons_zero, Act.put, List.setIfInBounds_toArray, List.set_cons_zero, List.set_cons_succ]
      refine wpAnyZ_doneB (by kernel_rfl) ?_ _
      go_wp2
      go_roundw
      case rel => exact ⟨k + 1, by go_num, by omega, grown_trans yr SS⟩
      case measure => simp [intOf]; omega
    · have hlt' : ¬ (k : Int) < (n : Int) := by omega
      go_wp2
      go_ret
      exact ⟨rfl, grown_trans G1 yr⟩
/-- sizes that fit -/
def FitG (R : List Kd) : Prop := ∀ k, k ∈ R → k.W.length ≤ 17592186044000
set_option maxHeartbeats 16000000 in
/-- RingOf -/
theorem ringOf_any (a : Option Addr) (n c : Nat) (R : List Kd) (w : World) (h : RdG w a n c R) (hF : FitG R) (hn : n * 48 ≤ 140737488351232) :
    Calls Tryd.prog 17 #[.agg #[.slice a n c]] w fun e w' => ∃ (a' : Option Addr) (c' : Nat) (ks' : List Kw), e = .returned (.agg #[.slice a' n c']) ∧ OwG w' w.heap.size a' n c' ks' R ∧ w.grownBy w' none := by
  obtain ⟨ks, h1, h2⟩ := h.ex
  have hl1 := h1.len
  have b0 := BxS.new w 24 #[.slice a n c]
  have g0 := World.grownBy_alloc w (.cells #[.slice a n c] 24) none
  generalize hw0 : w.alloc (.cells #[.slice a n c] 24) = w0 at b0 g0
  have hz0 : w0.heap.size = w.heap.size + 1 := by rw [← hw0]; simp
  have b1 := BxS.new w0 24 #[.slice none 0 0]
  have g1 := World.grownBy_alloc w0 (.cells #[.slice none 0 0] 24) none
  generalize hw1 : w0.alloc (.cells #[.slice none 0 0] 24) = w1 at b1 g1
  rw [hz0] at b1
  have sz1 : w.heap.size + 2 ≤ w1.heap.size := by rw [← hw1]; simp [hz0]
  have p0 := b0.keep g1 (by simp)
  have G1 := grown_trans g0 g1
  have H1 := h1.keep G1
  have i4 := Tryd.info_ky4
  have i1 := Tryd.info_rg1
  have hmm : maxLen ≤ 9223372036854775807 := by decide
  have hle := h1.le
  have hmx := h1.max
  clear h
  go_enter Tryd.func17, Tryd.ntmps17
  go_wp2
  go_loopw [3, 4] (fun lv iv wr => ∃ (k : Nat) (a' : Option Addr) (c' : Nat) (ks' : List Kw), lv = .slice a' k c' ∧ iv = .int .i64 k ∧ k ≤ n ∧ OwG wr w1.heap.size a' k c' ks' (R.take k) ∧ w1.grownBy wr none) (fun _ iv _ => n - (intOf iv).toNat)
  case atStart => exact ⟨0, none, 0, [], rfl, by go_num, Nat.zero_le _, OwG.nil _ _, World.grownBy.refl _ _⟩
  case round =>
    obtain ⟨k, a', c', ks', rfl, rfl, hk, hO, yr⟩ := hrel
    have B0 := p0.keep yr (by simp)
    have x0 : wr.cell? ⟨w.heap.size, 0, none⟩ = some (.slice a n c) := B0.cell 0 (by show 0 < 1; decide)
    by_cases hlt : k < n
    · have hlt' : (k : Int) < (n : Int) := by omega
      obtain ⟨kk, hi, hd1⟩ := map_d_at h2 k (by omega)
      have hm1 : kk ∈ ks := List.mem_of_getElem? hi
      obtain ⟨ba, oa, ea, _⟩ := H1.at' (by omega)
      subst ea
      have HA := H1.keep yr
      obtain ⟨q0, q1, q2, q3⟩ := HA.four hi
      have hW := HA.ws kk hm1
      have hwn : kk.n ≤ 17592186044000 := by
        have := hF kk.d (by rw [← h2]; exact List.mem_map_of_mem hm1)
        rw [← hW.len]; exact this
      have hwk : IntKind.i64.wrap ((k : Int) + 1) = (k : Int) + 1 := wrap_i64_in _ (by omega) (by omega)
      have etk : R.take (k + 1) = R.take k ++ [kk.d] := by rw [List.take_add_one, hd1]; rfl
      have HTK : Hid (R.take (k + 1) = R.take k ++ [kk.d]) := etk
      clear etk hd1
      have b5 := BxS.new wr 36 #[.int .i64 0, .slice none 0 0, .int .i64 0, .int .i64 0]
      have g5 := World.grownBy_alloc wr (.cells #[.int .i64 0, .slice none 0 0, .int .i64 0, .int .i64 0] 36) none
      have s0 : True := trivial
      go_wp2_with (first
        | (have _t := s0; clear s0; refine wpList_stX _ rfl _ (.tmp 5) (.tmp 17) rfl wr.heap.size _ _ rfl rfl b5 i4 rfl (by simp [Value.oneCell']) ?_; intro w5 b6 u6; have Y6 := grown_far g5 u6 (fun q e => by have e := Option.some.inj e; omega); have hW6 := hW.keep Y6; obtain ⟨t0, t1, t2, t3⟩ := BxS.cell4 b6; clear q0 q1 q2 q3; have s1 : True := trivial)
        | (at_builtin; have _t := s1; clear s1; refine wpList_cpI _ rfl _ _ rfl rfl kk.a kk.n kk.c kk.W rfl hW6 hwn ?_; intro xa xc w7 hX7 y7; have b7 := b6.keep y7 (by simp); clear t0 t1 t2 t3; have s2 : True := trivial)
        | (have _t := s2; clear s2; refine wpList_stC _ rfl _ _ _ rfl wr.heap.size 1 36 _ #[.int .i64 kk.id, .slice xa kk.n xc, .int .i64 kk.tp, .int .i64 kk.sn] (.slice xa kk.n xc) rfl rfl b7 (stc_ints _ _ _ _ _) (by show 1 < 4; decide) rfl ?_; intro w8 b8 u8; obtain ⟨t0, t1, t2, t3⟩ := BxS.cell4 b8; have s3 : True := trivial)
        | (at_builtin; have _t := s3; clear s3; have Y7 := grown_trans Y6 y7; have hzr := Y7.size; have hO7 := hO.o.keep Y7; have sz1r := yr.size; have hO8 := hO7.kept u8 (fun x e hx => by have e := Option.some.inj e; subst e; have := (hO.o.hi hx).1; omega); have hX8 := (hX7.wide (show w1.heap.size ≤ w5.heap.size by have := Y6.size; omega)).kept u8 (by cases e2 : (Value.slice xa kk.n xc).ownBlock with | none => exact .inl rfl | some x => exact .inr (fun e3 => by have e3 := Option.some.inj e3; subst e3; exact hX7.box b7 (by decide) e2)); refine wpList_psK w8 w1.heap.size ⟨kk.id, xa, kk.n, xc, kk.W, kk.tp, kk.sn⟩ rfl _ _ rfl a' k c' ks' rfl hO8 (by have := u8.size; omega) rfl (by omega) _ rfl hX8 (HA.bd kk hm1) (fun q hq y hy e => by have h9 := (hO.o.hi (.inr ⟨q, hq, hy⟩)).1; have h10 := hX7.new y e; have := Y6.size; omega) ?_; intro gx cx w9 hO9 u9 hgx))
      refine ⟨⟨k + 1, _, cx, _, rfl, by go_num, by omega, ⟨hO9, ?_⟩, ?_⟩, by simp [intOf]; omega⟩
      · rw [HTK.out, List.map_append, hO.d]; rfl
      · exact grown_far (grown_far (grown_trans yr Y7) u8 (fun q e => by have e := Option.some.inj e; omega)) u9 (fun q e => hO8.new q e)
    · have hlt' : ¬ (k : Int) < (n : Int) := by omega
      obtain rfl : k = n := by omega
      have B1 := b1.keep yr (by simp)
      go_wp2_with (refine wpList_stX _ rfl _ (.tmp 2) (.tmp 27) rfl (w.heap.size + 1) _ _ rfl rfl B1 i1 rfl (by simp [Value.oneCell']) ?_; intro w9 b9 u9)
      refine bodyPost_ret (results_cellQ1 rfl _ _ _ ⟨w.heap.size + 1, 0, none⟩ _ rfl (BxS.load (t := 24) b9 Tryd.underlying24 i1)) rfl ?_
      have hlR : R.length = k := by rw [← h2, List.length_map]; exact hl1
      have h9 := hO.o.kept u9 (fun x e hx => by have e := Option.some.inj e; subst e; have := (hO.o.hi hx).2; omega)
      exact ⟨a', c', rfl, ⟨ks', ⟨h9.wide (by omega), by rw [hO.d, List.take_of_length_le (by omega)]⟩⟩, grown_far (grown_trans G1 yr) u9 (fun q e => by have e := Option.some.inj e; omega)⟩

open Go.RowKit Go.Maps
/-- may a key be? -/
def kdB (k : Kd) : Bool := kmB k.id k.W.length k.W k.tp k.sn
def kd0 : Kd := ⟨0, [], 0, 0⟩
/-- has one of the first k keys that ID? -/
def hasI (R : List Kd) (k : Nat) (z : Int) : Bool := (R.take k).any (fun x => decide (x.id = z))
def rmA (R : List Kd) : Nat → Bool
  | 0 => true
  | k + 1 => rmA R k && (kdB (R.getD k kd0) && !hasI R k (R.getD k kd0).id)
/-- may a ring be? -/
def rmB (R : List Kd) : Bool := decide (R.length ≤ 8) && rmA R R.length
theorem rmA_false (R : List Kd) {k : Nat} (h : rmA R k = false) (n : Nat) (hn : k ≤ n) : rmA R n = false := by
  induction n with
  | zero => obtain rfl : k = 0 := by omega
            exact h
  | succ n ih =>
    by_cases e : k = n + 1
    · subst e; exact h
    · show (rmA R n && _) = false
      rw [ih (by omega)]; rfl
theorem hasI_step (R : List Kd) (k : Nat) (x : Kd) (h : R[k]? = some x) (z : Int) : hasI R (k + 1) z = (hasI R k z || decide (x.id = z)) := by
  unfold hasI
  rw [List.take_add_one, h, List.any_append]
  simp
theorem law3 : Keyed Tryd.prog 3 := int_keyed Tryd.underlying3
theorem zero3 (w : World) : (zeroValue 3).run Tryd.prog w = .ok (.int .i64 0) w := by kernel_rfl
/-- a map that counts the IDs of the first k keys -/
structure Mc (w : World) (B : Nat) (R : List Kd) (k : Nat) (D : DataW Unit) : Prop where
  own : w.ownsMap Tryd.prog 3 (plainElem Tryd.prog 3) B k D
  cnt : ∀ z, D.atKey (.int .i64 z) (.lit (.int .i64 0)) = .lit (.int .i64 (if hasI R k z = true then 1 else 0))
theorem Mc.keep {w w' : World} {B k : Nat} {R : List Kd} {D : DataW Unit} {r : Option Nat} (h : Mc w B R k D) (hg : w.grownBy w' r) (hne : some B ≠ r) : Mc w' B R k D := ⟨h.own.kept hg hne, h.cnt⟩
theorem Mc.at' {w : World} {B k : Nat} {R : List Kd} {D : DataW Unit} (h : Mc w B R k D) {z c : Int} (hat : D.atKey (.int .i64 z) (.lit (.int .i64 0)) = .lit (.int .i64 c)) : c = if hasI R k z = true then 1 else 0 := by
  rw [h.cnt z] at hat
  injection hat with hat
  injection hat with _ hat
  exact hat.symm
theorem Mc.put {w w' : World} {B k : Nat} {R : List Kd} {D : DataW Unit} (h : Mc w B R k D) {x : Kd} (hx : R[k]? = some x) (hn : hasI R k x.id = false) (hI : (Lit.int .i64 x.id).wf = true) (ho : w'.ownsMap Tryd.prog 3 (plainElem Tryd.prog 3) B (k + 1) (D.put (.int .i64 x.id) (.lit (.int .i64 1)))) : Mc w' B R (k + 1) (D.put (.int .i64 x.id) (.lit (.int .i64 1))) := by
  refine ⟨ho, fun z => ?_⟩
  rw [hasI_step R k x hx]
  by_cases e : z = x.id
  · subst e
    rw [Maps.atKey_put_same h.own.isMap (by trivial)]
    simp
  · rw [Maps.atKey_put_other (fun e2 => e (by injection e2)), h.cnt z]
    have e' : decide (x.id = z) = false := decide_eq_false (fun h => e h.symm)
    rw [e', Bool.or_false]
set_option maxHeartbeats 32000000 in
theorem ringMayBe_any (a : Option Addr) (n c : Nat) (R : List Kd) (w : World) (h : RdG w a n c R) :
    Calls Tryd.prog 20 #[.agg #[.slice a n c]] w fun e w' => e = .returned (.bool (rmB R)) ∧ w.grownBy w' none := by
  obtain ⟨ks, h1, h2⟩ := h.ex
  have hl1 := h1.len
  have hlR := h.len
  have b0 := BxS.new w 24 #[.slice a n c]
  have g0 := World.grownBy_alloc w (.cells #[.slice a n c] 24) none
  generalize hw0 : w.alloc (.cells #[.slice a n c] 24) = w0 at b0 g0
  have hz0 : w0.heap.size = w.heap.size + 1 := by rw [← hw0]; simp
  have x0 : w0.cell? ⟨w.heap.size, 0, none⟩ = some (.slice a n c) := b0.cell 0 (by show 0 < 1; decide)
  by_cases h8 : n ≤ 8
  · have h8' : ¬ (8 : Int) < (n : Int) := by omega
    have HRB : Hid (rmB R = rmA R n) := by show _ = _; unfold rmB; rw [hlR, decide_eq_true h8]; rfl
    have hmm := @run_makeMap Tryd.prog
    have gm := World.grownBy_alloc w0 (.map #[] 0) none
    have hm0 : Mc (w0.alloc (.map #[] 0)) w0.heap.size R 0 (.map []) := ⟨World.ownsMap_made _ _ _ _, fun z => by simp [hasI]; rfl⟩
    have B0 := b0.keep gm (by simp)
    have G1 := grown_trans g0 gm
    have i4 := Tryd.info_ky4
    go_enter Tryd.func20, Tryd.ntmps20
    go_wp2
    clear x0
    generalize w0.alloc (.map #[] 0) = w1 at *
    rw [hz0] at hm0
    have hle := h1.le
    have hmx := h1.max
    clear h B0
    go_loopw [14] (fun iv wr => ∃ (k : Nat) (D : DataW Unit), iv = .int .i64 k ∧ k ≤ n ∧ rmA R k = true ∧ Mc wr (w.heap.size + 1) R k D ∧ w0.grownBy wr none) (fun iv _ => n - (intOf iv).toNat)
    case atStart => exact ⟨0, _, by go_num, Nat.zero_le _, rfl, hm0, gm⟩
    case round =>
      obtain ⟨k, D, rfl, hk, hok, hM, yr⟩ := hrel
      by_cases hlt : k < n
      · have hlt' : (k : Int) < (n : Int) := by omega
        obtain ⟨kk, hi, hd1⟩ := map_d_at h2 k (by omega)
        have hm1 : kk ∈ ks := List.mem_of_getElem? hi
        have H0 := (h1.keep g0).keep yr
        obtain ⟨ba, oa, ea, _⟩ := H0.at' (by omega)
        subst ea
        obtain ⟨q0, q1, q2, q3⟩ := H0.four hi
        have hW := H0.ws kk hm1
        have hI := WalkArith.wf_i64 (H0.bd kk hm1).1
        have hkey : keyOf Tryd.prog 3 (.int .i64 kk.id) = some (.int .i64 kk.id) := keyOf_int_mk Tryd.underlying3 hI
        have hwk : IntKind.i64.wrap ((k : Int) + 1) = (k : Int) + 1 := wrap_i64_in _ (by omega) (by omega)
        have eg : R.getD k kd0 = kk.d := by rw [List.getD_eq_getElem?_getD, hd1]; rfl
        have HS : Hid (rmA R (k + 1) = (kdB kk.d && !hasI R k kk.id)) := by show (rmA R k && (kdB (R.getD k kd0) && !hasI R k (R.getD k kd0).id)) = _; rw [hok, eg]; rfl
        have kM := fun wz hz => keyMayBe_any kk.id kk.a kk.n kk.c kk.tp kk.sn kk.W wz hz
        have ekb : kmB kk.id kk.n kk.W kk.tp kk.sn = kdB kk.d := by unfold kdB; rw [← hW.len]; rfl
        rw [ekb] at kM
        have HD1 : Hid (R[k]? = some kk.d) := hd1
        clear eg ekb hd1
        have b5 := BxS.new wr 36 #[.int .i64 0, .slice none 0 0, .int .i64 0, .int .i64 0]
        have g5 := World.grownBy_alloc wr (.cells #[.int .i64 0, .slice none 0 0, .int .i64 0, .int .i64 0] 36) none
        have szr := yr.size
        have hBl := hM.own.lt
        obtain ⟨cc, hcc⟩ : ∃ cc : Int, cc = if hasI R k kk.id = true then 1 else 0 := ⟨_, rfl⟩
        have hc01 : 0 ≤ cc ∧ cc ≤ 1 := by rw [hcc]; split <;> omega
        have hwc1 : IntKind.i64.wrap (cc + 1) = cc + 1 := wrap_i64_in _ (by omega) (by omega)
        have HCC : Hid (cc = if hasI R k kk.id = true then 1 else 0) := hcc
        clear hcc
        cases hkb : kdB kk.d with
        | false =>
          rw [hkb] at kM
          have s0 : True := trivial
          go_wp2_with (first
            | (have _t := s0; clear s0; refine wpList_stX _ rfl _ (.tmp 5) (.tmp 17) rfl wr.heap.size _ _ rfl rfl b5 i4 rfl (by simp [Value.oneCell']) ?_; intro w5 b5 u5; have Y5 := grown_far g5 u5 (fun q e => by have e := Option.some.inj e; omega); have hM5 := hM.keep Y5 (by simp); obtain ⟨t0, t1, t2, t3⟩ := BxS.cell4 b5; clear q0 q1 q2 q3; have s1 : True := trivial)
            | (at_lookup; have _t := s1; clear s1; refine wpList_lookup_own_int _ rfl _ _ 65 rfl 3 3 .i64 law3 Tryd.underlying65 Tryd.underlying3 (zero3 _) (w.heap.size + 1) k D rfl hM5.own _ _ rfl hkey ?_; intro c hat hwc; have ec := hM5.at' hat; rw [← HCC.out] at ec; subst ec; have s2 : True := trivial)
            | (at_mapUpdate; have _t := s2; clear s2; refine wpList_mapUpdate_own _ rfl _ _ _ 65 rfl 3 3 law3 Tryd.underlying65 _ (w.heap.size + 1) k D rfl hM5.own (by unfold maxLen; omega) _ _ _ rfl rfl hkey _ [] (plainElem_int Tryd.underlying3 (WalkArith.wf_i64 (by omega))) ?_; intro w6 hown6 u6; have b6 := b5.keep u6 (fun e => by have e := Option.some.inj e; omega); clear t0 t1 t2 t3; obtain ⟨t0, t1, t2, t3⟩ := BxS.cell4 b6; have s3 : True := trivial)
            | (go_at_call 33; have _t := s3; clear s3; refine (kM _ (((h1.keep g0).keep (grown_far (grown_trans yr Y5) u6 (fun q e => by have e := Option.some.inj e; omega))).ws kk hm1)).mono ?_; rintro e w7 ⟨rfl, y7⟩; have b7 := b6.keep y7 (by simp); clear t0 t1 t2 t3; obtain ⟨t0, t1, t2, t3⟩ := BxS.cell4 b7; skip))
          go_ret
          have YF := grown_trans (grown_far (grown_trans yr Y5) u6 (fun q e => by have e := Option.some.inj e; omega)) y7
          exact ⟨by rw [HRB.out, rmA_false R (k := k + 1) (by rw [HS.out, hkb]; rfl) n (by omega)]; rfl, grown_trans g0 YF⟩
        | true =>
          cases hhi : hasI R k kk.id with
          | true =>
            have HHI : Hid (hasI R k kk.id = true) := hhi
            obtain rfl : cc = 1 := by rw [HCC.out, hhi]; rfl
            clear hhi
            rw [hkb] at kM
            have s0 : True := trivial
            go_wp2_with (first
              | (have _t := s0; clear s0; refine wpList_stX _ rfl _ (.tmp 5) (.tmp 17) rfl wr.heap.size _ _ rfl rfl b5 i4 rfl (by simp [Value.oneCell']) ?_; intro w5 b5 u5; have Y5 := grown_far g5 u5 (fun q e => by have e := Option.some.inj e; omega); have hM5 := hM.keep Y5 (by simp); obtain ⟨t0, t1, t2, t3⟩ := BxS.cell4 b5; clear q0 q1 q2 q3; have s1 : True := trivial)
              | (at_lookup; have _t := s1; clear s1; refine wpList_lookup_own_int _ rfl _ _ 65 rfl 3 3 .i64 law3 Tryd.underlying65 Tryd.underlying3 (zero3 _) (w.heap.size + 1) k D rfl hM5.own _ _ rfl hkey ?_; intro c hat hwc; have ec := hM5.at' hat; rw [← HCC.out] at ec; subst ec; have s2 : True := trivial)
              | (at_mapUpdate; have _t := s2; clear s2; refine wpList_mapUpdate_own _ rfl _ _ _ 65 rfl 3 3 law3 Tryd.underlying65 _ (w.heap.size + 1) k D rfl hM5.own (by unfold maxLen; omega) _ _ _ rfl rfl hkey _ [] (plainElem_int Tryd.underlying3 (WalkArith.wf_i64 (by omega))) ?_; intro w6 hown6 u6; have b6 := b5.keep u6 (fun e => by have e := Option.some.inj e; omega); clear t0 t1 t2 t3; obtain ⟨t0, t1, t2, t3⟩ := BxS.cell4 b6; have s3 : True := trivial)
              | (go_at_call 33; have _t := s3; clear s3; refine (kM _ (((h1.keep g0).keep (grown_far (grown_trans yr Y5) u6 (fun q e => by have e := Option.some.inj e; omega))).ws kk hm1)).mono ?_; rintro e w7 ⟨rfl, y7⟩; have b7 := b6.keep y7 (by simp); clear t0 t1 t2 t3; obtain ⟨t0, t1, t2, t3⟩ := BxS.cell4 b7; obtain ⟨c2, hrun, hat2, _⟩ := (hown6.kept y7 (by simp)).lookup_int law3 Tryd.underlying65 Tryd.underlying3 (zero3 _) hkey; rw [Maps.atKey_put_same hM5.own.isMap (by trivial)] at hat2; injection hat2 with hat2; injection hat2 with _ hat2; subst hat2))
            go_ret
            have YF := grown_trans (grown_far (grown_trans yr Y5) u6 (fun q e => by have e := Option.some.inj e; omega)) y7
            exact ⟨by rw [HRB.out, rmA_false R (k := k + 1) (by rw [HS.out, hkb, HHI.out]; rfl) n (by omega)]; rfl, grown_trans g0 YF⟩
          | false =>
            have HHI : Hid (hasI R k kk.id = false) := hhi
            obtain rfl : cc = 0 := by rw [HCC.out, hhi]; rfl
            clear hhi
            rw [hkb] at kM
            have s0 : True := trivial
            go_wp2_with (first
              | (have _t := s0; clear s0; refine wpList_stX _ rfl _ (.tmp 5) (.tmp 17) rfl wr.heap.size _ _ rfl rfl b5 i4 rfl (by simp [Value.oneCell']) ?_; intro w5 b5 u5; have Y5 := grown_far g5 u5 (fun q e => by have e := Option.some.inj e; omega); have hM5 := hM.keep Y5 (by simp); obtain ⟨t0, t1, t2, t3⟩ := BxS.cell4 b5; clear q0 q1 q2 q3; have s1 : True := trivial)
              | (at_lookup; have _t := s1; clear s1; refine wpList_lookup_own_int _ rfl _ _ 65 rfl 3 3 .i64 law3 Tryd.underlying65 Tryd.underlying3 (zero3 _) (w.heap.size + 1) k D rfl hM5.own _ _ rfl hkey ?_; intro c hat hwc; have ec := hM5.at' hat; rw [← HCC.out] at ec; subst ec; have s2 : True := trivial)
              | (at_mapUpdate; have _t := s2; clear s2; refine wpList_mapUpdate_own _ rfl _ _ _ 65 rfl 3 3 law3 Tryd.underlying65 _ (w.heap.size + 1) k D rfl hM5.own (by unfold maxLen; omega) _ _ _ rfl rfl hkey _ [] (plainElem_int Tryd.underlying3 (WalkArith.wf_i64 (by omega))) ?_; intro w6 hown6 u6; have b6 := b5.keep u6 (fun e => by have e := Option.some.inj e; omega); clear t0 t1 t2 t3; obtain ⟨t0, t1, t2, t3⟩ := BxS.cell4 b6; have s3 : True := trivial)
              | (go_at_call 33; have _t := s3; clear s3; refine (kM _ (((h1.keep g0).keep (grown_far (grown_trans yr Y5) u6 (fun q e => by have e := Option.some.inj e; omega))).ws kk hm1)).mono ?_; rintro e w7 ⟨rfl, y7⟩; have b7 := b6.keep y7 (by simp); clear t0 t1 t2 t3; obtain ⟨t0, t1, t2, t3⟩ := BxS.cell4 b7; obtain ⟨c2, hrun, hat2, _⟩ := (hown6.kept y7 (by simp)).lookup_int law3 Tryd.underlying65 Tryd.underlying3 (zero3 _) hkey; rw [Maps.atKey_put_same hM5.own.isMap (by trivial)] at hat2; injection hat2 with hat2; injection hat2 with _ hat2; subst hat2))
            have hM7 := (hM5.put (x := kk.d) HD1.out HHI.out hI hown6).keep y7 (by simp)
            have YF := grown_trans (grown_far (grown_trans yr Y5) u6 (fun q e => by have e := Option.some.inj e; omega)) y7
            refine ⟨⟨k + 1, _, by go_num, by omega, by rw [HS.out, hkb, HHI.out]; rfl, hM7, YF⟩, by simp [intOf]; omega⟩
      · have hlt' : ¬ (k : Int) < (n : Int) := by omega
        obtain rfl : k = n := by omega
        go_wp2
        go_ret
        exact ⟨by rw [HRB.out, hok]; rfl, grown_trans g0 yr⟩
  · have h8' : (8 : Int) < (n : Int) := by omega
    have HRB : Hid (rmB R = false) := by show _ = _; unfold rmB; rw [hlR, decide_eq_false h8]; rfl
    go_enter Tryd.func20, Tryd.ntmps20
    go_wp2
    go_ret
    exact ⟨by rw [HRB.out]; rfl, g0⟩

theorem hasI_mono (R : List Kd) {j k : Nat} (hj : j ≤ k) {z : Int} (h : hasI R j z = true) : hasI R k z = true := by
  unfold hasI at h ⊢
  obtain ⟨x, hx, hz⟩ := List.any_eq_true.1 h
  refine List.any_eq_true.2 ⟨x, ?_, hz⟩
  rw [List.mem_take_iff_getElem] at hx ⊢
  obtain ⟨i, hi, e⟩ := hx
  exact ⟨i, by omega, e⟩
set_option maxHeartbeats 32000000 in
theorem rringMay_any (a : Option Addr) (n c : Nat) (R : List Kd) (w : World) (h : RdG w a n c R) :
    Calls Tryd.prog 16 #[.agg #[.slice a n c]] w fun e w' => e = .returned (.bool (rmB R)) ∧ w.grownBy w' none := by
  obtain ⟨ks, h1, h2⟩ := h.ex
  have hl1 := h1.len
  have hlR := h.len
  have b0 := BxS.new w 24 #[.slice a n c]
  have g0 := World.grownBy_alloc w (.cells #[.slice a n c] 24) none
  generalize hw0 : w.alloc (.cells #[.slice a n c] 24) = w0 at b0 g0
  have x0 : w0.cell? ⟨w.heap.size, 0, none⟩ = some (.slice a n c) := b0.cell 0 (by show 0 < 1; decide)
  by_cases h8 : n ≤ 8
  · have h8' : ¬ (8 : Int) < (n : Int) := by omega
    have HRB : Hid (rmB R = rmA R n) := by show _ = _; unfold rmB; rw [hlR, decide_eq_true h8]; rfl
    have hle := h1.le
    have hmx := h1.max
    clear h
    go_enter Tryd.func16, Tryd.ntmps16
    go_wp2
    clear x0
    go_loopw [3] (fun iv wr => ∃ (k : Nat), iv = .int .i64 k ∧ k ≤ n ∧ rmA R k = true ∧ w0.grownBy wr none) (fun iv _ => n - (intOf iv).toNat)
    case atStart => exact ⟨0, by go_num, Nat.zero_le _, rfl, World.grownBy.refl _ _⟩
    case round =>
      obtain ⟨k, rfl, hk, hok, yr⟩ := hrel
      have x0 : wr.cell? ⟨w.heap.size, 0, none⟩ = some (.slice a n c) := (b0.keep yr (by simp)).cell 0 (by show 0 < 1; decide)
      by_cases hlt : k < n
      · have hlt' : (k : Int) < (n : Int) := by omega
        obtain ⟨kk, hi, hd1⟩ := map_d_at h2 k (by omega)
        have hm1 : kk ∈ ks := List.mem_of_getElem? hi
        have H0 := (h1.keep g0).keep yr
        obtain ⟨ba, oa, ea, _⟩ := H0.at' (by omega)
        subst ea
        obtain ⟨q0, q1, q2, q3⟩ := H0.four hi
        have hW := H0.ws kk hm1
        have hbd := H0.bd kk hm1
        have hwk : IntKind.i64.wrap ((k : Int) + 1) = (k : Int) + 1 := wrap_i64_in _ (by omega) (by omega)
        have eg : R.getD k kd0 = kk.d := by rw [List.getD_eq_getElem?_getD, hd1]; rfl
        have HS : Hid (rmA R (k + 1) = (kdB kk.d && !hasI R k kk.id)) := by show (rmA R k && (kdB (R.getD k kd0) && !hasI R k (R.getD k kd0).id)) = _; rw [hok, eg]; rfl
        have kM := fun wz hz => rkeyMay_any kk.id kk.a kk.n kk.c kk.tp kk.sn kk.W wz hz hbd.2.1 hbd.2.2
        have ekb : kmB kk.id kk.n kk.W kk.tp kk.sn = kdB kk.d := by unfold kdB; rw [← hW.len]; rfl
        rw [ekb] at kM
        clear eg ekb hd1
        cases hkb : kdB kk.d with
        | false =>
          rw [hkb] at kM
          go_wp2_with (go_at_call 36; refine (kM _ hW).mono ?_; rintro e w7 ⟨rfl, y7⟩)
          go_ret
          exact ⟨by rw [HRB.out, rmA_false R (k := k + 1) (by rw [HS.out, hkb]; rfl) n (by omega)]; rfl, grown_trans g0 (grown_trans yr y7)⟩
        | true =>
          rw [hkb] at kM
          go_wp2_with (go_at_call 36; refine (kM _ hW).mono ?_; rintro e w7 ⟨rfl, y7⟩)
          clear x0 q0 q1 q2 q3
          go_loopw [4] (fun jv wx => ∃ (j : Nat), jv = .int .i64 j ∧ j ≤ k ∧ hasI R j kk.id = false ∧ w7.grownBy wx none) (fun jv _ => k - (intOf jv).toNat)
          case atStart => exact ⟨0, by go_num, Nat.zero_le _, by simp [hasI], World.grownBy.refl _ _⟩
          case round =>
            obtain ⟨j, rfl, hj, hno, yx⟩ := hrel
            by_cases hjk : j < k
            · have hjk' : (j : Int) < (k : Int) := by omega
              have hjn' : (j : Int) < (n : Int) := by omega
              obtain ⟨ll, hlj, hdl⟩ := map_d_at h2 j (by omega)
              have HX := (H0.keep y7).keep yx
              obtain ⟨q0, q1, q2, q3⟩ := HX.four hi
              obtain ⟨r0, r1, r2, r3⟩ := HX.four hlj
              have x0 := (((b0.keep yr (by simp)).keep y7 (by simp)).keep yx (by simp)).cell 0 (by show 0 < 1; decide)
              have x0 : _ = some (Value.slice (some ⟨ba, oa, none⟩) n c) := x0
              have hwj : IntKind.i64.wrap ((j : Int) + 1) = (j : Int) + 1 := wrap_i64_in _ (by omega) (by omega)
              by_cases hid : kk.id = ll.id
              · have hid' : (kk.id == ll.id) = true := by rw [hid]; simp
                have hh : hasI R k kk.id = true := hasI_mono R (j := j + 1) (by omega) (by rw [hasI_step R j ll.d hdl]; show (_ || decide (ll.id = kk.id)) = true; rw [decide_eq_true hid.symm, Bool.or_true])
                clear hid
                go_wp2
                go_quiet (fail)
                go_wp2
                go_ret
                exact ⟨by rw [HRB.out, rmA_false R (k := k + 1) (by rw [HS.out, hh, hkb]; rfl) n (by omega)]; rfl, grown_trans g0 (grown_trans yr (grown_trans y7 (grown_trans yx (grown_drewN _ _ _))))⟩
              · have hid' : (kk.id == ll.id) = false := beq_false_of_ne hid
                have hh : hasI R (j + 1) kk.id = false := by rw [hasI_step R j ll.d hdl, hno]; show (_ || decide (ll.id = kk.id)) = false; rw [decide_eq_false (fun e => hid e.symm)]; rfl
                go_wp2
                go_quiet (fail)
                go_wp2
                go_roundw
                case rel => exact ⟨j + 1, by go_num, by omega, hh, grown_trans yx (grown_drewN _ _ _)⟩
                case measure => simp [intOf]; omega
            · have hjk' : ¬ (j : Int) < (k : Int) := by omega
              obtain rfl : j = k := by omega
              go_wp2
              go_roundw
              case rel => exact ⟨j + 1, by go_num, by omega, by rw [HS.out, hkb, hno]; rfl, grown_trans yr (grown_trans y7 yx)⟩
              case measure => simp [intOf]; omega
      · have hlt' : ¬ (k : Int) < (n : Int) := by omega
        obtain rfl : k = n := by omega
        go_wp2
        go_ret
        exact ⟨by rw [HRB.out, hok]; rfl, grown_trans g0 yr⟩
  · have h8' : (8 : Int) < (n : Int) := by omega
    have HRB : Hid (rmB R = false) := by show _ = _; unfold rmB; rw [hlR, decide_eq_false h8]; rfl
    go_enter Tryd.func16, Tryd.ntmps16
    go_wp2
    go_ret
    exact ⟨by rw [HRB.out]; rfl, g0⟩
end Go.Proofs.YtaigcjhachkmmaaDoor
