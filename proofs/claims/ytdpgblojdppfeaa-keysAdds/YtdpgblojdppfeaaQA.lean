import Derived.Test.YtdpgblojdppfeaaQZ
import Derived.Test.YtdpgblojdppfeaaYKm
import Derived.Test.YtdpgblojdppfeaaUGn
import Derived.Test.YtdpgblojdppfeaaZRs
namespace Go.Proofs.Ytdpgblojdppfeaa
open Go.RowKit
set_option maxRecDepth 100000
set_option linter.unusedVariables false
set_option linter.unusedSimpArgs false
/-- a key: where its words lie, and what it says -/
structure Kw where
  id : Int
  a : Option Addr
  n : Nat
  c : Nat
  W : List Int
  tp : Int
  sn : Int
/-- a key as data -/
structure Kd where
  id : Int
  W : List Int
  tp : Int
  sn : Int
def Kw.d (k : Kw) : Kd := ⟨k.id, k.W, k.tp, k.sn⟩
def Kw.v (k : Kw) : Value := .slice k.a k.n k.c
def Kw.cells (k : Kw) : List Value := [.int .i64 k.id, .slice k.a k.n k.c, .int .i64 k.tp, .int .i64 k.sn]
def kw0 : Kw := ⟨0, none, 0, 0, [], 0, 0⟩
def flK (ks : List Kw) : List Value := ks.flatMap Kw.cells
theorem flK_len (ks : List Kw) : (flK ks).length = ks.length * 4 := by
  induction ks with
  | nil => rfl
  | cons k ks ih => simp only [flK, List.flatMap_cons, List.length_append, List.length_cons] at ih ⊢; rw [ih]; show 4 + _ = _; omega
theorem flK_app (ks ls : List Kw) : flK (ks ++ ls) = flK ks ++ flK ls := by simp [flK]
theorem flK_at (ks : List Kw) (i : Nat) (k : Kw) (h : ks[i]? = some k) (j : Nat) (hj : j < 4) : (flK ks)[i * 4 + j]? = k.cells[j]? := by
  induction ks generalizing i with
  | nil => cases h
  | cons a ks ih =>
    cases i with
    | zero =>
      have h : some a = some k := h
      have h := Option.some.inj h
      subst h
      show (a.cells ++ flK ks)[0 * 4 + j]? = _
      rw [List.getElem?_append_left (by show 0 * 4 + j < 4; omega), Nat.zero_mul, Nat.zero_add]
    | succ i =>
      have h : ks[i]? = some k := h
      show (a.cells ++ flK ks)[(i + 1) * 4 + j]? = _
      rw [List.getElem?_append_right (by show 4 ≤ _; omega), show (i + 1) * 4 + j - a.cells.length = i * 4 + j by show _ - 4 = _; omega]
      exact ih i h
theorem flK_one (ks : List Kw) : ∀ u, u ∈ flK ks → u.oneCell' = true := by
  intro u hu
  obtain ⟨k, _, hk⟩ := List.mem_flatMap.1 hu
  simp only [Kw.cells, List.mem_cons, List.not_mem_nil, or_false] at hk
  rcases hk with rfl | rfl | rfl | rfl <;> rfl
theorem flK_take (ks : List Kw) (m : Nat) : (flK ks).take (m * 4) = flK (ks.take m) := by
  induction ks generalizing m with
  | nil => simp [flK]
  | cons k ks ih =>
    cases m with
    | zero => simp [flK]
    | succ m =>
      show (k.cells ++ flK ks).take ((m + 1) * 4) = k.cells ++ flK (ks.take m)
      rw [← ih m, List.take_append, List.take_of_length_le (by show 4 ≤ _; omega)]
      congr 2
      show _ - 4 = _
      omega
theorem flK_drop (ks : List Kw) (m : Nat) : (flK ks).drop (m * 4) = flK (ks.drop m) := by
  induction ks generalizing m with
  | nil => simp [flK]
  | cons k ks ih =>
    cases m with
    | zero => simp [flK]
    | succ m =>
      show (k.cells ++ flK ks).drop ((m + 1) * 4) = flK (ks.drop m)
      rw [← ih m, List.drop_append, List.drop_of_length_le (by show 4 ≤ _; omega), List.nil_append]
      congr 1
      show _ - 4 = _
      omega
theorem Try.info_ky : (Try.prog.info? 27).map (fun i => (i.zero, i.size, i.bytes)) = some (some (.agg #[.int .i64 0, .slice none 0 0, .int .i64 0, .int .i64 0]), 4, 48) := by kernel_rfl
theorem Try.info_ky4 : (Try.prog.info? 27).map (fun i => i.size) = some 4 := by kernel_rfl
theorem Try.info_rg1 : (Try.prog.info? 24).map (fun i => i.size) = some 1 := by kernel_rfl
/-- numbers that an int can be -/
def I64 (z : Int) : Prop := -9223372036854775808 ≤ z ∧ z ≤ 9223372036854775807
/-- a slice of keys as it is read -/
structure RdK (w : World) (a : Option Addr) (n c : Nat) (ks : List Kw) : Prop where
  len : ks.length = n
  le : n ≤ c
  max : c ≤ maxLen
  at' : 0 < n → ∃ b off, a = some ⟨b, off, none⟩ ∧ b < w.heap.size ∧ ∀ i k, ks[i]? = some k → ∀ j, j < 4 → w.cell? ⟨b, off + (i * 4 + j), none⟩ = k.cells[j]?
  ws : ∀ k, k ∈ ks → RdI w k.a k.n k.c k.W
  bd : ∀ k, k ∈ ks → I64 k.id ∧ I64 k.tp ∧ I64 k.sn
theorem RdK.nil (w : World) : RdK w none 0 0 [] := ⟨rfl, Nat.le_refl _, Nat.zero_le _, (fun h => absurd h (by decide)), (fun k h => by cases h), fun k h => by cases h⟩
theorem RdK.keep {w w' : World} {a : Option Addr} {n c : Nat} {ks : List Kw} (h : RdK w a n c ks) (hg : w.grownBy w' none) : RdK w' a n c ks :=
  ⟨h.len, h.le, h.max, fun h0 => by
    obtain ⟨b, off, e, hb, hc⟩ := h.at' h0
    refine ⟨b, off, e, Nat.lt_of_lt_of_le hb hg.size, fun i k hi j hj => ?_⟩
    rw [← hc i k hi j hj]
    unfold World.cell?
    rw [hg.block b hb (by simp)], fun k hk => (h.ws k hk).keep hg, h.bd⟩
theorem RdK.four {w : World} {b off n c : Nat} {ks : List Kw} (h : RdK w (some ⟨b, off, none⟩) n c ks) {i : Nat} {k : Kw} (hi : ks[i]? = some k) :
    w.cell? ⟨b, off + i * 4, none⟩ = some (.int .i64 k.id) ∧ w.cell? ⟨b, off + i * 4 + 1, none⟩ = some (.slice k.a k.n k.c) ∧ w.cell? ⟨b, off + i * 4 + 2, none⟩ = some (.int .i64 k.tp) ∧ w.cell? ⟨b, off + i * 4 + 3, none⟩ = some (.int .i64 k.sn) := by
  have hl := (List.getElem?_eq_some_iff.1 hi).1
  obtain ⟨_, _, e, _, hc⟩ := h.at' (by have := h.len; omega)
  cases e
  exact ⟨hc i k hi 0 (by decide), hc i k hi 1 (by decide), hc i k hi 2 (by decide), hc i k hi 3 (by decide)⟩
/-- the blocks that keys own -/
def Okb (v : Value) (ks : List Kw) (i : Nat) : Prop := v.ownBlock = some i ∨ ∃ k, k ∈ ks ∧ k.v.ownBlock = some i
/-- keys in memory of the call's own -/
structure OwK (w : World) (lo : Nat) (a : Option Addr) (n c : Nat) (ks : List Kw) : Prop where
  own : w.ownsRow 0 27 4 (.slice a n c) n (flK ks)
  len : ks.length = n
  new : ∀ g, (Value.slice a n c).ownBlock = some g → lo ≤ g
  each : ∀ k, k ∈ ks → AnsZ w lo k.a k.n k.c k.W
  bd : ∀ k, k ∈ ks → I64 k.id ∧ I64 k.tp ∧ I64 k.sn
  apart : ks.Pairwise fun r s => ∀ g, r.v.ownBlock = some g → s.v.ownBlock ≠ some g
theorem OwK.nil (w : World) (lo : Nat) : OwK w lo none 0 0 [] := ⟨World.ownsRow_nil _ _ _ _, rfl, (fun g h => by simp [Value.ownBlock] at h), (fun k h => by cases h), (fun k h => by cases h), List.Pairwise.nil⟩
theorem OwK.max {w : World} {lo : Nat} {a : Option Addr} {n c : Nat} {ks : List Kw} (h : OwK w lo a n c ks) : n ≤ c ∧ c ≤ maxLen := by
  rcases h.own.2 with ⟨h1, h2⟩ | ⟨g, cap', cur, h1, _, h3, h4, h5, _⟩
  · simp only [Value.slice.injEq] at h1; obtain ⟨_, h6, h7⟩ := h1; subst h6; subst h7; exact ⟨Nat.le_refl _, Nat.zero_le _⟩
  · simp only [Value.slice.injEq] at h1; obtain ⟨_, _, h7⟩ := h1; subst h7; exact ⟨h4, h5⟩
theorem OwK.rd {w : World} {lo : Nat} {a : Option Addr} {n c : Nat} {ks : List Kw} (h : OwK w lo a n c ks) : RdK w a n c ks := by
  have hm := h.max
  refine ⟨h.len, hm.1, hm.2, fun h0 => ?_, fun k hk => (h.each k hk).rd, h.bd⟩
  rcases h.own.2 with ⟨h1, h2⟩ | ⟨g, cap', cur, h1, hb, h3, _⟩
  · omega
  · simp only [Value.slice.injEq] at h1; obtain ⟨h5, _, h7⟩ := h1; subst h5
    refine ⟨g, 0, rfl, (Array.getElem?_eq_some_iff.1 h3).1, fun i k hi j hj => ?_⟩
    have hc := flK_at ks i k hi j hj
    obtain ⟨u, hu⟩ : ∃ u, k.cells[j]? = some u := ⟨_, List.getElem?_eq_getElem (by show j < 4; exact hj)⟩
    rw [hu] at hc ⊢
    have := h.own.cells (g := g) rfl (i * 4 + j) u hc
    rw [addr_add] at this
    exact this
theorem OwK.keep {w w' : World} {lo : Nat} {a : Option Addr} {n c : Nat} {ks : List Kw} (h : OwK w lo a n c ks) (hg : w.grownBy w' none) : OwK w' lo a n c ks :=
  ⟨h.own.kept hg (by cases (Value.slice a n c).ownBlock <;> simp), h.len, h.new, fun k hk => (h.each k hk).keep hg, h.bd, h.apart⟩
theorem AnsZ.wide {w : World} {lo lo' : Nat} {a : Option Addr} {n c : Nat} {S : List Int} (h : AnsZ w lo a n c S) (hl : lo' ≤ lo) : AnsZ w lo' a n c S := ⟨h.own, fun g hg => Nat.le_trans hl (h.new g hg)⟩
theorem OwK.wide {w : World} {lo lo' : Nat} {a : Option Addr} {n c : Nat} {ks : List Kw} (h : OwK w lo a n c ks) (hl : lo' ≤ lo) : OwK w lo' a n c ks :=
  ⟨h.own, h.len, fun g hg => Nat.le_trans hl (h.new g hg), fun k hk => (h.each k hk).wide hl, h.bd, h.apart⟩
theorem OwK.hi {w : World} {lo : Nat} {a : Option Addr} {n c : Nat} {ks : List Kw} (h : OwK w lo a n c ks) {x : Nat} (hx : Okb (.slice a n c) ks x) : x < w.heap.size ∧ lo ≤ x := by
  rcases hx with hx | ⟨k, hk, hx⟩
  · refine ⟨?_, h.new x hx⟩
    rcases h.own.2 with ⟨h1, _⟩ | ⟨g, cap', cur, h1, _, h3, _⟩
    · rw [h1] at hx; simp [Value.ownBlock] at hx
    · rw [h1] at hx
      have hx : g = x := Option.some.inj hx
      subst hx
      exact (Array.getElem?_eq_some_iff.1 h3).1
  · exact ⟨(h.each k hk).lt x hx, (h.each k hk).new x hx⟩
/-- another block is written -/
theorem OwK.kept {w w' : World} {lo : Nat} {a : Option Addr} {n c : Nat} {ks : List Kw} {r : Option Nat} (h : OwK w lo a n c ks) (hg : w.grownBy w' r) (hne : ∀ x, r = some x → ¬ Okb (.slice a n c) ks x) : OwK w' lo a n c ks := by
  have h1 : ∀ (v : Value), (∀ x, r = some x → v.ownBlock ≠ some x) → v.ownBlock = none ∨ v.ownBlock ≠ r := fun v hv => by
    cases e : v.ownBlock with
    | none => exact .inl rfl
    | some x => exact .inr (fun e2 => hv x e2.symm e)
  exact ⟨h.own.kept hg (h1 _ (fun x e e2 => hne x e (.inl e2))), h.len, h.new, fun k hk => (h.each k hk).kept hg (h1 _ (fun x e e2 => hne x e (.inr ⟨k, hk, e2⟩))), h.bd, h.apart⟩
theorem AnsZ.fz {w w' : World} {p : Nat → Prop} {lo : Nat} {a : Option Addr} {n c : Nat} {S : List Int} (h : AnsZ w lo a n c S) (hF : Fz p w w') (hn : ∀ x, (Value.slice a n c).ownBlock = some x → ¬ p x) : AnsZ w' lo a n c S := by
  refine ⟨?_, h.new⟩
  refine ⟨h.own.1, ?_⟩
  rcases h.own.2 with h1 | ⟨g, cap', cur, h1, h2, h3, h4⟩
  · exact .inl h1
  · refine .inr ⟨g, cap', cur, h1, h2, ?_, h4⟩
    rw [hF.block g (Array.getElem?_eq_some_iff.1 h3).1 (hn g (by rw [h1]; rfl))]
    exact h3
theorem OwK.fz {w w' : World} {p : Nat → Prop} {lo : Nat} {a : Option Addr} {n c : Nat} {ks : List Kw} (h : OwK w lo a n c ks) (hF : Fz p w w') (hn : ∀ x, Okb (.slice a n c) ks x → ¬ p x) : OwK w' lo a n c ks := by
  refine ⟨⟨h.own.1, ?_⟩, h.len, h.new, fun k hk => (h.each k hk).fz hF (fun x e => hn x (.inr ⟨k, hk, e⟩)), h.bd, h.apart⟩
  rcases h.own.2 with h1 | ⟨g, cap', cur, h1, h2, h3, h4⟩
  · exact .inl h1
  · refine .inr ⟨g, cap', cur, h1, h2, ?_, h4⟩
    rw [hF.block g (Array.getElem?_eq_some_iff.1 h3).1 (hn g (.inl (by rw [h1]; rfl)))]
    exact h3
/-- no box of another type -/
theorem AnsZ.box {w : World} {lo n c g : Nat} {a : Option Addr} {S : List Int} {t : TypeId} {cs : Array Value} (h : AnsZ w lo a n c S) (b : BxS w g t cs) (ht : 3 ≠ t) : (Value.slice a n c).ownBlock ≠ some g := by
  intro e
  rcases h.own.2 with ⟨h1, _⟩ | ⟨x, cap, cur, h1, _, hh, _⟩
  · rw [h1] at e; simp [Value.ownBlock] at e
  · rw [h1] at e
    have e : x = g := Option.some.inj e
    subst e
    unfold BxS at b
    rw [hh] at b
    injection b with b
    injection b with _ b _
    exact ht b
theorem OwK.box {w : World} {lo n c g : Nat} {a : Option Addr} {ks : List Kw} {t : TypeId} {cs : Array Value} (h : OwK w lo a n c ks) (b : BxS w g t cs) (ht : 27 ≠ t) : (Value.slice a n c).ownBlock ≠ some g := by
  intro e
  rcases h.own.2 with ⟨h1, _⟩ | ⟨x, cap, cur, h1, _, hh, _⟩
  · rw [h1] at e; simp [Value.ownBlock] at e
  · rw [h1] at e
    have e : x = g := Option.some.inj e
    subst e
    unfold BxS at b
    rw [hh] at b
    injection b with b
    injection b with _ b _
    exact ht b
/-- as data -/
structure RdG (w : World) (a : Option Addr) (n c : Nat) (R : List Kd) : Prop where
  ex : ∃ ks, RdK w a n c ks ∧ ks.map Kw.d = R
structure OwG (w : World) (lo : Nat) (a : Option Addr) (n c : Nat) (ks : List Kw) (R : List Kd) : Prop where
  o : OwK w lo a n c ks
  d : ks.map Kw.d = R
theorem RdG.keep {w w' : World} {a : Option Addr} {n c : Nat} {R : List Kd} (h : RdG w a n c R) (hg : w.grownBy w' none) : RdG w' a n c R := by
  obtain ⟨ks, h1, h2⟩ := h.ex
  exact ⟨ks, h1.keep hg, h2⟩
theorem RdG.len {w : World} {a : Option Addr} {n c : Nat} {R : List Kd} (h : RdG w a n c R) : R.length = n := by
  obtain ⟨ks, h1, h2⟩ := h.ex
  rw [← h2, List.length_map]; exact h1.len
theorem OwG.rd {w : World} {lo : Nat} {a : Option Addr} {n c : Nat} {ks : List Kw} {R : List Kd} (h : OwG w lo a n c ks R) : RdG w a n c R := ⟨ks, h.o.rd, h.d⟩
theorem OwG.keep {w w' : World} {lo : Nat} {a : Option Addr} {n c : Nat} {ks : List Kw} {R : List Kd} (h : OwG w lo a n c ks R) (hg : w.grownBy w' none) : OwG w' lo a n c ks R := ⟨h.o.keep hg, h.d⟩
theorem OwG.wide {w : World} {lo lo' : Nat} {a : Option Addr} {n c : Nat} {ks : List Kw} {R : List Kd} (h : OwG w lo a n c ks R) (hl : lo' ≤ lo) : OwG w lo' a n c ks R := ⟨h.o.wide hl, h.d⟩
theorem OwG.fz {w w' : World} {p : Nat → Prop} {lo : Nat} {a : Option Addr} {n c : Nat} {ks : List Kw} {R : List Kd} (h : OwG w lo a n c ks R) (hF : Fz p w w') (hn : ∀ x, Okb (.slice a n c) ks x → ¬ p x) : OwG w' lo a n c ks R := ⟨h.o.fz hF hn, h.d⟩
theorem RdG.nil (w : World) : RdG w none 0 0 [] := ⟨[], RdK.nil w, rfl⟩
theorem OwG.nil (w : World) (lo : Nat) : OwG w lo none 0 0 [] [] := ⟨OwK.nil w lo, rfl⟩
/-- a key more, in a row that grows -/
theorem OwK.push {w w' : World} {lo : Nat} {ao : Option Addr} {n co : Nat} {ks : List Kw} (hA : OwK w lo ao n co ks) (hlo : lo ≤ w.heap.size) {g cap : Nat} (hgx : (Value.slice ao n co).ownBlock = some g ∨ w.heap.size ≤ g)
    (hg : w.grownBy w' (Value.slice ao n co).ownBlock) {k : Kw} (hk : AnsZ w lo k.a k.n k.c k.W) (hb : I64 k.id ∧ I64 k.tp ∧ I64 k.sn) (hap : ∀ q, q ∈ ks → ∀ y, q.v.ownBlock = some y → k.v.ownBlock ≠ some y)
    (hown : w'.ownsRow 0 27 4 (.slice (some ⟨g, 0, none⟩) (n + 1) cap) (n + 1) (flK ks ++ k.cells)) : OwK w' lo (some ⟨g, 0, none⟩) (n + 1) cap (ks ++ [k]) := by
  have hty : ∀ k : Kw, AnsZ w lo k.a k.n k.c k.W → k.v.ownBlock = none ∨ k.v.ownBlock ≠ (Value.slice ao n co).ownBlock := fun k hk => by
    cases e : k.v.ownBlock with
    | none => exact .inl rfl
    | some x =>
      refine .inr (fun e2 => ?_)
      rcases hA.own.2 with ⟨h1, _⟩ | ⟨y, cap, cur, h1, _, hh, _⟩
      · rw [h1] at e2; simp [Value.ownBlock] at e2
      · rw [h1] at e2
        have e2 : x = y := Option.some.inj e2
        subst e2
        exact hk.box hh (by decide) e
  refine ⟨by rw [flK_app]; simpa [flK] using hown, by simp [hA.len], fun y hy => ?_, fun q hq => ?_, fun q hq => ?_, List.pairwise_append.2 ⟨hA.apart, List.pairwise_singleton _ _, fun r hr s hs => by rw [List.mem_singleton.1 hs]; exact hap r hr⟩⟩
  · have e : g = y := Option.some.inj hy
    subst e
    rcases hgx with h | h
    · exact hA.new g h
    · omega
  · rcases List.mem_append.1 hq with hq | hq
    · exact (hA.each q hq).kept hg (hty q (hA.each q hq))
    · have hq := List.mem_singleton.1 hq
      subst hq
      exact hk.kept hg (hty q hk)
  · rcases List.mem_append.1 hq with hq | hq
    · exact hA.bd q hq
    · have hq := List.mem_singleton.1 hq
      subst hq
      exact hb
theorem four_row (w : World) (k : Kw) : ∀ j u, k.cells[j]? = some u → (w.alloc (.cells k.cells.toArray 27)).cell? ((⟨w.heap.size, 0, none⟩ : Addr).add j) = some u := by
  intro j u hu
  rw [addr_add, Nat.zero_add]
  have b := BxS.new w 27 k.cells.toArray
  have hj : j < k.cells.length := (List.getElem?_eq_some_iff.1 hu).1
  rw [b.cell j (by simpa using hj)]
  rw [← hu]
  simp
/-- 'append(v, k)' of keys -/
theorem wpList_psK (w : World) (lo : Nat) (k : Kw) {ops : Array Oper} {rest : List Oper} {o : Oper} {a : Act} {Q : Exit → Act → World → Prop} (hg : o.guard = none) (s x : Operand)
    (hop : o.op = Op.call { callee := .builtin .append, args := #[s, x], argTypes := #[22, 22] }) (ao : Option Addr) (m co : Nat) (ks : List Kw) (hs : a.eval s = .slice ao m co)
    (hA : OwK w lo ao m co ks) (hlo : lo ≤ w.heap.size) (hx : a.eval x = .slice (some ⟨w.heap.size, 0, none⟩) 1 1) (hb : (m + 1) * 48 ≤ 140737488355328) (cs : Array Value) (hcs : cs = k.cells.toArray) (hk : AnsZ w lo k.a k.n k.c k.W) (hbd : I64 k.id ∧ I64 k.tp ∧ I64 k.sn) (hap : ∀ q, q ∈ ks → ∀ y, q.v.ownBlock = some y → k.v.ownBlock ≠ some y)
    (hK : ∀ gx cx w', OwK w' lo (some ⟨gx, 0, none⟩) (m + 1) cx (ks ++ [k]) → w.grownBy w' (Value.slice ao m co).ownBlock → ((Value.slice ao m co).ownBlock = some gx ∨ w.heap.size ≤ gx) → wpList Try.prog ops Q rest (a.put o.dst (.slice (some ⟨gx, 0, none⟩) (m + 1) cx)) w') :
    wpList Try.prog ops Q (o :: rest) a (w.alloc (.cells cs 27)) := by
  subst hcs
  obtain ⟨i0, hi, hz0, hz1, hz2⟩ := info_parts Try.info_ky
  have gA := World.grownBy_alloc w (.cells k.cells.toArray 27) none
  refine wpList_apS _ hg s x 22 27 i0 _ 4 48 Try.underlying22 hi hz0 hz1 hz2 rfl (by decide) hop (.slice ao m co) m (flK ks) hs (hA.own.alloc _) ⟨w.heap.size, 0, none⟩ 1 1 k.cells hx rfl (four_row w k) (by simp [Kw.cells, Value.oneCell']) (by decide) (by unfold maxLen; omega) (by omega) ?_
  intro gx cx w' hgx hgr hown
  have hsz := gA.size
  have hor : (Value.slice ao m co).ownBlock = some gx ∨ w.heap.size ≤ gx := by
    rcases hgx with h | h
    · exact .inl h
    · exact .inr (by omega)
  have hgr' := grown_trans (grown_weak gA (Value.slice ao m co).ownBlock) hgr
  exact hK gx cx w' (hA.push hlo hor hgr' hk hbd hap hown) hgr' hor
/-- the same in a region that draws -/
theorem step_psK (w : World) (lo : Nat) (k : Kw) {ops : Array Oper} {o : Oper} {a : Act} {K : Act → World → Prop} {Q : Exit → Act → World → Prop} {E : Prop} (hg : o.guard = none) (s x : Operand)
    (hop : o.op = Op.call { callee := .builtin .append, args := #[s, x], argTypes := #[22, 22] }) (ao : Option Addr) (m co : Nat) (ks : List Kw) (hs : a.eval s = .slice ao m co)
    (hA : OwK w lo ao m co ks) (hlo : lo ≤ w.heap.size) (hx : a.eval x = .slice (some ⟨w.heap.size, 0, none⟩) 1 1) (hb : (m + 1) * 48 ≤ 140737488355328) (cs : Array Value) (hcs : cs = k.cells.toArray) (hk : AnsZ w lo k.a k.n k.c k.W) (hbd : I64 k.id ∧ I64 k.tp ∧ I64 k.sn) (hap : ∀ q, q ∈ ks → ∀ y, q.v.ownBlock = some y → k.v.ownBlock ≠ some y)
    (hK : ∀ gx cx w', OwK w' lo (some ⟨gx, 0, none⟩) (m + 1) cx (ks ++ [k]) → w.grownBy w' (Value.slice ao m co).ownBlock → ((Value.slice ao m co).ownBlock = some gx ∨ w.heap.size ≤ gx) → K (a.put o.dst (.slice (some ⟨gx, 0, none⟩) (m + 1) cx)) w') :
    if Region.wanted o (yielded ops a.tmps) = true then Oper.wp Try.prog o a (w.alloc (.cells cs 27)) K Q else E := by
  subst hcs
  obtain ⟨i0, hi, hz0, hz1, hz2⟩ := info_parts Try.info_ky
  have gA := World.grownBy_alloc w (.cells k.cells.toArray 27) none
  refine step_apS _ hg s x 22 27 i0 _ 4 48 Try.underlying22 hi hz0 hz1 hz2 rfl (by decide) hop (.slice ao m co) m (flK ks) hs (hA.own.alloc _) ⟨w.heap.size, 0, none⟩ 1 1 k.cells hx rfl (four_row w k) (by simp [Kw.cells, Value.oneCell']) (by decide) (by unfold maxLen; omega) (by omega) ?_
  intro gx cx w' hgx hgr hown
  have hsz := gA.size
  have hor : (Value.slice ao m co).ownBlock = some gx ∨ w.heap.size ≤ gx := by
    rcases hgx with h | h
    · exact .inl h
    · exact .inr (by omega)
  have hgr' := grown_trans (grown_weak gA (Value.slice ao m co).ownBlock) hgr
  exact hK gx cx w' (hA.push hlo hor hgr' hk hbd hap hown) hgr' hor
theorem BxS.cell4 {w : World} {g : Nat} {t : TypeId} {a b c d : Value} (h : BxS w g t #[a, b, c, d]) : w.cell? ⟨g, 0, none⟩ = some a ∧ w.cell? ⟨g, 1, none⟩ = some b ∧ w.cell? ⟨g, 2, none⟩ = some c ∧ w.cell? ⟨g, 3, none⟩ = some d := by
  simp [World.cell?, show w.heap[g]? = _ from h]
theorem stc_ints (g i : Nat) (p : Option Addr) (l c : Nat) (w : World) (hc : ∃ u, w.cell? ⟨g, i, none⟩ = some u) (hf : w.frozen? ⟨g, i, none⟩ = false) : (Instr.storeAt 25 (.pointer (some ⟨g, i, none⟩)) (.slice p l c)).run Try.prog w = .ok () (w.setCell ⟨g, i, none⟩ (.slice p l c)) := by
  obtain ⟨u, hc⟩ := hc
  simp [go_sem, hc, hf]
theorem stc_keys (g i : Nat) (p : Option Addr) (l c : Nat) (w : World) (hc : ∃ u, w.cell? ⟨g, i, none⟩ = some u) (hf : w.frozen? ⟨g, i, none⟩ = false) : (Instr.storeAt 22 (.pointer (some ⟨g, i, none⟩)) (.slice p l c)).run Try.prog w = .ok () (w.setCell ⟨g, i, none⟩ (.slice p l c)) := by
  obtain ⟨u, hc⟩ := hc
  simp [go_sem, hc, hf]
end Go.Proofs.Ytdpgblojdppfeaa
