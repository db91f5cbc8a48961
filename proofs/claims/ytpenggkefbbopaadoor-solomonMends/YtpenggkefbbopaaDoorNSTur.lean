import Derived.Test.YtpenggkefbbopaaDoorNSSpo
namespace Go.Proofs.YtpenggkefbbopaaDoor
open Go.RowKit
set_option maxRecDepth 100000
set_option linter.unusedVariables false
set_option linter.unusedSimpArgs false

theorem Tryd.info_turn : (Tryd.prog.info? 32).map (fun i => (i.zero, i.size, i.bytes)) = some (some (.agg #[.int .i64 0, .int .i64 0]), 2, 16) := by kernel_rfl
def tvs (T : List (Int × Int)) : List Value := T.flatMap fun t => [Value.int .i64 t.1, Value.int .i64 t.2]
theorem tvs_length (T : List (Int × Int)) : (tvs T).length = T.length * 2 := by
  induction T with
  | nil => rfl
  | cons t T ih => show ([Value.int .i64 t.1, Value.int .i64 t.2] ++ tvs T).length = _; rw [List.length_append, ih]; simp; omega
theorem nth_tvs (T : List (Int × Int)) (i : Nat) (hi : i < T.length) : (tvs T)[i * 2]? = some (.int .i64 (tA T i)) ∧ (tvs T)[i * 2 + 1]? = some (.int .i64 (tB T i)) := by
  induction T generalizing i with
  | nil => simp at hi
  | cons t T ih =>
    have e : tvs (t :: T) = Value.int .i64 t.1 :: Value.int .i64 t.2 :: tvs T := rfl
    rw [e]
    cases i with
    | zero => exact ⟨rfl, rfl⟩
    | succ i =>
      obtain ⟨h1, h2⟩ := ih i (by simpa using hi)
      have e1 : (i + 1) * 2 = i * 2 + 1 + 1 := by omega
      rw [e1]
      simp only [List.getElem?_cons_succ]
      exact ⟨h1, h2⟩
theorem tvs_one (T : List (Int × Int)) : ∀ u, u ∈ tvs T → u.oneCell' = true := by
  intro u hu
  simp only [tvs, List.mem_flatMap] at hu
  obtain ⟨t, _, ht⟩ := hu
  simp at ht
  rcases ht with rfl | rfl <;> rfl
theorem tvs_add (T : List (Int × Int)) (a b : Int) : tvs T ++ [Value.int .i64 a, Value.int .i64 b] = tvs (T ++ [(a, b)]) := by simp [tvs]
structure AnsT (w : World) (lo : Nat) (a : Option Addr) (n cap : Nat) (T : List (Int × Int)) : Prop where
  own : w.ownsRow 0 32 2 (.slice a n cap) n (tvs T)
  new : ∀ g, (Value.slice a n cap).ownBlock = some g → lo ≤ g
theorem ansT_nil (w : World) (lo : Nat) : AnsT w lo none 0 0 [] := ⟨World.ownsRow_nil _ _ _ _, fun g h => by simp [Value.ownBlock] at h⟩
theorem AnsT.len {w : World} {lo : Nat} {a : Option Addr} {n cap : Nat} {T : List (Int × Int)} (h : AnsT w lo a n cap T) : T.length = n := by
  have := h.own.1; rw [tvs_length] at this; omega
theorem AnsT.keep [Add GF] [Mul GF] [OfNat GF 0] [OfNat GF 1] [L : Nonempty GL] {w w' : World} {lo : Nat} {a : Option Addr} {n cap : Nat} {T : List (Int × Int)} (h : AnsT w lo a n cap T) (hg : w.grownBy w' none) : AnsT w' lo a n cap T :=
  ⟨h.own.kept hg (by cases (Value.slice a n cap).ownBlock <;> simp), h.new⟩
theorem ownT_base {w : World} {base : Nat} {v : Value} {n : Nat} {xs : List Value} (h : w.ownsRow base 32 2 v n xs) : w.ownsRow 0 32 2 v n xs := by
  refine ⟨h.1, ?_⟩
  rcases h.2 with h2 | ⟨g, cap, cur, h3, h4, h5⟩
  · exact .inl h2
  · exact .inr ⟨g, cap, cur, h3, Nat.zero_le _, h5⟩
theorem AnsT.rd [Add GF] [Mul GF] [OfNat GF 0] [OfNat GF 1] [L : Nonempty GL] {w : World} {lo : Nat} {a : Option Addr} {n cap : Nat} {T : List (Int × Int)} (h : AnsT w lo a n cap T) (hA : ∀ i, inI (tA T i)) (hB : ∀ i, inI (tB T i)) : RdT w a n cap T := by
  have hl := h.len
  have hmx : n ≤ cap ∧ cap ≤ maxLen := by
    rcases h.own.2 with ⟨h1, h2⟩ | ⟨g, cap', cur, h1, _, h3, h4, h5, _⟩
    · cases h1; exact ⟨Nat.le_refl _, Nat.zero_le _⟩
    · cases h1; exact ⟨h4, h5⟩
  refine ⟨hl, hmx.1, hmx.2, hA, hB, fun h0 => ?_⟩
  rcases h.own.2 with ⟨_, h2⟩ | ⟨g, cap', cur, h1, _, h3, _⟩
  · omega
  · cases h1
    refine ⟨g, 0, rfl, (Array.getElem?_eq_some_iff.1 h3).1, fun i hi => ?_⟩
    obtain ⟨e1, e2⟩ := nth_tvs T i (by omega)
    rw [Nat.zero_add]
    exact ⟨(h.own.cellAt (i * 2) (by omega)).trans e1, (h.own.cellAt (i * 2 + 1) (by omega)).trans e2⟩
/-- 'append(v, x...)' of turns, v the call's own, x not empty -/
theorem wpList_apT (w : World) {ops : Array Oper} {rest : List Oper} {o : Oper} {a : Act} {Q : Exit → Act → World → Prop} (hg : o.guard = none) (s x : Operand)
    (hop : o.op = Op.call { callee := .builtin .append, args := #[s, x], argTypes := #[23, 23] }) (v : Value) (n : Nat) (xs : List Value) (hs : a.eval s = v)
    (hown : w.ownsRow 0 32 2 v n xs) (ad : Addr) (m c : Nat) (news : List Value) (hx : a.eval x = .slice (some ad) m c) (hn : news.length = m * 2)
    (hc : ∀ j u, news[j]? = some u → w.cell? (ad.add j) = some u) (h1 : ∀ u, u ∈ news → u.oneCell' = true) (hm : 0 < m) (hb : (n + m) * 16 ≤ 140737488355328)
    (hK : ∀ g cap w', (v.ownBlock = some g ∨ w.heap.size ≤ g) → w.grownBy w' v.ownBlock → w'.ownsRow 0 32 2 (.slice (some ⟨g, 0, none⟩) (n + m) cap) (n + m) (xs ++ news) →
      wpList Tryd.prog ops Q rest (a.put o.dst (.slice (some ⟨g, 0, none⟩) (n + m) cap)) w') :
    wpList Tryd.prog ops Q (o :: rest) a w := by
  obtain ⟨i0, hi, hz0, hz1, hz2⟩ := info_parts Tryd.info_turn
  have grow : ∀ (ao : Option Addr) (cap : Nat), v = .slice ao n cap → (ao = none → n = 0 ∧ cap = 0) → (∀ b, ao = some b → ∀ j u, xs[j]? = some u → w.cell? (b.add j) = some u) → cap < n + m → wpList Tryd.prog ops Q (o :: rest) a w := by
    intro ao cap hv hnone hcells hfull
    refine wpList_append_grows w hg s x 23 hop 32 i0 (.agg #[.int .i64 0, .int .i64 0]) 2 16 Tryd.underlying23 hi hz0 hz1 hz2 rfl (by decide) ao n cap xs (by rw [hs, hv]) hnone (by rw [hown.1]) hcells ad m c news hx hn hc h1 hfull (by unfold maxLen; omega) hb ?_
    intro v' w' hown' hgr
    rcases hown'.2 with ⟨_, h0⟩ | ⟨g, cap', cur, rfl, hge, hrest⟩
    · omega
    · exact hK g cap' w' (.inr hge) (grown_weak hgr _) (ownT_base hown')
  rcases hown.2 with ⟨rfl, h0⟩ | ⟨g, cap, cur, rfl, hbase, hh, hle, hmax, hsz, htake⟩
  · subst h0
    exact grow none 0 rfl (fun _ => ⟨rfl, rfl⟩) (fun b hb => by cases hb) (by omega)
  · by_cases hroom : n + m ≤ cap
    · refine wpList_append_fits w hg s x 23 hop 0 32 i0 2 Tryd.underlying23 hi hz1 g n cap xs hs hown ad m c news hx hn hc h1 hroom ?_
      intro w' hown' hgr
      exact hK g cap w' (.inl rfl) hgr hown'
    · refine grow (some ⟨g, 0, none⟩) cap rfl (fun h => by cases h) ?_ (by omega)
      intro b hb j u hu
      cases hb
      exact hown.cells (g := g) rfl j u hu
theorem turn_cell (w : World) (a b : Value) (j : Nat) (u : Value) (h : [a, b][j]? = some u) : (w.alloc (.cells #[a, b] 32)).cell? ((⟨w.heap.size, 0, none⟩ : Addr).add j) = some u := by
  rw [addr_add, cell_of_row _ _ _ _ _ _ (heap_alloc_new w _)]
  simpa using h
end Go.Proofs.YtpenggkefbbopaaDoor
