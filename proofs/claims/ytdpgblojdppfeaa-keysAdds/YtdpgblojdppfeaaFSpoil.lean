import Derived.Test.YtdpgblojdppfeaaFSame
import Derived.ArgAppend
namespace Go.Proofs.Ytdpgblojdppfeaa
open Go.RowKit
set_option maxRecDepth 100000
set_option linter.unusedVariables false
set_option linter.unusedSimpArgs false

/-- v is a slice of the bytes L that lies at the head of a row that may be written -/
def Own (w : World) (v : Value) (L : List Nat) : Prop := w.ownsRow 0 5 1 v L.length (bys L)
theorem own_base {w : World} {base : Nat} {v : Value} {n : Nat} {xs : List Value} (h : w.ownsRow base 5 1 v n xs) : w.ownsRow 0 5 1 v n xs := by
  refine ⟨h.1, ?_⟩
  rcases h.2 with h2 | ⟨g, cap, cur, h3, h4, h5⟩
  · exact .inl h2
  · exact .inr ⟨g, cap, cur, h3, Nat.zero_le _, h5⟩
theorem addr_add (b off j : Nat) : (⟨b, off, none⟩ : Addr).add j = ⟨b, off + j, none⟩ := by unfold Addr.add; split <;> simp_all

/-- 'append(v, x...)', v the call's own, x not empty -/
theorem wpList_apB (w : World) {ops : Array Oper} {rest : List Oper} {o : Oper} {a : Act} {Q : Exit → Act → World → Prop} (hg : o.guard = none) (s x : Operand)
    (hop : o.op = Op.call { callee := .builtin .append, args := #[s, x], argTypes := #[32, 32] }) (v : Value) (n : Nat) (xs : List Value) (hs : a.eval s = v)
    (hown : w.ownsRow 0 5 1 v n xs) (ad : Addr) (m c : Nat) (news : List Value) (hx : a.eval x = .slice (some ad) m c) (hn : news.length = m)
    (hc : ∀ j u, news[j]? = some u → w.cell? (ad.add j) = some u) (h1 : ∀ u, u ∈ news → u.oneCell' = true) (hm : 0 < m) (hb : n + m ≤ 140737488355328)
    (hK : ∀ g cap w', (v.ownBlock = some g ∨ w.heap.size ≤ g) → w.grownBy w' v.ownBlock → w'.ownsRow 0 5 1 (.slice (some ⟨g, 0, none⟩) (n + m) cap) (n + m) (xs ++ news) →
      wpList Try.prog ops Q rest (a.put o.dst (.slice (some ⟨g, 0, none⟩) (n + m) cap)) w') :
    wpList Try.prog ops Q (o :: rest) a w := by
  obtain ⟨i0, hi, hz0, hz1, hz2⟩ := info_parts Try.info_u8
  have grow : ∀ (ao : Option Addr) (cap : Nat), v = .slice ao n cap → (ao = none → n = 0 ∧ cap = 0) → (∀ b, ao = some b → ∀ j u, xs[j]? = some u → w.cell? (b.add j) = some u) → cap < n + m → wpList Try.prog ops Q (o :: rest) a w := by
    intro ao cap hv hnone hcells hfull
    refine wpList_append_grows w hg s x 32 hop 5 i0 (.int .u8 0) 1 1 Try.underlying32 hi hz0 hz1 hz2 rfl (by decide) ao n cap xs (by rw [hs, hv]) hnone (by rw [hown.1]) hcells ad m c news hx (by rw [hn, Nat.mul_one]) hc h1 hfull (by unfold maxLen; omega) (by omega) ?_
    intro v' w' hown' hgr
    rcases hown'.2 with ⟨_, h0⟩ | ⟨g, cap', cur, rfl, hge, hrest⟩
    · omega
    · exact hK g cap' w' (.inr hge) (grown_weak hgr _) (own_base hown')
  rcases hown.2 with ⟨rfl, h0⟩ | ⟨g, cap, cur, rfl, hbase, hh, hle, hmax, hsz, htake⟩
  · subst h0
    exact grow none 0 rfl (fun _ => ⟨rfl, rfl⟩) (fun b hb => by cases hb) (by omega)
  · by_cases hroom : n + m ≤ cap
    · refine wpList_append_fits w hg s x 32 hop 0 5 i0 1 Try.underlying32 hi hz1 g n cap xs hs hown ad m c news hx (by rw [hn, Nat.mul_one]) hc h1 hroom ?_
      intro w' hown' hgr
      exact hK g cap w' (.inl rfl) hgr hown'
    · refine grow (some ⟨g, 0, none⟩) cap rfl (fun h => by cases h) ?_ (by omega)
      intro b hb j u hu
      cases hb
      exact hown.cells (g := g) rfl j u hu

theorem own_cell {w : World} {g n cap : Nat} {L : List Nat} (h : w.ownsRow 0 5 1 (.slice (some ⟨g, 0, none⟩) n cap) n (bys L)) (j : Nat) (hj : j < n) : w.cell? ⟨g, j, none⟩ = some (.int .u8 (nth L j : Nat)) := by
  have hl : L.length = n := by have := h.1; rw [bys_length] at this; omega
  rw [h.cellAt j (by omega)]
  exact nth_bys L j (by omega)
theorem own_set {w : World} {g n cap : Nat} {L : List Nat} (h : w.ownsRow 0 5 1 (.slice (some ⟨g, 0, none⟩) n cap) n (bys L)) (j x : Nat) :
    (w.setCell ⟨g, j, none⟩ (.int .u8 (x : Int))).ownsRow 0 5 1 (.slice (some ⟨g, 0, none⟩) n cap) n (bys (L.set j x)) := by
  have := (h.stored j (.int .u8 (x : Int))).1
  have e : (bys L).set j (.int .u8 (x : Int)) = bys (L.set j x) := by simp [bys, List.map_set]
  rw [e] at this; exact this
theorem two_cells (w : World) (j : Nat) (u : Value) (h : [Value.int .u8 90, Value.int .u8 90][j]? = some u) : (w.alloc (.cells #[.int .u8 90, .int .u8 90] 5)).cell? ((⟨w.heap.size, 0, none⟩ : Addr).add j) = some u := by
  rw [addr_add, cell_of_row _ _ _ _ _ _ (heap_alloc_new w _)]
  simpa using h

theorem own_head {w : World} {g n cap : Nat} {xs : List Value} (h : w.ownsRow 0 5 1 (.slice (some ⟨g, 0, none⟩) n cap) n xs) (hn : 0 < n) : ∃ u, w.cell? ⟨g, 0, none⟩ = some u := by
  rw [h.cellAt 0 (by omega)]
  have := h.1
  exact ⟨_, List.getElem?_eq_getElem (by omega)⟩
theorem grown_new {a b c : World} {g : Nat} {r : Option Nat} (h : a.grownBy b r) (k : b.grownBy c (some g)) (hg : r = some g ∨ a.heap.size ≤ g) : a.grownBy c r :=
  ⟨k.os.trans h.os, k.tape.trans h.tape, k.output.trans h.output, Nat.le_trans h.size k.size, fun i hi hn => (k.block i (Nat.lt_of_lt_of_le hi h.size) (by rcases hg with rfl | hg <;> simp_all <;> omega)).trans (h.block i hi hn)⟩
theorem spoil_nil (w : World) : Calls Try.prog 36 #[.slice none 0 0] w fun e w' => e = .returned (.tuple #[]) ∧ w.grownBy w' none := by
  go_enter Try.func36, Try.ntmps36
  go_wp2
  refine wp_loop_rounds 1 ?_; rw [rounds_succ]
  go_wp2_with (at_builtin; refine wpList_apB _ rfl _ _ rfl (.slice none 0 0) 0 [] rfl (World.ownsRow_nil _ _ _ _) ⟨w.heap.size, 0, none⟩ 2 2 [.int .u8 90, .int .u8 90] rfl rfl (two_cells w) (by simp [Value.oneCell']) (by decide) (by decide) ?_; intro g cap w1 hg1 hgr1 hown1; obtain ⟨u1, hc1⟩ := own_head hown1 (by omega); have hf1 := hown1.frozenAt 0)
  go_end0
  refine ⟨rfl, grown_new (grown_trans (World.grownBy_alloc _ _ _) hgr1) (grown_set _ _ _ _) ?_⟩
  rcases hg1 with h | h
  · exact .inl h
  · simp at h; exact .inr (by omega)
theorem spoil_some (g n cap : Nat) (L : List Nat) (w : World) (h : w.ownsRow 0 5 1 (.slice (some ⟨g, 0, none⟩) n cap) n (bys L)) (hL : IsB L) (hn : n ≤ 140737488351240) :
    Calls Try.prog 36 #[.slice (some ⟨g, 0, none⟩) n cap] w fun e w' => e = .returned (.tuple #[]) ∧ w.grownBy w' (some g) := by
  go_enter Try.func36, Try.ntmps36
  go_wp2
  go_loopw [2] (fun i wr => ∃ k : Nat, k ≤ n ∧ i = .int .i64 k ∧ w.grownBy wr (some g) ∧ ∃ D, wr.ownsRow 0 5 1 (.slice (some ⟨g, 0, none⟩) n cap) n (bys D) ∧ IsB D) (fun i _ => n - (intOf i).toNat)
  case atStart => exact ⟨0, by omega, rfl, World.grownBy.refl _ _, L, h, hL⟩
  case round =>
    obtain ⟨k, hk, rfl, hgr, D, hown, hD⟩ := hrel
    by_cases hlt : k < n
    · have hc := own_cell hown k hlt
      have hf := hown.frozenAt k
      have hx : bits .xor .u8 (nth D k : Nat) 90 = ((nth D k ^^^ 90 : Nat) : Int) := u8_xor_nat (nth D k) 90 (hD.nth k) (by decide)
      have R := own_set hown k (nth D k ^^^ 90)
      go_wp2
      go_roundw
      case rel => exact ⟨k + 1, by omega, by go_num, grown_trans hgr (grown_set _ _ _ _), _, R, isB_set hD _ _ (Fld.xor_lt (hD.nth k) (by decide))⟩
      case measure => simp [intOf]; omega
    · go_wp2_with (at_builtin; refine wpList_apB _ rfl _ _ rfl (.slice (some ⟨g, 0, none⟩) n cap) n (bys D) rfl (hown.alloc _) ⟨wr.heap.size, 0, none⟩ 2 2 [.int .u8 90, .int .u8 90] rfl rfl (two_cells wr) (by simp [Value.oneCell']) (by decide) (by omega) ?_; intro g' cap' w1 hg1 hgr1 hown1; obtain ⟨u1, hc1⟩ := own_head hown1 (by omega); have hf1 := hown1.frozenAt 0)
      go_end0
      refine ⟨rfl, grown_new (grown_trans hgr (grown_trans (World.grownBy_alloc _ _ _) hgr1)) (grown_set _ _ _ _) ?_⟩
      have := hgr.size
      rcases hg1 with h | h
      · exact .inl h
      · simp at h; exact .inr (by omega)
end Go.Proofs.Ytdpgblojdppfeaa
