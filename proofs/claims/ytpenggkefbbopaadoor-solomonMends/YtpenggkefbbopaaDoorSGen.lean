import Derived.Test.YtpenggkefbbopaaDoorSRev
namespace Go.Proofs.YtpenggkefbbopaaDoor
open Go.RowKit
set_option maxRecDepth 100000
set_option linter.unusedVariables false
set_option linter.unusedSimpArgs false

/-- 'append(v, x...)', v the call's own and empty -/
theorem wpList_apE (w : World) {ops : Array Oper} {rest : List Oper} {o : Oper} {a : Act} {Q : Exit → Act → World → Prop} (hg : o.guard = none) (s x : Operand)
    (hop : o.op = Op.call { callee := .builtin .append, args := #[s, x], argTypes := #[22, 22] }) (v : Value) (hs : a.eval s = v)
    (hown : w.ownsRow 0 5 1 v 0 []) (ad : Option Addr) (m c : Nat) (L : List Nat) (hx : a.eval x = .slice ad m c) (hR : Rd w ad m c L) (hm : 0 < m) (hb : m ≤ 140737488355328)
    (hK : ∀ g cap w', (v.ownBlock = some g ∨ w.heap.size ≤ g) → w.grownBy w' v.ownBlock → w'.ownsRow 0 5 1 (.slice (some ⟨g, 0, none⟩) m cap) m (bys L) →
      wpList Tryd.prog ops Q rest (a.put o.dst (.slice (some ⟨g, 0, none⟩) m cap)) w') :
    wpList Tryd.prog ops Q (o :: rest) a w := by
  obtain ⟨b, off, rfl, hbw, hc⟩ := hR.at' hm
  refine wpList_apB w hg s x hop v 0 [] hs hown ⟨b, off, none⟩ m c (bys L) hx (by rw [bys_length, hR.len]) ?_ (bys_one L) hm (by omega) ?_
  · intro j u hu
    have hj : j < L.length := by
      have := (List.getElem?_eq_some_iff.1 hu).1
      rw [bys_length] at this; exact this
    rw [nth_bys L j hj] at hu
    rw [← hu, addr_add]
    exact hc j (by rw [← hR.len]; exact hj)
  · intro g cap w' h1 h2 h3
    rw [Nat.zero_add] at h3 ⊢
    exact hK g cap w' h1 h2 (by simpa using h3)
theorem own_none (w : World) : (w.alloc (.cells #[] 5)).ownsRow 0 5 1 (.slice (some ⟨w.heap.size, 0, none⟩) 0 0) 0 [] :=
  ⟨rfl, .inr ⟨_, 0, #[], rfl, Nat.zero_le _, heap_alloc_new w _, Nat.le_refl _, Nat.zero_le _, rfl, rfl⟩⟩
theorem clone_any (ad : Option Addr) (n cap : Nat) (L : List Nat) (w : World) (h : Rd w ad n cap L) (h0 : 0 < n) (hn : n ≤ 140737488355328) :
    Calls Tryd.prog 12 #[.slice ad n cap] w fun e w' => ∃ g c', e = .returned (.slice (some ⟨g, 0, none⟩) n c') ∧ Ans w' w.heap.size (some ⟨g, 0, none⟩) n c' L ∧ w.grownBy w' none := by
  obtain ⟨b, off, rfl, hbw, hc⟩ := h.at' h0
  have h1 := h.keep (World.grownBy_alloc w (.cells #[] 5) none)
  have h2 := own_none w
  go_enter Tryd.func12, Tryd.ntmps12
  go_wp2_with (first | (rw [Lib.run_eql_slice_nil (h := Tryd.underlying22)]) | (at_builtin; refine wpList_apE _ rfl (.tmp 5) (.tmp 6) rfl _ rfl h2 _ n cap L rfl h1 h0 hn ?_; intro g c' w2 hg hgr hown))
  go_ret
  refine ⟨g, c', rfl, ⟨hown, h.byte, fun g' hg' => ?_⟩, new_then (World.grownBy_alloc w _ none) hgr⟩
  simp only [Value.ownBlock, Option.some.injEq] at hg'
  subst hg'
  rcases hg with h | h
  · have h' : w.heap.size = g := Option.some.inj h
    omega
  · have h' := (World.grownBy_alloc w (.cells #[] 5) none).size
    omega
theorem poly_any (ad : Option Addr) (n cap : Nat) (L : List Nat) (w : World) (h : Rd w ad n cap L) (h0 : 0 < n) (hn : n ≤ 140737488355328) :
    Calls Tryd.prog 14 #[.slice ad n cap] w fun e w' => ∃ g c', e = .returned (.slice (some ⟨g, 0, none⟩) n c') ∧ Ans w' w.heap.size (some ⟨g, 0, none⟩) n c' L.reverse ∧ w.grownBy w' none := by
  go_enter Tryd.func14, Tryd.ntmps14
  go_wp2_with (first
    | (go_at_call 12; refine (clone_any ad n cap L w h h0 hn).mono ?_; rintro e w1 ⟨g, c', rfl, h1, g01⟩)
    | (go_at_call 25; refine (reverse_any g n c' w.heap.size L w1 h1 hn).mono ?_; rintro e w2 ⟨rfl, h2, g12⟩))
  go_ret
  exact ⟨g, c', rfl, h2, grown_far g01 g12 (fun g' e => h1.new g' (by simp [Value.ownBlock]; exact Option.some.inj e))⟩

/-- the product of all x + Power(j), j from 1 to k -/
def genN : Nat → List Nat
  | 0 => [1]
  | k + 1 => timR (genN k) [pow2 ((k : Int) + 1), 1]
theorem isB_pair (a b : Nat) (ha : a < 256) (hb : b < 256) : IsB [a, b] := by
  intro x hx
  simp at hx
  rcases hx with rfl | rfl <;> assumption
theorem one_ans (w : World) (lo : Nat) (hlo : lo ≤ w.heap.size) : Ans (w.alloc (.cells #[.int .u8 1] 5)) lo (some ⟨w.heap.size, 0, none⟩) 1 1 [1] := by
  have hB : Blk (w.alloc (.cells #[.int .u8 1] 5)) w.heap.size [1] := heap_alloc_new w _
  have := hB.ans (n := 1) (lo := lo) (fun y hy => by simp at hy; omega) (by simp) (by unfold maxLen; simp) hlo
  exact this
theorem pair_rd (w : World) (a : Nat) (ha : a < 256) : Rd (w.alloc (.cells #[.int .u8 (a : Int), .int .u8 1] 5)) (some ⟨w.heap.size, 0, none⟩) 2 2 [a, 1] := by
  have hB : Blk (w.alloc (.cells #[.int .u8 (a : Int), .int .u8 1] 5)) w.heap.size [a, 1] := heap_alloc_new w _
  exact hB.rd (isB_pair a 1 ha (by decide)) rfl (by unfold maxLen; omega)
theorem generator_any (c : Nat) (w : World) (hc : c ≤ 64) :
    Calls Tryd.prog 15 #[.int .i64 c] w fun e w' => ∃ a' n' c', e = .returned (.slice a' n' c') ∧ Ans w' w.heap.size a' n' c' (genN c) ∧ w.grownBy w' none := by
  have h1 := one_ans w w.heap.size (Nat.le_refl _)
  have g1 := World.grownBy_alloc w (.cells #[.int .u8 1] 5) none
  go_enter Tryd.func15, Tryd.ntmps15
  go_wp2
  go_loopw [3, 7] (fun p i wr => ∃ (k : Nat) (ag : Option Addr) (ng cg : Nat), k ≤ c ∧ i = .int .i64 k ∧ p = .slice ag ng cg ∧ w.grownBy wr none ∧ Ans wr w.heap.size ag ng cg (genN k)) (fun _ i _ => c - (intOf i).toNat)
  case atStart => exact ⟨0, _, 1, 1, by omega, rfl, rfl, g1, h1⟩
  case round =>
    obtain ⟨k, ag, ng, cg, hk, rfl, rfl, hgr, hA⟩ := hrel
    by_cases hlt : k < c
    · have hp := pow2_lt ((k : Int) + 1)
      have hpr := pair_rd wr (pow2 ((k : Int) + 1)) hp
      have gA := World.grownBy_alloc wr (.cells #[.int .u8 (pow2 ((k : Int) + 1) : Nat), .int .u8 1] 5) none
      have hAr := hA.rd.keep gA
      have hw1 : wrap64 ((k : Int) + 1) = (k : Int) + 1 := IntWalk.wrap64_in _ ⟨by omega, by omega⟩
      go_wp2_with (first
        | (go_at_call 27; refine (power_any ((k : Int) + 1) wr (by omega) (by omega)).mono ?_; rintro e w' ⟨rfl, hw⟩; have hw := hw.symm; subst hw)
        | (go_at_call 26; refine (times_all ag _ ng 2 cg 2 (genN k) [pow2 ((k : Int) + 1), 1] _ hAr hpr).mono ?_; rintro e w2 ⟨a2, n2, c2, rfl, h2, g2⟩))
      go_roundw
      case rel => exact ⟨k + 1, a2, n2, c2, by omega, by go_num, rfl, grown_trans hgr (grown_trans gA g2), h2.wide (Nat.le_trans hgr.size gA.size)⟩
      case measure => simp [intOf]; omega
    · obtain rfl : k = c := by omega
      go_wp2
      go_ret
      exact ⟨_, _, _, rfl, hA, hgr⟩
end Go.Proofs.YtpenggkefbbopaaDoor
