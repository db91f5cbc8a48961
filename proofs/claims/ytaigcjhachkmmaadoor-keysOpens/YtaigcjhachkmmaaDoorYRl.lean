import Derived.Test.YtaigcjhachkmmaaDoorYKm
import Derived.Test.YtaigcjhachkmmaaDoorYNC
import Derived.Test.YtaigcjhachkmmaaDoorYRt
namespace Go.Proofs.YtaigcjhachkmmaaDoor
open Go.RowKit
set_option maxRecDepth 100000
set_option linter.unusedVariables false
set_option linter.unusedSimpArgs false
theorem own_from {w : World} {lo : Nat} {a : Option Addr} {n cap : Nat} {L : List Nat} (h : Ans w lo a n cap L) : w.ownsRow lo 5 1 (.slice a n cap) n (bys L) := by
  refine ⟨h.own.1, ?_⟩
  rcases h.own.2 with h1 | ⟨g, cap', cur, h1, _, h2⟩
  · exact .inl h1
  · refine .inr ⟨g, cap', cur, h1, h.new g (by rw [h1]; rfl), h2⟩
/-- 'append(v, x...)' of bytes, x however long -/
theorem wpList_joinA (w0 w : World) (lo : Nat) {ops : Array Oper} {rest : List Oper} {o : Oper} {a : Act} {Q : Exit → Act → World → Prop} (hg : o.guard = none) (s x : Operand)
    (hop : o.op = Op.call { callee := .builtin .append, args := #[s, x], argTypes := #[25, 25] }) (ao : Option Addr) (m co : Nat) (D : List Nat) (hs : a.eval s = .slice ao m co)
    (hA : Ans w lo ao m co D) (hm0 : 0 < m) (hlo : w0.heap.size ≤ lo) (hlw : lo ≤ w.heap.size) (hG : w0.grownBy w none) (ax : Option Addr) (k cx : Nat) (X : List Nat) (hx : a.eval x = .slice ax k cx) (hX : Rd w ax k cx X)
    (hb : m + k ≤ 140737488355000)
    (hK : ∀ a1 c1 w', Ans w' lo a1 (m + k) c1 (D ++ X) → w0.grownBy w' none → w.grownBy w' (Value.slice ao m co).ownBlock → wpList Tryd.prog ops Q rest (a.put o.dst (.slice a1 (m + k) c1)) w') :
    wpList Tryd.prog ops Q (o :: rest) a w := by
  by_cases hk : 0 < k
  · obtain ⟨b, off, rfl, _, _⟩ := hX.at' hk
    refine wpList_joinB w0 w lo hg s x hop ao m co D hs hA hlo hlw hG ⟨b, off, none⟩ k cx X hx hX.len hX.byte (cells_rd hX hk) hk hb ?_
    intro gx cx' w' h1 h2 _ h4
    exact hK _ _ _ h1 h2 h4
  · obtain rfl : k = 0 := by omega
    have hXz : X = [] := List.eq_nil_of_length_eq_zero hX.len
    subst hXz
    have hcb := hX.max
    obtain ⟨i0, hi, hz0, hz1, hz2⟩ := info_parts Tryd.info_u8
    cases ax with
    | none =>
      have hc0 : cx = 0 := hX.nil rfl
      subst hc0
      refine wpList_append_own_none hg s x 25 hop 0 5 i0 1 Tryd.underlying25 hi (.slice ao m co) m (bys D) hs hA.own hx ?_
      refine hK ao co w ?_ hG (World.grownBy.refl _ _)
      rw [List.append_nil]; exact hA
    | some ad =>
      refine wpList_append_own w hg s x 25 hop lo 5 i0 (.int .u8 0) 1 1 Tryd.underlying25 hi hz0 hz1 hz2 rfl (by decide) (.slice ao m co) m (bys D) hs (own_from hA) ad 0 cx [] hx rfl (fun j u h => by simp at h) (fun u h => by simp at h) (by have := hA.max; omega) (by omega) hlw ?_
      intro v' w' hown' hgr hnil
      rw [List.append_nil] at hown'
      rcases hown'.2 with ⟨_, h0⟩ | ⟨g', cap', cur, rfl, hge, hrest⟩
      · omega
      · refine hK _ _ w' ?_ (grown_far hG hgr (fun g h => Nat.le_trans hlo (hA.new g h))) hgr
        rw [List.append_nil]
        exact ⟨own_base hown', hA.byte, fun g h => by have e : g' = g := Option.some.inj h; omega⟩
/-- the bytes that are sealed: head and hidden body; with the tag -/
def slH (W : Nat → Nat) (c i : Nat) (B : List Nat) : List Nat := [i] ++ beT 6 c 6 ++ cvL W c B
def slL (W : Nat → Nat) (c i : Nat) (B : List Nat) : List Nat := slH W c i B ++ tagL W c (slH W c i B)
theorem kmB_true {id : Int} {n : Nat} {S : List Int} {top seen : Int} (h : kmB id n S top seen = true) : (0 ≤ id ∧ id ≤ 255) ∧ n = 8 ∧ ∀ i, i < 8 → nthI S i = ((nthI S i).toNat : Int) ∧ (nthI S i).toNat < 4294967296 := by
  unfold kmB at h
  simp only [Bool.and_eq_true, beq_iff_eq] at h
  obtain ⟨⟨⟨h1, h2⟩, _⟩, _⟩ := h
  refine ⟨kwB_ok h1, ?_⟩
  unfold wdE at h2
  by_cases h8 : n = 8
  · rw [if_pos h8] at h2
    by_cases hw : wdB S = true
    · exact ⟨h8, fun i hi => by have := wdB_ok hw i hi; omega⟩
    · rw [if_neg hw] at h2; omega
  · rw [if_neg h8] at h2; omega
end Go.Proofs.YtaigcjhachkmmaaDoor
