import Derived.Test.YtdpgblojdppfeaaFTwice
namespace Go.Proofs.Ytdpgblojdppfeaa
open Go.RowKit
set_option maxRecDepth 100000
set_option linter.unusedVariables false
set_option linter.unusedSimpArgs false

theorem list_ext {A B : List Nat} (hl : A.length = B.length) (h : ∀ i, i < A.length → nth A i = nth B i) : A = B := by
  apply List.ext_getElem hl
  intro i h1 h2
  have := h i h1
  unfold nth at this
  rw [List.getD_eq_getElem?_getD, List.getD_eq_getElem?_getD, List.getElem?_eq_getElem h1, List.getElem?_eq_getElem h2] at this
  exact this
theorem nth_out (L : List Nat) (i : Nat) (h : L.length ≤ i) : nth L i = 0 := by
  unfold nth; rw [List.getD_eq_getElem?_getD, List.getElem?_eq_none h]; rfl
theorem nth_map_range (f : Nat → Nat) (n i : Nat) (h : i < n) : nth ((List.range n).map f) i = f i := by
  unfold nth; rw [List.getD_eq_getElem?_getD, List.getElem?_map, List.getElem?_range h]; rfl
theorem nth_zeros (n i : Nat) : nth (List.replicate n 0) i = 0 := by
  by_cases h : i < n
  · unfold nth; rw [List.getD_eq_getElem?_getD, List.getElem?_replicate, if_pos h]; rfl
  · exact nth_out _ _ (by simp; omega)
/-- the sum, not yet trimmed -/
def sumL (P Q : List Nat) : List Nat := (List.range (max P.length Q.length)).map fun i => nth P i ^^^ nth Q i
theorem sumL_of {P Q D : List Nat} (hl : D.length = max P.length Q.length) (h : ∀ i, nth D i = nth P i ^^^ nth Q i) : D = sumL P Q := by
  refine list_ext (by simp [sumL, hl]) fun i hi => ?_
  unfold sumL
  rw [h i, nth_map_range _ _ _ (by omega)]
theorem Blk.ans {w : World} {g n lo : Nat} {D : List Nat} (h : Blk w g D) (hB : IsB D) (hn : n ≤ D.length) (hm : D.length ≤ maxLen) (hlo : lo ≤ g) : Ans w lo (some ⟨g, 0, none⟩) n D.length (D.take n) := by
  refine ⟨⟨by rw [bys_length, List.length_take]; omega, .inr ⟨g, D.length, _, rfl, Nat.zero_le _, h, hn, hm, by simp [bys], ?_⟩⟩, isB_take hB _, ?_⟩
  · simp [bys, List.map_take]
  · intro g' hg'; simp [Value.ownBlock] at hg'; omega
theorem Blk.rd {w : World} {g n : Nat} {D : List Nat} (h : Blk w g D) (hB : IsB D) (hl : D.length = n) (hm : n ≤ maxLen) : Rd w (some ⟨g, 0, none⟩) n n D :=
  ⟨hl, Nat.le_refl _, hm, (fun h => by cases h), hB, fun _ => ⟨g, 0, rfl, h.lt, fun i hi => by rw [Nat.zero_add]; exact h.cell i (by omega)⟩⟩

/-- 'append([]byte(nil), p...)' -/
theorem wpList_clB (w : World) {ops : Array Oper} {rest : List Oper} {o : Oper} {a : Act} {Q : Exit → Act → World → Prop} (hg : o.guard = none) (s x : Operand)
    (hop : o.op = Op.call { callee := .builtin .append, args := #[s, x], argTypes := #[32, 32] }) (hs : a.eval s = .slice none 0 0)
    (ao : Option Addr) (m c : Nat) (L : List Nat) (hx : a.eval x = .slice ao m c) (hR : Rd w ao m c L) (hb : m ≤ 140737488355328)
    (hK : ∀ a' cap w', w.grownBy w' none → Ans w' w.heap.size a' m cap L → wpList Try.prog ops Q rest (a.put o.dst (.slice a' m cap)) w') :
    wpList Try.prog ops Q (o :: rest) a w := by
  obtain ⟨i0, hi, hz0, hz1, hz2⟩ := info_parts Try.info_u8
  by_cases h0 : m = 0
  · subst h0
    have e : L = [] := List.eq_nil_of_length_eq_zero hR.len
    subst e
    have done : wpList Try.prog ops Q rest (a.put o.dst (.slice none 0 0)) w := hK none 0 w (World.grownBy.refl _ _) ⟨World.ownsRow_nil _ _ _ _, hR.byte, fun g h => by simp [Value.ownBlock] at h⟩
    cases ao with
    | none =>
      have hc0 : c = 0 := hR.nil rfl
      subst hc0
      exact wpList_append_own_none hg s x 32 hop 0 5 i0 1 Try.underlying32 hi (.slice none 0 0) 0 [] hs (World.ownsRow_nil _ _ _ _) hx done
    | some ad =>
      refine wpList_append_own w hg s x 32 hop w.heap.size 5 i0 (.int .u8 0) 1 1 Try.underlying32 hi hz0 hz1 hz2 rfl (by decide) (.slice none 0 0) 0 [] hs (World.ownsRow_nil _ _ _ _) ad 0 c [] hx rfl (fun j u h => by simp at h) (fun u h => by simp at h) (by unfold maxLen; omega) (by omega) (Nat.le_refl _) ?_
      intro v' w' hown' hgr hnil
      have hv : v' = .slice none 0 0 := hnil.2 ⟨rfl, rfl⟩
      subst hv
      exact hK none 0 w' hgr ⟨World.ownsRow_nil _ _ _ _, hR.byte, fun g h => by simp [Value.ownBlock] at h⟩
  · obtain ⟨b, off, rfl, hbw, hc⟩ := hR.at' (by omega)
    refine wpList_append_grows w hg s x 32 hop 5 i0 (.int .u8 0) 1 1 Try.underlying32 hi hz0 hz1 hz2 rfl (by decide) none 0 0 [] hs (fun _ => ⟨rfl, rfl⟩) rfl (fun b h => by cases h) ⟨b, off, none⟩ m c (bys L) hx (by rw [bys_length, hR.len]; omega) ?_ (bys_one L) (by omega) (by unfold maxLen; omega) (by omega) ?_
    · intro j u hu
      have hj : j < L.length := by
        have := (List.getElem?_eq_some_iff.1 hu).1
        rw [bys_length] at this; exact this
      rw [nth_bys L j hj] at hu
      rw [← hu, addr_add]
      exact hc j (by rw [← hR.len]; exact hj)
    · intro v' w' hown' hgr
      simp only [Nat.zero_add, List.nil_append] at hown'
      rcases hown'.2 with ⟨_, h1⟩ | ⟨g, cap', cur, rfl, hge, hrest⟩
      · omega
      · exact hK _ cap' w' hgr ⟨own_base hown', hR.byte, fun g' h => by simp [Value.ownBlock] at h; omega⟩

theorem Rd.cut {w : World} {a : Option Addr} {n cap m : Nat} {L : List Nat} (h : Rd w a n cap L) (hm : m ≤ n) : Rd w a m cap (L.take m) := by
  refine ⟨by rw [List.length_take, h.len]; omega, Nat.le_trans hm h.le, h.max, h.nil, isB_take h.byte _, fun h0 => ?_⟩
  obtain ⟨b, off, rfl, hb, hc⟩ := h.at' (by omega)
  refine ⟨b, off, rfl, hb, fun i hi => ?_⟩
  rw [hc i (by omega)]
  have : nth (L.take m) i = nth L i := by
    unfold nth; rw [List.getD_eq_getElem?_getD, List.getD_eq_getElem?_getD, List.getElem?_take, if_pos hi]
  rw [this]
end Go.Proofs.Ytdpgblojdppfeaa
