import Derived.Test.YtncpignmijgghaaTRSc
namespace Go.Proofs.Ytncpignmijgghaa
open Go.RowKit
set_option maxRecDepth 100000
set_option linter.unusedVariables false
set_option linter.unusedSimpArgs false

theorem mark_rd (w : World) : Rd (w.alloc (.cells #[.int .u8 26, .int .u8 207, .int .u8 252, .int .u8 29] 5)) (some ⟨w.heap.size, 0, none⟩) 4 4 [26, 207, 252, 29] := by
  have hB : Blk (w.alloc (.cells #[.int .u8 26, .int .u8 207, .int .u8 252, .int .u8 29] 5)) w.heap.size [26, 207, 252, 29] := heap_alloc_new w _
  exact hB.rd (by intro x hx; simp at hx; omega) (by decide) (by decide)
theorem rd_news {w : World} {b off n cap : Nat} {L : List Nat} (h : Rd w (some ⟨b, off, none⟩) n cap L) (h0 : 0 < n) : ∀ j u, (bys L)[j]? = some u → w.cell? ((⟨b, off, none⟩ : Addr).add j) = some u := by
  intro j u hu
  have hj : j < L.length := by have := (List.getElem?_eq_some_iff.1 hu).1; rw [bys_length] at this; exact this
  obtain ⟨b', off', e, _, hc⟩ := h.at' h0
  cases e
  rw [nth_bys L j hj] at hu
  rw [addr_add, ← hu]
  exact hc j (by rw [← h.len]; exact hj)
theorem bys_app (A B : List Nat) : bys A ++ bys B = bys (A ++ B) := by simp [bys]
/-- 'append(v, x...)', v an answer, x another -/
theorem wpList_join (w0 w : World) {ops : Array Oper} {rest : List Oper} {o : Oper} {a : Act} {Q : Exit → Act → World → Prop} (hg : o.guard = none) (s x : Operand)
    (hop : o.op = Op.call { callee := .builtin .append, args := #[s, x], argTypes := #[38, 38] }) (ao : Option Addr) (m co lo : Nat) (r : Option Nat) (D : List Nat) (hs : a.eval s = .slice ao m co)
    (hA : Ans w lo ao m co D) (hG : w0.grownBy w r) (hM : Mine w0 r ao m co) (hlo : lo ≤ w0.heap.size) (ax : Option Addr) (nx cx : Nat) (X : List Nat) (hx : a.eval x = .slice ax nx cx) (hR : Rd w ax nx cx X) (h0 : 0 < nx) (hb : m + nx ≤ 140737488355328)
    (hK : ∀ gx cx w', Ans w' lo (some ⟨gx, 0, none⟩) (m + nx) cx (D ++ X) → w0.grownBy w' r → Mine w0 r (some ⟨gx, 0, none⟩) (m + nx) cx → wpList Try.prog ops Q rest (a.put o.dst (.slice (some ⟨gx, 0, none⟩) (m + nx) cx)) w') :
    wpList Try.prog ops Q (o :: rest) a w := by
  obtain ⟨b, off, rfl, _, _⟩ := hR.at' h0
  refine wpList_apB _ hg s x hop (.slice ao m co) m (bys D) hs hA.own ⟨b, off, none⟩ nx cx (bys X) hx (by rw [bys_length, hR.len]) (rd_news hR h0) (bys_one _) h0 hb ?_
  intro gx cx' w2 hgx hgr2 hown2
  rw [bys_app] at hown2
  have hG2 := grown_mine hG hgr2 hM
  have hsz := hG.size
  refine hK gx cx' w2 ⟨hown2, isB_append hA.byte hR.byte, fun g h => ?_⟩ hG2 (fun g h => ?_)
  · have e : gx = g := Option.some.inj h
    subst e
    rcases hgx with h | h
    · exact hA.new gx h
    · exact Nat.le_trans hlo (Nat.le_trans hsz h)
  · have e : gx = g := Option.some.inj h
    subst e
    rcases hgx with h | h
    · exact hM gx h
    · exact .inr (Nat.le_trans hsz h)
theorem frmR_le (L : List Nat) : (frmR L).length ≤ 16416 := by
  unfold frmR frmL
  split
  · simp
  · rw [List.length_append, tab_len, bitL_len, scrL_len]; omega
end Go.Proofs.Ytncpignmijgghaa
