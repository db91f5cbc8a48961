import Derived.Test.YtlmddjkplnbadaaKxOw
namespace Go.Proofs.Ytlmddjkplnbadaa
open Go.RowKit
set_option maxRecDepth 100000
set_option linter.unusedVariables false
set_option linter.unusedSimpArgs false

theorem BxS.cell13 {w : World} {g : Nat} {t : TypeId} {a0 a1 a2 a3 a4 a5 a6 a7 a8 a9 aa ab ac : Value} (k : BxS w g t #[a0, a1, a2, a3, a4, a5, a6, a7, a8, a9, aa, ab, ac]) : w.cell? ⟨g, 0, none⟩ = some a0 ∧ w.cell? ⟨g, 1, none⟩ = some a1 ∧ w.cell? ⟨g, 2, none⟩ = some a2 ∧ w.cell? ⟨g, 3, none⟩ = some a3 ∧ w.cell? ⟨g, 4, none⟩ = some a4 ∧ w.cell? ⟨g, 5, none⟩ = some a5 ∧ w.cell? ⟨g, 6, none⟩ = some a6 ∧ w.cell? ⟨g, 7, none⟩ = some a7 ∧ w.cell? ⟨g, 8, none⟩ = some a8 ∧ w.cell? ⟨g, 9, none⟩ = some a9 ∧ w.cell? ⟨g, 10, none⟩ = some aa ∧ w.cell? ⟨g, 11, none⟩ = some ab ∧ w.cell? ⟨g, 12, none⟩ = some ac := by
  simp [World.cell?, show w.heap[g]? = _ from k]
/-- rows that are not written lie as they lay -/
theorem Ans.fz {w w' : World} {p : Nat → Prop} {lo n c : Nat} {a : Option Addr} {L : List Nat} (h : Ans w lo a n c L) (hF : Fz p w w') (hn : ∀ x, (Value.slice a n c).ownBlock = some x → ¬ p x) : Ans w' lo a n c L := by
  refine ⟨⟨h.own.1, ?_⟩, h.byte, h.new⟩
  rcases h.own.2 with h1 | ⟨g, cap, cur, h1, h2, hh, h3⟩
  · exact .inl h1
  · exact .inr ⟨g, cap, cur, h1, h2, (hF.block g (Array.getElem?_eq_some_iff.1 hh).1 (hn g (by rw [h1]; rfl))).trans hh, h3⟩
theorem OwR.fz {w w' : World} {p : Nat → Prop} {lo n c : Nat} {a : Option Addr} {rs : List Rw} (h : OwR w lo a n c rs) (hF : Fz p w w') (hn : ∀ x, Ofr (.slice a n c) rs x → ¬ p x) : OwR w' lo a n c rs := by
  refine ⟨⟨h.own.1, ?_⟩, h.len, h.new, fun r hr => (h.each r hr).fz hF (fun x e => hn x (.inr ⟨r, hr, e⟩)), h.apart⟩
  rcases h.own.2 with h1 | ⟨g, cap, cur, h1, h2, hh, h3⟩
  · exact .inl h1
  · exact .inr ⟨g, cap, cur, h1, h2, (hF.block g (Array.getElem?_eq_some_iff.1 hh).1 (hn g (.inl (by rw [h1]; rfl)))).trans hh, h3⟩
theorem OwR.box {w : World} {lo n c g : Nat} {a : Option Addr} {rs : List Rw} {t : TypeId} {cs : Array Value} (h : OwR w lo a n c rs) (b : BxS w g t cs) (ht : 22 ≠ t) : (Value.slice a n c).ownBlock ≠ some g := by
  intro e
  rcases h.own.2 with ⟨h1, _⟩ | ⟨x, cap, cur, h1, _, hh, _⟩
  · rw [h1] at e; simp [Value.ownBlock] at e
  · rw [h1] at e
    have e1 : x = g := Option.some.inj e
    subst e1
    have e2 : some (Obj.cells cur 22) = some (.cells cs t) := hh.symm.trans b
    injection e2 with e3
    injection e3 with _ e4
    exact ht e4
theorem Ans.box {w : World} {lo n c g : Nat} {a : Option Addr} {L : List Nat} {t : TypeId} {cs : Array Value} (h : Ans w lo a n c L) (b : BxS w g t cs) (ht : 5 ≠ t) : (Value.slice a n c).ownBlock ≠ some g := by
  intro e
  rcases h.own.2 with ⟨h1, _⟩ | ⟨x, cap, cur, h1, _, hh, _⟩
  · rw [h1] at e; simp [Value.ownBlock] at e
  · rw [h1] at e
    have e1 : x = g := Option.some.inj e
    subst e1
    have e2 : some (Obj.cells cur 5) = some (.cells cs t) := hh.symm.trans b
    injection e2 with e3
    injection e3 with _ e4
    exact ht e4
theorem stc_err (g i : Nat) (n : Int) (w : World) (hc : ∃ u, w.cell? ⟨g, i, none⟩ = some u) (hf : w.frozen? ⟨g, i, none⟩ = false) : (Instr.storeAt 29 (.pointer (some ⟨g, i, none⟩)) (.int .i64 n)).run Try.prog w = .ok () (w.setCell ⟨g, i, none⟩ (.int .i64 n)) := by
  obtain ⟨u, hc⟩ := hc
  simp [go_sem, hc, hf]
theorem rd_nought (w : World) : Rd (w.alloc (.cells #[.int .u8 0] 5)) (some ⟨w.heap.size, 0, none⟩) 1 1 [0] := by
  have hB : Blk (w.alloc (.cells #[.int .u8 ((0 : Nat) : Int)] 5)) w.heap.size [0] := heap_alloc_new w _
  exact hB.rd (by intro x hx; simp at hx; omega) rfl (by decide)
theorem ofr_lo {w : World} {lo : Nat} {a : Option Addr} {n c : Nat} {rs : List Rw} (h : OwR w lo a n c rs) {x : Nat} (hx : Ofr (.slice a n c) rs x) : lo ≤ x := by
  rcases hx with h1 | ⟨r, hr, h1⟩
  · exact h.new x h1
  · exact (h.each r hr).new x h1
theorem ofr_hi {hi : Nat} {v : Value} {rs : List Rw} (h : Bef hi v rs) {x : Nat} (hx : Ofr v rs x) : x < hi := by
  rcases hx with h1 | ⟨r, hr, h1⟩
  · exact h.1 x h1
  · exact h.2 r hr x h1
theorem BxS.fz {w w' : World} {p : Nat → Prop} {g : Nat} {t : TypeId} {cs : Array Value} (h : BxS w g t cs) (hF : Fz p w w') (hn : ¬ p g) : BxS w' g t cs := (hF.block g h.lt hn).trans h
theorem ofr_box {w : World} {lo : Nat} {a : Option Addr} {n c g : Nat} {rs : List Rw} {t : TypeId} {cs : Array Value} (h : OwR w lo a n c rs) (b : BxS w g t cs) (h1 : 22 ≠ t) (h2 : 5 ≠ t) {x : Nat} (hx : Ofr (.slice a n c) rs x) : ¬ x = g := by
  intro e
  subst e
  rcases hx with h3 | ⟨r, hr, h3⟩
  · exact h.box b h1 h3
  · exact (h.each r hr).box b h2 h3
/-- twelve cells of a box are written -/
def set12 (w : World) (g : Nat) (v0 v1 v2 v3 v4 v5 v6 v7 v8 v9 v10 v11 : Value) : World := (((((((((((w.setCell ⟨g, 0, none⟩ v0).setCell ⟨g, 1, none⟩ v1).setCell ⟨g, 2, none⟩ v2).setCell ⟨g, 3, none⟩ v3).setCell ⟨g, 4, none⟩ v4).setCell ⟨g, 5, none⟩ v5).setCell ⟨g, 6, none⟩ v6).setCell ⟨g, 7, none⟩ v7).setCell ⟨g, 8, none⟩ v8).setCell ⟨g, 9, none⟩ v9).setCell ⟨g, 10, none⟩ v10).setCell ⟨g, 11, none⟩ v11
theorem set12_grown (w : World) (g : Nat) (v0 v1 v2 v3 v4 v5 v6 v7 v8 v9 v10 v11 : Value) : w.grownBy (set12 w g v0 v1 v2 v3 v4 v5 v6 v7 v8 v9 v10 v11) (some g) := grown_trans (grown_trans (grown_trans (grown_trans (grown_trans (grown_trans (grown_trans (grown_trans (grown_trans (grown_trans (grown_trans (grown_set w g 0 v0) (grown_set (w.setCell ⟨g, 0, none⟩ v0) g 1 v1)) (grown_set ((w.setCell ⟨g, 0, none⟩ v0).setCell ⟨g, 1, none⟩ v1) g 2 v2)) (grown_set (((w.setCell ⟨g, 0, none⟩ v0).setCell ⟨g, 1, none⟩ v1).setCell ⟨g, 2, none⟩ v2) g 3 v3)) (grown_set ((((w.setCell ⟨g, 0, none⟩ v0).setCell ⟨g, 1, none⟩ v1).setCell ⟨g, 2, none⟩ v2).setCell ⟨g, 3, none⟩ v3) g 4 v4)) (grown_set (((((w.setCell ⟨g, 0, none⟩ v0).setCell ⟨g, 1, none⟩ v1).setCell ⟨g, 2, none⟩ v2).setCell ⟨g, 3, none⟩ v3).setCell ⟨g, 4, none⟩ v4) g 5 v5)) (grown_set ((((((w.setCell ⟨g, 0, none⟩ v0).setCell ⟨g, 1, none⟩ v1).setCell ⟨g, 2, none⟩ v2).setCell ⟨g, 3, none⟩ v3).setCell ⟨g, 4, none⟩ v4).setCell ⟨g, 5, none⟩ v5) g 6 v6)) (grown_set (((((((w.setCell ⟨g, 0, none⟩ v0).setCell ⟨g, 1, none⟩ v1).setCell ⟨g, 2, none⟩ v2).setCell ⟨g, 3, none⟩ v3).setCell ⟨g, 4, none⟩ v4).setCell ⟨g, 5, none⟩ v5).setCell ⟨g, 6, none⟩ v6) g 7 v7)) (grown_set ((((((((w.setCell ⟨g, 0, none⟩ v0).setCell ⟨g, 1, none⟩ v1).setCell ⟨g, 2, none⟩ v2).setCell ⟨g, 3, none⟩ v3).setCell ⟨g, 4, none⟩ v4).setCell ⟨g, 5, none⟩ v5).setCell ⟨g, 6, none⟩ v6).setCell ⟨g, 7, none⟩ v7) g 8 v8)) (grown_set (((((((((w.setCell ⟨g, 0, none⟩ v0).setCell ⟨g, 1, none⟩ v1).setCell ⟨g, 2, none⟩ v2).setCell ⟨g, 3, none⟩ v3).setCell ⟨g, 4, none⟩ v4).setCell ⟨g, 5, none⟩ v5).setCell ⟨g, 6, none⟩ v6).setCell ⟨g, 7, none⟩ v7).setCell ⟨g, 8, none⟩ v8) g 9 v9)) (grown_set ((((((((((w.setCell ⟨g, 0, none⟩ v0).setCell ⟨g, 1, none⟩ v1).setCell ⟨g, 2, none⟩ v2).setCell ⟨g, 3, none⟩ v3).setCell ⟨g, 4, none⟩ v4).setCell ⟨g, 5, none⟩ v5).setCell ⟨g, 6, none⟩ v6).setCell ⟨g, 7, none⟩ v7).setCell ⟨g, 8, none⟩ v8).setCell ⟨g, 9, none⟩ v9) g 10 v10)) (grown_set (((((((((((w.setCell ⟨g, 0, none⟩ v0).setCell ⟨g, 1, none⟩ v1).setCell ⟨g, 2, none⟩ v2).setCell ⟨g, 3, none⟩ v3).setCell ⟨g, 4, none⟩ v4).setCell ⟨g, 5, none⟩ v5).setCell ⟨g, 6, none⟩ v6).setCell ⟨g, 7, none⟩ v7).setCell ⟨g, 8, none⟩ v8).setCell ⟨g, 9, none⟩ v9).setCell ⟨g, 10, none⟩ v10) g 11 v11)
theorem set12_box {w : World} {g : Nat} {t : TypeId} {a0 a1 a2 a3 a4 a5 a6 a7 a8 a9 a10 a11 : Value} (h : BxS w g t #[a0, a1, a2, a3, a4, a5, a6, a7, a8, a9, a10, a11]) (v0 v1 v2 v3 v4 v5 v6 v7 v8 v9 v10 v11 : Value) : BxS (set12 w g v0 v1 v2 v3 v4 v5 v6 v7 v8 v9 v10 v11) g t #[v0, v1, v2, v3, v4, v5, v6, v7, v8, v9, v10, v11] := by
  unfold set12
  have h0 : BxS (w.setCell ⟨g, 0, none⟩ v0) g t #[v0, a1, a2, a3, a4, a5, a6, a7, a8, a9, a10, a11] := h.set 0 v0
  have h1 : BxS ((w.setCell ⟨g, 0, none⟩ v0).setCell ⟨g, 1, none⟩ v1) g t #[v0, v1, a2, a3, a4, a5, a6, a7, a8, a9, a10, a11] := h0.set 1 v1
  have h2 : BxS (((w.setCell ⟨g, 0, none⟩ v0).setCell ⟨g, 1, none⟩ v1).setCell ⟨g, 2, none⟩ v2) g t #[v0, v1, v2, a3, a4, a5, a6, a7, a8, a9, a10, a11] := h1.set 2 v2
  have h3 : BxS ((((w.setCell ⟨g, 0, none⟩ v0).setCell ⟨g, 1, none⟩ v1).setCell ⟨g, 2, none⟩ v2).setCell ⟨g, 3, none⟩ v3) g t #[v0, v1, v2, v3, a4, a5, a6, a7, a8, a9, a10, a11] := h2.set 3 v3
  have h4 : BxS (((((w.setCell ⟨g, 0, none⟩ v0).setCell ⟨g, 1, none⟩ v1).setCell ⟨g, 2, none⟩ v2).setCell ⟨g, 3, none⟩ v3).setCell ⟨g, 4, none⟩ v4) g t #[v0, v1, v2, v3, v4, a5, a6, a7, a8, a9, a10, a11] := h3.set 4 v4
  have h5 : BxS ((((((w.setCell ⟨g, 0, none⟩ v0).setCell ⟨g, 1, none⟩ v1).setCell ⟨g, 2, none⟩ v2).setCell ⟨g, 3, none⟩ v3).setCell ⟨g, 4, none⟩ v4).setCell ⟨g, 5, none⟩ v5) g t #[v0, v1, v2, v3, v4, v5, a6, a7, a8, a9, a10, a11] := h4.set 5 v5
  have h6 : BxS (((((((w.setCell ⟨g, 0, none⟩ v0).setCell ⟨g, 1, none⟩ v1).setCell ⟨g, 2, none⟩ v2).setCell ⟨g, 3, none⟩ v3).setCell ⟨g, 4, none⟩ v4).setCell ⟨g, 5, none⟩ v5).setCell ⟨g, 6, none⟩ v6) g t #[v0, v1, v2, v3, v4, v5, v6, a7, a8, a9, a10, a11] := h5.set 6 v6
  have h7 : BxS ((((((((w.setCell ⟨g, 0, none⟩ v0).setCell ⟨g, 1, none⟩ v1).setCell ⟨g, 2, none⟩ v2).setCell ⟨g, 3, none⟩ v3).setCell ⟨g, 4, none⟩ v4).setCell ⟨g, 5, none⟩ v5).setCell ⟨g, 6, none⟩ v6).setCell ⟨g, 7, none⟩ v7) g t #[v0, v1, v2, v3, v4, v5, v6, v7, a8, a9, a10, a11] := h6.set 7 v7
  have h8 : BxS (((((((((w.setCell ⟨g, 0, none⟩ v0).setCell ⟨g, 1, none⟩ v1).setCell ⟨g, 2, none⟩ v2).setCell ⟨g, 3, none⟩ v3).setCell ⟨g, 4, none⟩ v4).setCell ⟨g, 5, none⟩ v5).setCell ⟨g, 6, none⟩ v6).setCell ⟨g, 7, none⟩ v7).setCell ⟨g, 8, none⟩ v8) g t #[v0, v1, v2, v3, v4, v5, v6, v7, v8, a9, a10, a11] := h7.set 8 v8
  have h9 : BxS ((((((((((w.setCell ⟨g, 0, none⟩ v0).setCell ⟨g, 1, none⟩ v1).setCell ⟨g, 2, none⟩ v2).setCell ⟨g, 3, none⟩ v3).setCell ⟨g, 4, none⟩ v4).setCell ⟨g, 5, none⟩ v5).setCell ⟨g, 6, none⟩ v6).setCell ⟨g, 7, none⟩ v7).setCell ⟨g, 8, none⟩ v8).setCell ⟨g, 9, none⟩ v9) g t #[v0, v1, v2, v3, v4, v5, v6, v7, v8, v9, a10, a11] := h8.set 9 v9
  have h10 : BxS (((((((((((w.setCell ⟨g, 0, none⟩ v0).setCell ⟨g, 1, none⟩ v1).setCell ⟨g, 2, none⟩ v2).setCell ⟨g, 3, none⟩ v3).setCell ⟨g, 4, none⟩ v4).setCell ⟨g, 5, none⟩ v5).setCell ⟨g, 6, none⟩ v6).setCell ⟨g, 7, none⟩ v7).setCell ⟨g, 8, none⟩ v8).setCell ⟨g, 9, none⟩ v9).setCell ⟨g, 10, none⟩ v10) g t #[v0, v1, v2, v3, v4, v5, v6, v7, v8, v9, v10, a11] := h9.set 10 v10
  have h11 : BxS ((((((((((((w.setCell ⟨g, 0, none⟩ v0).setCell ⟨g, 1, none⟩ v1).setCell ⟨g, 2, none⟩ v2).setCell ⟨g, 3, none⟩ v3).setCell ⟨g, 4, none⟩ v4).setCell ⟨g, 5, none⟩ v5).setCell ⟨g, 6, none⟩ v6).setCell ⟨g, 7, none⟩ v7).setCell ⟨g, 8, none⟩ v8).setCell ⟨g, 9, none⟩ v9).setCell ⟨g, 10, none⟩ v10).setCell ⟨g, 11, none⟩ v11) g t #[v0, v1, v2, v3, v4, v5, v6, v7, v8, v9, v10, v11] := h10.set 11 v11
  exact h11
end Go.Proofs.Ytlmddjkplnbadaa
