import Derived.Test.YtdpgblojdppfeaaFSpoil
namespace Go.Proofs.Ytdpgblojdppfeaa
open Go.RowKit
set_option maxRecDepth 100000
set_option linter.unusedVariables false
set_option linter.unusedSimpArgs false

/-- An answer: the bytes L, in memory of its own, from block lo on. -/
structure Ans (w : World) (lo : Nat) (a : Option Addr) (n cap : Nat) (L : List Nat) : Prop where
  own : w.ownsRow 0 5 1 (.slice a n cap) n (bys L)
  byte : IsB L
  new : ∀ g, (Value.slice a n cap).ownBlock = some g → lo ≤ g
theorem Ans.len {w : World} {lo : Nat} {a : Option Addr} {n cap : Nat} {L : List Nat} (h : Ans w lo a n cap L) : L.length = n := by
  have := h.own.1; rw [bys_length] at this; omega
theorem Ans.cases {w : World} {lo : Nat} {a : Option Addr} {n cap : Nat} {L : List Nat} (h : Ans w lo a n cap L) :
    (a = none ∧ n = 0 ∧ cap = 0) ∨ ∃ g, a = some ⟨g, 0, none⟩ ∧ lo ≤ g ∧ g < w.heap.size := by
  rcases h.own.2 with ⟨h1, h2⟩ | ⟨g, cap', cur, h1, _, h3, _⟩
  · simp only [Value.slice.injEq] at h1; exact .inl h1
  · simp only [Value.slice.injEq] at h1
    obtain ⟨rfl, _, _⟩ := h1
    exact .inr ⟨g, rfl, h.new g rfl, (Array.getElem?_eq_some_iff.1 h3).1⟩
theorem Ans.max {w : World} {lo : Nat} {a : Option Addr} {n cap : Nat} {L : List Nat} (h : Ans w lo a n cap L) : n ≤ cap ∧ cap ≤ maxLen := by
  rcases h.own.2 with ⟨h1, h2⟩ | ⟨g, cap', cur, h1, _, h3, h4, h5, _⟩
  · simp only [Value.slice.injEq] at h1; obtain ⟨_, h6, h7⟩ := h1; subst h6; subst h7; exact ⟨Nat.le_refl _, Nat.zero_le _⟩
  · simp only [Value.slice.injEq] at h1; obtain ⟨_, _, h7⟩ := h1; subst h7; exact ⟨h4, h5⟩
theorem Ans.rd {w : World} {lo : Nat} {a : Option Addr} {n cap : Nat} {L : List Nat} (h : Ans w lo a n cap L) : Rd w a n cap L := by
  refine ⟨h.len, h.max.1, h.max.2, fun h0 => ?_, h.byte, fun h0 => ?_⟩
  · rcases h.cases with ⟨_, _, h3⟩ | ⟨g, h1, _⟩
    · exact h3
    · rw [h0] at h1; cases h1
  · rcases h.cases with ⟨_, h2, _⟩ | ⟨g, rfl, _, hl⟩
    · omega
    · exact ⟨g, 0, rfl, hl, fun i hi => by rw [Nat.zero_add]; exact own_cell h.own i hi⟩
theorem Ans.kept {w w' : World} {lo : Nat} {a : Option Addr} {n cap : Nat} {L : List Nat} {r : Option Nat} (h : Ans w lo a n cap L) (hg : w.grownBy w' r) (hne : (Value.slice a n cap).ownBlock = none ∨ (Value.slice a n cap).ownBlock ≠ r) : Ans w' lo a n cap L :=
  ⟨h.own.kept hg hne, h.byte, h.new⟩
theorem spoil_any {w : World} {lo : Nat} {a : Option Addr} {n cap : Nat} {L : List Nat} (h : Ans w lo a n cap L) (hn : n ≤ 140737488351240) :
    Calls Try.prog 36 #[.slice a n cap] w fun e w' => e = .returned (.tuple #[]) ∧ w.grownBy w' (Value.slice a n cap).ownBlock := by
  rcases h.cases with ⟨rfl, rfl, rfl⟩ | ⟨g, rfl, _, _⟩
  · exact spoil_nil w
  · exact spoil_some g n cap L w h.own h.byte hn

theorem twice_any (a b c : Option Addr) (n m k cap cap' cap'' lo : Nat) (L : List Nat) (w : World) (ha : Ans w lo a n cap L) (hb : Rd w b m cap' L) (hc : Rd w c k cap'' L) (hn : n ≤ 140737488351240)
    (hab : ∀ g off, b = some ⟨g, off, none⟩ → some g ≠ (Value.slice a n cap).ownBlock) (hac : ∀ g off, c = some ⟨g, off, none⟩ → some g ≠ (Value.slice a n cap).ownBlock) :
    Calls Try.prog 24 #[.slice a n cap, .slice b m cap', .slice c k cap''] w fun e w' => e = .returned (.bool true) ∧ w.grownBy w' (Value.slice a n cap).ownBlock := by
  have har := ha.rd
  go_enter Try.func24, Try.ntmps24
  go_wp2_with (first | (go_at_call 35; refine (sameBytes_any _ _ _ _ _ _ L _ (by assumption) (by assumption)).mono ?_; rintro e w' ⟨rfl, rfl⟩) | (go_at_call 36; refine (spoil_any ha hn).mono ?_; rintro e w1 ⟨rfl, hgr⟩; have hb1 := hb.grown hgr hab; have hc1 := hc.grown hgr hac))
  go_ret
  exact ⟨rfl, by assumption⟩
end Go.Proofs.Ytdpgblojdppfeaa
