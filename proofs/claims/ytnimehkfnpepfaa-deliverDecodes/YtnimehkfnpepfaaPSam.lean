import Derived.Test.YtnimehkfnpepfaaPTak
namespace Go.Proofs.Ytnimehkfnpepfaa
open Go.RowKit
set_option maxRecDepth 100000
set_option linter.unusedVariables false
set_option linter.unusedSimpArgs false

theorem Roomy.ans {w : World} {g n lo : Nat} {L D : List Nat} (h : Roomy w g n L D) (hL : IsB L) (hl : L.length = n) (hn : n ≤ 140737488351232) (hlo : lo ≤ g) : Ans w lo (some ⟨g, 0, none⟩) n (n + 5) L := by
  refine ⟨⟨by rw [bys_length, hl, Nat.mul_one], .inr ⟨g, n + 5, (bys D).toArray, rfl, Nat.zero_le _, h.blk, by omega, by unfold maxLen; omega, by simp [bys_length, h.len], ?_⟩⟩, hL, fun x hx => ?_⟩
  · simp only [Nat.mul_one, List.toList_toArray]
    apply List.ext_getElem?
    intro i
    by_cases hi : i < n
    · rw [List.getElem?_take, if_pos hi, nth_bys D i (by rw [h.len]; omega), nth_bys L i (by omega), h.own i hi]
    · rw [List.getElem?_eq_none (by simp [bys_length]; omega), List.getElem?_eq_none (by rw [bys_length]; omega)]
  · have e : g = x := Option.some.inj hx
    omega
end Go.Proofs.Ytnimehkfnpepfaa
