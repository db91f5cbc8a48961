import Derived.Test.YtdpgblojdppfeaaFRoom
namespace Go.Proofs.Ytdpgblojdppfeaa
open Go.RowKit
set_option maxRecDepth 100000
set_option linter.unusedVariables false
set_option linter.unusedSimpArgs false

theorem grown_drewN (w : World) (n : Nat) (r : Option Nat) : w.grownBy (w.drewN n) r := ⟨rfl, rfl, rfl, Nat.le_refl _, fun _ _ _ => rfl⟩
theorem Roomy.grown {w w' : World} {g n : Nat} {L D : List Nat} {r : Option Nat} (h : Roomy w g n L D) (hg : w.grownBy w' r) (hne : some g ≠ r) : Roomy w' g n L D :=
  ⟨h.blk.grown hg hne, h.len, h.byte, h.own, h.mark⟩

end Go.Proofs.Ytdpgblojdppfeaa
