import Derived.Test.YtchbppidepapiaaDoorFMem
namespace Go.Proofs.YtchbppidepapiaaDoor
open Go.RowKit
set_option maxRecDepth 100000
set_option linter.unusedVariables false
set_option linter.unusedSimpArgs false

theorem Tryd.info_u8 : (Tryd.prog.info? 5).map (fun i => (i.zero, i.size, i.bytes)) = some (some (.int .u8 0), 1, 1) := by kernel_rfl
theorem Tryd.size_u8 : (Tryd.prog.info? 5).map (fun i => i.size) = some 1 := by kernel_rfl

theorem bys_zero (n : Nat) : List.replicate n (Value.int .u8 0) = bys (List.replicate n 0) := by simp [bys]
theorem bys_one (L : List Nat) : ∀ u, u ∈ bys L → u.oneCell' = true := by
  intro u hu
  obtain ⟨n, _, rfl⟩ := List.mem_map.1 hu
  rfl
theorem bys_length (L : List Nat) : (bys L).length = L.length := by simp [bys]

end Go.Proofs.YtchbppidepapiaaDoor
