import Derived.Test.YtibomgbejpgmiaaVNb
namespace Go.Proofs.Ytibomgbejpgmiaa
open Go.RowKit
set_option maxRecDepth 100000
set_option linter.unusedVariables false
set_option linter.unusedSimpArgs false
theorem beL4 (x : Nat) : beL 4 x = [beB 4 x 0, beB 4 x 1, beB 4 x 2, beB 4 x 3] := rfl
theorem beL2 (x : Nat) : beL 2 x = [beB 2 x 0, beB 2 x 1] := rfl
theorem beL1 (x : Nat) : beL 1 x = [beB 1 x 0] := rfl
theorem beL_isB (k x : Nat) : IsB (beL k x) := by
  intro y hy
  unfold beL tab at hy
  obtain ⟨i, _, rfl⟩ := List.mem_map.1 hy
  exact beB_lt _ _ _
theorem beB4 (x : Nat) : (x : Int) / 16777216 % 256 = (beB 4 x 0 : Nat) ∧ (x : Int) / 65536 % 256 = (beB 4 x 1 : Nat) ∧ (x : Int) / 256 % 256 = (beB 4 x 2 : Nat) ∧ (x : Int) % 256 = (beB 4 x 3 : Nat) := by
  unfold beB
  simp
/-- bytes in a new block -/
theorem ans_new (w : World) (L : List Nat) (h : IsB L) (hl : L.length ≤ 1000) : Ans (w.alloc (.cells (bys L).toArray 5)) w.heap.size (some ⟨w.heap.size, 0, none⟩) L.length L.length L := by
  refine ⟨⟨by rw [bys_length, Nat.mul_one], .inr ⟨w.heap.size, L.length, (bys L).toArray, rfl, Nat.zero_le _, heap_alloc_new w _, Nat.le_refl _, by unfold maxLen; omega, by simp [bys_length], ?_⟩⟩, h, fun g e => ?_⟩
  · exact List.take_of_length_le (by simp [bys_length])
  · have e : w.heap.size = g := Option.some.inj e
    omega
theorem four_any (x : Nat) (w : World) :
    Calls Try.prog 48 #[.int .i64 (x : Nat)] w fun e w' => e = .returned (.slice (some ⟨w.heap.size, 0, none⟩) 4 4) ∧ Ans w' w.heap.size (some ⟨w.heap.size, 0, none⟩) 4 4 (beL 4 x) ∧ w.grownBy w' none := by
  obtain ⟨h0, h1, h2, h3⟩ := beB4 x
  have hA := ans_new w (beL 4 x) (beL_isB 4 x) (by rw [beL_len]; decide)
  rw [beL_len] at hA
  have hg := World.grownBy_alloc w (.cells (bys (beL 4 x)).toArray 5) none
  rw [beL4] at hA hg ⊢
  have e : (bys [beB 4 x 0, beB 4 x 1, beB 4 x 2, beB 4 x 3]).toArray = #[.int .u8 (beB 4 x 0 : Nat), .int .u8 (beB 4 x 1 : Nat), .int .u8 (beB 4 x 2 : Nat), .int .u8 (beB 4 x 3 : Nat)] := rfl
  rw [e] at hA hg
  generalize beB 4 x 0 = y0 at *
  generalize beB 4 x 1 = y1 at *
  generalize beB 4 x 2 = y2 at *
  generalize beB 4 x 3 = y3 at *
  go_enter Try.func48, Try.ntmps48
  go_wp2
  go_ret
  exact ⟨rfl, hA, hg⟩
end Go.Proofs.Ytibomgbejpgmiaa
