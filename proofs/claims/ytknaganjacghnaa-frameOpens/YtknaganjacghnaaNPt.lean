import Derived.Test.YtknaganjacghnaaPEnc
import Derived.Test.YtknaganjacghnaaZBx
import Derived.Test.YtknaganjacghnaaNSm
namespace Go.Proofs.Ytknaganjacghnaa
open Go.RowKit
set_option maxRecDepth 100000
set_option linter.unusedVariables false
set_option linter.unusedSimpArgs false

/-- byte i of k bytes of a number, the highest first -/
def beB (k x i : Nat) : Nat := x / 2 ^ (8 * (k - 1 - i)) % 256
def beL (k x : Nat) : List Nat := tab k (beB k x)
theorem beB_lt (k x i : Nat) : beB k x i < 256 := Nat.mod_lt _ (by decide)
/-- bytes that lie in the call's own memory, told by a box -/
structure Row (wb w : World) (g : Nat) (a : Option Addr) (m c : Nat) (D : List Nat) : Prop where
  box : BxS w g 22 #[.slice a m c]
  ans : Ans w wb.heap.size a m c D
  far : (Value.slice a m c).ownBlock ≠ some g
  new : wb.heap.size ≤ g
  grown : wb.grownBy w none
theorem be_val (k x p j : Nat) (hx : x < 9223372036854775808) (hp : p = 8 * (k - 1 - j)) : IntKind.u8.wrap ((x : Int) / 2 ^ p) = (beB k x j : Int) := by
  rw [IntKind.wrap_u8', hp]
  unfold beB
  have e : ((x : Int) / 2 ^ (8 * (k - 1 - j))) = ((x / 2 ^ (8 * (k - 1 - j)) : Nat) : Int) := by simp
  rw [e]
  omega
theorem Row.push {wb wr w2 : World} {g m m' c1 cx gx : Nat} {a1 : Option Addr} {D E : List Nat} (h : Row wb wr g a1 m c1 D) (hA2 : Ans w2 wb.heap.size (some ⟨gx, 0, none⟩) m' cx E) (hG2 : wr.grownBy w2 (Value.slice a1 m c1).ownBlock)
    (hM2 : Mine wr (Value.slice a1 m c1).ownBlock (some ⟨gx, 0, none⟩) m' cx) : Row wb (w2.setCell ⟨g, 0, none⟩ (.slice (some ⟨gx, 0, none⟩) m' cx)) g (some ⟨gx, 0, none⟩) m' cx E := by
  have hb2 := h.box.keep hG2 (Ne.symm h.far)
  have hfar : (Value.slice (some ⟨gx, 0, none⟩) m' cx).ownBlock ≠ some g := by
    intro e
    rcases hM2 g e with h1 | h1
    · exact h.far h1
    · have := h.box.lt; omega
  exact ⟨hb2.set 0 _, hA2.kept (grown_set _ _ _ _) (.inr hfar), hfar, h.new, grown_far (grown_far h.grown hG2 (fun q e => h.ans.new q e)) (grown_set _ _ _ _) (fun q e => by cases e; exact h.new)⟩
set_option maxHeartbeats 4000000 in
theorem fput_any (k x g m co : Nat) (ao : Option Addr) (D : List Nat) (wb w : World) (hR : Row wb w g ao m co D) (hk1 : 1 ≤ k) (hk : k ≤ 4) (hx : x < 9223372036854775808) (hm : m ≤ 1000000) :
    Calls Try.prog 45 #[.int .i64 k, .int .i64 x, .pointer (some ⟨g, 0, none⟩)] w fun e w' => e = .returned (.tuple #[]) ∧ ∃ a' c', Row wb w' g a' (m + k) c' (D ++ beL k x) := by
  have hk0 : (8 : Int) * ((k : Int) - 1) = 8 * (k : Int) - 8 := by omega
  go_enter Try.func45, Try.ntmps45
  go_wp2
  go_loopw [5] (fun pl wr => ∃ (j : Nat) (a1 : Option Addr) (c1 : Nat), j ≤ k ∧ pl = .int .i64 (8 * (k : Int) - 8 - 8 * (j : Int)) ∧ Row wb wr g a1 (m + j) c1 (D ++ tab j (beB k x))) (fun pl _ => (intOf pl + 8).toNat)
  case atStart => exact ⟨0, ao, co, by omega, by go_num, by simpa [tab] using hR⟩
  case round =>
    obtain ⟨j, a1, c1, hj, rfl, hR1⟩ := hrel
    by_cases hlt : j < k
    · obtain ⟨p, hp⟩ : ∃ p : Nat, (8 : Int) * (k : Int) - 8 - 8 * (j : Int) = p := ⟨8 * (k - 1 - j), by omega⟩
      rw [hp]
      have HP : Hid ((8 : Int) * (k : Int) - 8 - 8 * (j : Int) = p) := hp
      have hp40 : p ≤ 32 := by omega
      have hv := be_val k x p j hx (by omega)
      have hvl := beB_lt k x j
      have hsj : Hid (tab (j + 1) (beB k x) = tab j (beB k x) ++ [beB k x j]) := tab_succ _ _
      generalize beB k x j = v at hv hvl hsj
      clear hp hk0
      have hc1 := hR1.box.cell 0 Nat.zero_lt_one
      have hf1 := hR1.box.free 0
      have hgl := hR1.box.lt
      have hA1 := hR1.ans
      have hAd : Ans wr.drew wb.heap.size a1 (m + j) c1 (D ++ tab j (beB k x)) := hA1.keep (grown_drew _ _)
      have hGd := grown_drew wr (Value.slice a1 (m + j) c1).ownBlock
      have hM : Mine wr (Value.slice a1 (m + j) c1).ownBlock a1 (m + j) c1 := fun q h => .inl h
      have hsz : wb.heap.size ≤ wr.heap.size := hR1.grown.size
      go_wp2
      go_region_law (first
        | (refine step_push2 wr wr.drew rfl (.tmp 13) (.tmp 18) rfl a1 (m + j) c1 v wb.heap.size (Value.slice a1 (m + j) c1).ownBlock _ rfl hAd hGd hM hsz hvl rfl (by omega) ?_; intro gx cx w2 hA2 hG2 hM2 _; have hb2 := hR1.box.keep hG2 (Ne.symm hR1.far); have hc2 := hb2.cell 0 Nat.zero_lt_one; have hf2 := hb2.free 0))
      all_goals
        have hP := hR1.push hA2 hG2 hM2
        rw [List.append_assoc, ← hsj.out] at hP
        go_wp2
        go_roundw
        case rel => exact ⟨j + 1, _, cx, by omega, by have := HP.out; go_num, hP⟩
        case measure => simp [intOf]; omega
    · obtain rfl : j = k := by omega
      go_wp2
      go_end0
      exact ⟨rfl, a1, c1, hR1⟩
end Go.Proofs.Ytknaganjacghnaa
