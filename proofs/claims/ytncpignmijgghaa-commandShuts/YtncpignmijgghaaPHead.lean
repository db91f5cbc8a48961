import Derived.Test.YtncpignmijgghaaPPut
import Derived.Test.YtncpignmijgghaaTFrL
namespace Go.Proofs.Ytncpignmijgghaa
open Go.RowKit
set_option maxRecDepth 100000
set_option linter.unusedVariables false
set_option linter.unusedSimpArgs false

theorem bit_any (b : Bool) (w : World) : Calls Try.prog 35 #[.bool b] w fun e w' => e = .returned (.int .i64 (b.toNat : Nat)) ∧ w' = w := by
  cases b
  · go_enter Try.func35, Try.ntmps35
    go_wp2
    go_ret
    exact ⟨rfl, rfl⟩
  · go_enter Try.func35, Try.ntmps35
    go_wp2
    go_ret
    exact ⟨rfl, rfl⟩
/-- the head of a packet, as a number and as bytes -/
def hd1 (u s : Nat) : Nat := u * 2 + s
def hdN (u s ap pt ct n : Nat) : Nat := (((hd1 u s * 2048 + ap) * 4 + pt) * 16384 + ct) * 65536 + (n - 1)
def hdB (H i : Nat) : Nat := H / 2 ^ (40 - 8 * i) % 256
theorem hdB_lt (H i : Nat) : hdB H i < 256 := Nat.mod_lt _ (by decide)
def hdL (u s ap pt ct n : Nat) : List Nat := tab 6 (hdB (hdN u s ap pt ct n))
theorem shr_val (H k : Nat) (hH : H < 18446744073709551616) (hk : k < 6) : IntKind.u8.wrap ((H : Int) / 2 ^ (40 - 8 * k)) = (hdB H k : Int) := by
  rw [IntKind.wrap_u8']
  unfold hdB
  have e : ((H : Int) / 2 ^ (40 - 8 * k)) = ((H / 2 ^ (40 - 8 * k) : Nat) : Int) := by simp
  rw [e]
  omega
theorem toNat_le (b : Bool) : b.toNat < 2 := by cases b <;> decide
end Go.Proofs.Ytncpignmijgghaa
