import Derived.Test.YtdjbaampicinnaaTRow
namespace Go.Proofs.Ytdjbaampicinnaa
open Go.RowKit
set_option maxRecDepth 100000
set_option linter.unusedVariables false
set_option linter.unusedSimpArgs false

theorem bitL_len (L : List Nat) : (bitL L).length = 8 * L.length := tab_len _ _
theorem sbits_any (a : Option Addr) (n cap : Nat) (L : List Nat) (w : World) (hp : Rd w a n cap L) (hn : n ≤ 17592186044416) :
    Calls Try.prog 11 #[.slice a n cap] w fun e w' => ∃ a' c', e = .returned (.slice a' (8 * n : Nat) c') ∧ Ans w' w.heap.size a' (8 * n) c' (bitL L) ∧ w.grownBy w' none := by
  obtain ⟨i0, hi, hz0, hz1, hz2⟩ := info_parts Try.info_u8
  go_enter Try.func11, Try.ntmps11
  go_wp2_with (first
    | (at_make; refine wpList_make_own _ rfl _ _ 22 rfl w.heap.size 5 i0 (.int .u8 0) 1 Try.underlying22 hi hz0 hz1 .i64 .i64 ((n : Int) * 8) (n * 8) rfl rfl (by omega) (by rw [hz2]; omega) (by unfold maxLen; omega) (Nat.le_refl _) ?_; intro w2 hown2 g2; have hA2 := own_nil w2 w.heap.size _ _ hown2 (Nat.le_refl _); have hp2 := hp.keep g2)
    | (go_at_call 18; refine (appendBits_any _ a 0 _ n cap w.heap.size [] L w2 hA2 g2.size hp2 (fun h0 b off e => by simp only [Value.ownBlock]; exact hp.ne (Nat.le_refl _) h0 b off e) (by omega)).mono ?_; rintro e w3 ⟨a', c', rfl, hA3, g3, hM3⟩))
  go_ret
  rw [Nat.zero_add, List.nil_append] at hA3
  exact ⟨a', c', rfl, hA3, new_then g2 g3⟩

def mkN (j : Nat) : Nat := 449838109 / 2 ^ (31 - j) % 2
theorem mkN_lt (j : Nat) : mkN j < 2 := Nat.mod_lt _ (by decide)
theorem mark_bits : bitL [26, 207, 252, 29] = tab 32 mkN := by decide +kernel
theorem mark_fact : ∀ p : Nat, p < 32 → bits .and .i64 (449838109 / (2 : Int) ^ p) 1 % 256 = ((449838109 / 2 ^ p % 2 : Nat) : Int) := by decide +kernel
def frmL (L : List Nat) : List Nat := tab 32 mkN ++ bitL (scrL L)
def frmE (L : List Nat) : Int := if L.length = 0 ∨ 2048 < L.length then 1 else 0
def frmR (L : List Nat) : List Nat := if L.length = 0 ∨ 2048 < L.length then [] else frmL L
end Go.Proofs.Ytdjbaampicinnaa
