import Derived.Test.YtlmddjkplnbadaaNHe2
namespace Go.Proofs.Ytlmddjkplnbadaa
open Go.RowKit
set_option maxRecDepth 100000
set_option linter.unusedVariables false
set_option linter.unusedSimpArgs false

theorem fbehind_any (n q : Int) (hq : Hid (q = (n + 1) % 256)) (h0 : 0 ≤ n) (h1 : n ≤ 255) (w : World) : Calls Try.prog 68 #[.int .i64 n] w fun e w' => e = .returned (.int .i64 q) ∧ w' = w := by
  have ht : (n + 1).tmod 256 = q := by rw [Int.tmod_eq_emod_of_nonneg (by omega)]; exact hq.out.symm
  have hm : (n + 1) % 256 = q := hq.out.symm
  go_enter Try.func68, Try.ntmps68
  go_wp2
  go_ret
  exact ⟨rfl, rfl⟩
/-- how many frames were lost -/
def loN (x c : Int) : Int := if x = -1 then 0 else (c - x + 256) % 256
theorem lostAhead_any (x c : Int) (hx : -1 ≤ x ∧ x ≤ 255) (hc : 0 ≤ c ∧ c ≤ 255) (w : World) : Calls Try.prog 67 #[.int .i64 x, .int .i64 c] w fun e w' => e = .returned (.int .i64 (loN x c)) ∧ w' = w := by
  obtain ⟨x1, x2⟩ := hx
  obtain ⟨c1, c2⟩ := hc
  unfold loN
  by_cases h : x = -1
  · rw [if_pos h]
    subst h
    go_enter Try.func67, Try.ntmps67
    go_wp2
    go_ret
    exact ⟨rfl, rfl⟩
  · rw [if_neg h]
    have hb : ((x == -1) : Bool) = false := by simpa using h
    obtain ⟨q, hq⟩ : ∃ q, (c - x + 256) % 256 = q := ⟨_, rfl⟩
    rw [hq]
    have ht : (c - x + 256).tmod 256 = q := by rw [Int.tmod_eq_emod_of_nonneg (by omega)]; exact hq
    have h2 : c - x + 255 + 1 = c - x + 256 := by omega
    clear h
    go_enter Try.func67, Try.ntmps67
    go_wp2
    go_ret
    exact ⟨rfl, rfl⟩
end Go.Proofs.Ytlmddjkplnbadaa
