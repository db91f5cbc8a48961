import Derived.Test.YtlmddjkplnbadaaNOn1
import Derived.Test.YtlmddjkplnbadaaPOf
namespace Go.Proofs.Ytlmddjkplnbadaa
open Go.RowKit
set_option maxRecDepth 100000
set_option linter.unusedVariables false
set_option linter.unusedSimpArgs false

/-- are these the bytes of just one packet? -/
def onP (B : List Nat) : Bool := decide (dcE B = 0) && decide (dcK B = B.length)
set_option maxHeartbeats 4000000 in
theorem onePacket_any (a : Option Addr) (n cap : Nat) (B : List Nat) (w : World) (hR : Rd w a n cap B) :
    Calls Try.prog 58 #[.slice a n cap] w fun e w' => e = .returned (.bool (onP B)) ∧ w.grownBy w' none := by
  have hd := decode_any a n cap B w hR
  unfold onP
  rw [hR.len]
  unfold pkV at hd
  generalize dcU B = x0 at hd
  generalize dcS B = x1 at hd
  generalize dcA B = x2 at hd
  generalize dcP B = x3 at hd
  generalize dcC B = x4 at hd
  generalize dcD B = x5 at hd
  generalize dcK B = k at hd ⊢
  generalize dcE B = E at hd ⊢
  by_cases hE : E = 0
  · rw [decide_eq_true hE, Bool.true_and]
    subst hE
    by_cases hk : k = n
    · rw [decide_eq_true hk]
      subst hk
      go_enter Try.func58, Try.ntmps58
      go_wp2_with (go_at_call 75; refine hd.mono ?_; rintro e w1 ⟨a1, n1, c1, rfl, _, g1⟩)
      go_ret
      exact ⟨rfl, grown_trans g1 (World.grownBy_alloc _ _ _)⟩
    · rw [decide_eq_false hk]
      have hb : (((k : Int) == (n : Int)) : Bool) = false := by simp; omega
      clear hk
      go_enter Try.func58, Try.ntmps58
      go_wp2_with (go_at_call 75; refine hd.mono ?_; rintro e w1 ⟨a1, n1, c1, rfl, _, g1⟩)
      go_ret
      exact ⟨rfl, grown_trans g1 (World.grownBy_alloc _ _ _)⟩
  · rw [decide_eq_false hE, Bool.false_and]
    have hb : (((E : Int) == 0) : Bool) = false := by simp; omega
    clear hE
    go_enter Try.func58, Try.ntmps58
    go_wp2_with (go_at_call 75; refine hd.mono ?_; rintro e w1 ⟨a1, n1, c1, rfl, _, g1⟩)
    go_ret
    exact ⟨rfl, grown_trans g1 (World.grownBy_alloc _ _ _)⟩
set_option maxHeartbeats 4000000 in
theorem ronePacket_any (a : Option Addr) (n cap : Nat) (B : List Nat) (w : World) (hR : Rd w a n cap B) (hn : n ≤ 140737488355328) :
    Calls Try.prog 55 #[.slice a n cap] w fun e w' => e = .returned (.bool (onP B)) ∧ w.grownBy w' none := by
  have hd := packetOf_any a n cap B w hR hn
  unfold onP
  rw [hR.len]
  unfold pkV at hd
  generalize dcU B = x0 at hd
  generalize dcS B = x1 at hd
  generalize dcA B = x2 at hd
  generalize dcP B = x3 at hd
  generalize dcC B = x4 at hd
  generalize dcD B = x5 at hd
  generalize dcK B = k at hd ⊢
  generalize dcE B = E at hd ⊢
  by_cases hE : E = 0
  · rw [decide_eq_true hE, Bool.true_and]
    subst hE
    by_cases hk : k = n
    · rw [decide_eq_true hk]
      subst hk
      go_enter Try.func55, Try.ntmps55
      go_wp2_with (go_at_call 64; refine hd.mono ?_; rintro e w1 ⟨a1, n1, c1, rfl, _, g1⟩)
      go_ret
      exact ⟨rfl, grown_trans g1 (World.grownBy_alloc _ _ _)⟩
    · rw [decide_eq_false hk]
      have hb : (((k : Int) == (n : Int)) : Bool) = false := by simp; omega
      clear hk
      go_enter Try.func55, Try.ntmps55
      go_wp2_with (go_at_call 64; refine hd.mono ?_; rintro e w1 ⟨a1, n1, c1, rfl, _, g1⟩)
      go_ret
      exact ⟨rfl, grown_trans g1 (World.grownBy_alloc _ _ _)⟩
  · rw [decide_eq_false hE, Bool.false_and]
    have hb : (((E : Int) == 0) : Bool) = false := by simp; omega
    clear hE
    go_enter Try.func55, Try.ntmps55
    go_wp2_with (go_at_call 64; refine hd.mono ?_; rintro e w1 ⟨a1, n1, c1, rfl, _, g1⟩)
    go_ret
    exact ⟨rfl, grown_trans g1 (World.grownBy_alloc _ _ _)⟩
end Go.Proofs.Ytlmddjkplnbadaa
