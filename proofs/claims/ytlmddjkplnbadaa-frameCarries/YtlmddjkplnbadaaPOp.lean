import Derived.Test.YtlmddjkplnbadaaZOp
import Derived.Test.YtlmddjkplnbadaaKxMay
namespace Go.Proofs.Ytlmddjkplnbadaa
open Go.RowKit
set_option linter.unusedVariables false

/-- a packet, as it comes -/
theorem met_packet {w : World} {full : Bool} {n : Nat} {cs : List Value} (h : (Sh.fcons 1 .bool (.fcons 1 .bool (.fcons 1 (.int .i64) (.fcons 1 (.int .i64) (.fcons 1 (.int .i64) (.fcons 1 (.slice 1 1 (.int .u8)) .fend)))))).met w full cs n) :
    ∃ up se ap pt ct a len cap L, cs = [.bool up, .bool se, .int .i64 ap, .int .i64 pt, .int .i64 ct, .slice a len cap] ∧ Rd w a len cap L ∧ (full = true → cap ≤ 140737488351232) ∧ cap + 1 ≤ n ∧
      (-9223372036854775808 ≤ ap ∧ ap ≤ 9223372036854775807) ∧ (-9223372036854775808 ≤ pt ∧ pt ≤ 9223372036854775807) ∧ (-9223372036854775808 ≤ ct ∧ ct ≤ 9223372036854775807) := by
  obtain ⟨n0, m0, rfl, ⟨_, up, e0⟩, n1, m1, rfl, ⟨_, se, e1⟩, n2, m2, rfl, ⟨_, ap, e2, k2⟩, n3, m3, rfl, ⟨_, pt, e3, k3⟩, n4, m4, rfl, ⟨_, ct, e4, k4⟩, n5, m5, rfl, h5, e6, _⟩ := h
  obtain ⟨a, len, cap, L, e5, hR, hf, hn⟩ := met_bytes h5
  refine ⟨up, se, ap, pt, ct, a, len, cap, L, ?_, hR, hf, by omega, bounds_i64 k2, bounds_i64 k3, bounds_i64 k4⟩
  match cs with
  | [] => simp at e0
  | [_] => simp at e1
  | [_, _] => simp at e2
  | [_, _, _] => simp at e3
  | [_, _, _, _] => simp at e4
  | [_, _, _, _, _] => simp at e5
  | [x0, x1, x2, x3, x4, x5] => simp_all
  | x0 :: x1 :: x2 :: x3 :: x4 :: x5 :: x6 :: r => simp at e6
theorem shown_packet {w : World} {full : Bool} {n : Nat} {v : Value} (h : (Sh.fcons 1 .bool (.fcons 1 .bool (.fcons 1 (.int .i64) (.fcons 1 (.int .i64) (.fcons 1 (.int .i64) (.fcons 1 (.slice 1 1 (.int .u8)) .fend)))))).shown w full v n) :
    ∃ up se ap pt ct a len cap L, v = pkV up se ap pt ct a len cap ∧ Rd w a len cap L ∧ (full = true → cap ≤ 140737488351232) ∧ cap + 1 ≤ n ∧
      (-9223372036854775808 ≤ ap ∧ ap ≤ 9223372036854775807) ∧ (-9223372036854775808 ≤ pt ∧ pt ≤ 9223372036854775807) ∧ (-9223372036854775808 ≤ ct ∧ ct ≤ 9223372036854775807) := by
  obtain ⟨cs, rfl, hm⟩ := h
  obtain ⟨up, se, ap, pt, ct, a, len, cap, L, e, hR⟩ := met_packet hm
  refine ⟨up, se, ap, pt, ct, a, len, cap, L, ?_, hR⟩
  unfold pkV
  congr 1
  exact Array.toList_inj.1 (by rw [e])
theorem shown_int {w : World} {full : Bool} {n : Nat} {v : Value} (h : (Sh.int .i64).shown w full v n) : ∃ z, v = .int .i64 z ∧ -9223372036854775808 ≤ z ∧ z ≤ 9223372036854775807 := by
  obtain ⟨_, z, e, hz⟩ := h
  cases e
  exact ⟨z, rfl, bounds_i64 hz⟩
theorem shown_bool {w : World} {full : Bool} {n : Nat} {v : Value} (h : Sh.bool.shown w full v n) : ∃ b, v = .bool b := by
  obtain ⟨_, b, e⟩ := h
  cases e
  exact ⟨b, rfl⟩
theorem shown_bytes {w : World} {full : Bool} {n : Nat} {v : Value} (h : (Sh.slice 1 1 (.int .u8)).shown w full v n) : ∃ a len cap L, v = .slice a len cap ∧ Rd w a len cap L ∧ (full = true → cap ≤ 140737488351232) ∧ cap + 1 ≤ n := by
  obtain ⟨a, len, cap, L, e, hr⟩ := met_bytes h
  cases e
  exact ⟨a, len, cap, L, rfl, hr⟩
end Go.Proofs.Ytlmddjkplnbadaa
