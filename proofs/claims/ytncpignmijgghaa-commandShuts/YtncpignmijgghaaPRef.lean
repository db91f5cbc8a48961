import Derived.Test.YtncpignmijgghaaPEnc
namespace Go.Proofs.Ytncpignmijgghaa
open Go.RowKit
set_option maxRecDepth 100000
set_option linter.unusedVariables false
set_option linter.unusedSimpArgs false

theorem i64_or_n (a b : Nat) (ha : a < 2 ^ 63) (hb : b < 2 ^ 63) : bits .or .i64 (a : Int) (b : Int) = ((a ||| b : Nat) : Int) := by
  have hx : a ||| b < 2 ^ 63 := Nat.or_lt_two_pow (by omega) (by omega)
  show IntKind.i64.wrap ((BitVec.ofInt 64 (a : Int) ||| BitVec.ofInt 64 (b : Int)).toNat : Int) = _
  rw [BitVec.toNat_or, ofInt_i64 a ha, ofInt_i64 b hb, wrap_i64_in _ (by omega) (by omega)]
/-- bits behind bits -/
theorem or_put (h x k : Nat) (hx : x < 2 ^ k) (h1 : h * 2 ^ k < 2 ^ 62) (h2 : x < 2 ^ 62) : bits .or .i64 ((h * 2 ^ k : Nat) : Int) (x : Int) = ((h * 2 ^ k + x : Nat) : Int) := by
  rw [i64_or_n _ _ (by omega) (by omega)]
  have h3 := Nat.shiftLeft_add_eq_or_of_lt hx h
  rw [Nat.shiftLeft_eq] at h3
  rw [← h3]
theorem head_list (u s ap pt ct n : Nat) (hu : u < 2) (hs : s < 2) (hap : ap < 2048) (hpt : pt < 4) (hct : ct < 16384) (hn : n ≤ 65536) (h1 : 1 ≤ n) :
    hdL u s ap pt ct n = [(u * 4096 + s * 2048 + ap) / 256, (u * 4096 + s * 2048 + ap) % 256, (pt * 16384 + ct) / 256, (pt * 16384 + ct) % 256, (n - 1) / 256, (n - 1) % 256] := by
  have e : hdL u s ap pt ct n = [hdB (hdN u s ap pt ct n) 0, hdB (hdN u s ap pt ct n) 1, hdB (hdN u s ap pt ct n) 2, hdB (hdN u s ap pt ct n) 3, hdB (hdN u s ap pt ct n) 4, hdB (hdN u s ap pt ct n) 5] := rfl
  rw [e]
  unfold hdB hdN hd1
  obtain ⟨m, rfl⟩ : ∃ m, n = m + 1 := ⟨n - 1, by omega⟩
  simp only [Nat.reduceMul, Nat.reduceSub, Nat.reducePow, Nat.add_sub_cancel, Nat.div_one]
  refine List.cons_eq_cons.2 ⟨by omega, List.cons_eq_cons.2 ⟨by omega, List.cons_eq_cons.2 ⟨by omega, List.cons_eq_cons.2 ⟨by omega, List.cons_eq_cons.2 ⟨by omega, List.cons_eq_cons.2 ⟨by omega, rfl⟩⟩⟩⟩⟩⟩
theorem six_new (w : World) (z0 z1 z2 z3 z4 z5 : Int) (x0 x1 x2 x3 x4 x5 : Nat) (e0 : z0 = x0) (e1 : z1 = x1) (e2 : z2 = x2) (e3 : z3 = x3) (e4 : z4 = x4) (e5 : z5 = x5) (h0 : x0 < 256) (h1 : x1 < 256) (h2 : x2 < 256) (h3 : x3 < 256) (h4 : x4 < 256) (h5 : x5 < 256) :
    Ans (w.alloc (.cells #[.int .u8 z0, .int .u8 z1, .int .u8 z2, .int .u8 z3, .int .u8 z4, .int .u8 z5] 5)) w.heap.size (some ⟨w.heap.size, 0, none⟩) 6 6 [x0, x1, x2, x3, x4, x5] := by
  subst e0 e1 e2 e3 e4 e5
  refine ⟨⟨rfl, .inr ⟨w.heap.size, 6, #[.int .u8 x0, .int .u8 x1, .int .u8 x2, .int .u8 x3, .int .u8 x4, .int .u8 x5], rfl, Nat.zero_le _, heap_alloc_new w _, Nat.le_refl _, by decide, rfl, rfl⟩⟩, ?_, fun g hg => ?_⟩
  · intro x hx
    simp at hx
    omega
  · have e : w.heap.size = g := Option.some.inj hg
    omega
end Go.Proofs.Ytncpignmijgghaa
