import Derived.Test.YthdjpbfknbafgaaTBy3
namespace Go.Proofs.Ythdjpbfknbafgaa
open Go.RowKit
set_option maxRecDepth 100000
set_option linter.unusedVariables false
set_option linter.unusedSimpArgs false

def pop32 (x : Nat) : Nat := pop8 (x / 16777216) + pop8 (x / 65536 % 256) + pop8 (x / 256 % 256) + pop8 (x % 256)
theorem pop8_le (x : Nat) : pop8 x ≤ 8 := by unfold pop8; omega
set_option maxHeartbeats 2000000 in
theorem ones32_any (x : Nat) (hx : x < 4294967296) (w : World) : Calls Try.prog 39 #[.int .u32 x] w fun e w' => e = .returned (.int .i64 (pop32 x : Nat)) ∧ ∃ q, w' = w.drewN q := by
  obtain ⟨a, ha⟩ : ∃ a, a = x / 16777216 := ⟨_, rfl⟩
  obtain ⟨b, hb⟩ : ∃ b, b = x / 65536 % 256 := ⟨_, rfl⟩
  obtain ⟨c, hc⟩ : ∃ c, c = x / 256 % 256 := ⟨_, rfl⟩
  obtain ⟨d, hd⟩ : ∃ d, d = x % 256 := ⟨_, rfl⟩
  have HP : Hid (pop32 x = pop8 a + pop8 b + pop8 c + pop8 d) := by rw [ha, hb, hc, hd]; exact rfl
  have la : a < 256 := by omega
  have lb : b < 256 := by omega
  have lc : c < 256 := by omega
  have ld : d < 256 := by omega
  have e1 : bits .and .u32 ((x : Int) / 65536) 255 = (b : Int) := by
    have := u32_and_nat (x / 65536) 255 (by omega) (by decide)
    rw [show ((x / 65536 : Nat) : Int) = (x : Int) / 65536 from by omega] at this
    rw [show (255 : Int) = ((255 : Nat) : Int) from rfl, this, hb]
    exact congrArg _ (Nat.and_two_pow_sub_one_eq_mod (x / 65536) 8)
  have e2 : bits .and .u32 ((x : Int) / 256) 255 = (c : Int) := by
    have := u32_and_nat (x / 256) 255 (by omega) (by decide)
    rw [show ((x / 256 : Nat) : Int) = (x : Int) / 256 from by omega] at this
    rw [show (255 : Int) = ((255 : Nat) : Int) from rfl, this, hc]
    exact congrArg _ (Nat.and_two_pow_sub_one_eq_mod (x / 256) 8)
  have e3 : bits .and .u32 (x : Int) 255 = (d : Int) := by
    have := u32_and_nat x 255 (by omega) (by decide)
    rw [show (255 : Int) = ((255 : Nat) : Int) from rfl, this, hd]
    exact congrArg _ (Nat.and_two_pow_sub_one_eq_mod x 8)
  have e0 : (x : Int) / 16777216 = (a : Int) := by omega
  clear hx ha hb hc hd
  go_enter Try.func39, Try.ntmps39
  go_wp2
  generalize htb : (ByteArray.mk _ : ByteArray) = tb
  have hsz : tb.size = 256 := by rw [← htb]; rfl
  have htv : ∀ (i : Nat) (h : i < tb.size), tb[i].toNat = pop8 i := by
    intro i h
    subst htb
    revert i
    decide +kernel
  clear htb
  have p1 := pop8_le a
  have p2 := pop8_le b
  have p3 := pop8_le c
  have p4 := pop8_le d
  go_quiet (fail)
  go_wp2
  go_ret
  exact ⟨congrArg (fun z => Ending.returned (Value.int .i64 z)) (by rw [HP.out]; omega), nq, rfl⟩
theorem ones32_int (z : Int) (x : Nat) (hz : z = (x : Int)) (hx : x < 4294967296) (w : World) : Calls Try.prog 39 #[.int .u32 z] w fun e w' => e = .returned (.int .i64 (pop32 x : Nat)) ∧ ∃ q, w' = w.drewN q := by
  subst hz; exact ones32_any x hx w
theorem xor_lt32 {a b : Nat} (ha : a < 4294967296) (hb : b < 4294967296) : a ^^^ b < 4294967296 := Nat.xor_lt_two_pow (n := 32) ha hb
theorem not32 (v : Nat) (hv : v < 4294967296) : bits .xor .u32 (if IntKind.u32.signed = true then -1 else IntKind.u32.max) (v : Int) = ((4294967295 - v : Nat) : Int) := by
  have e : (if IntKind.u32.signed = true then (-1 : Int) else IntKind.u32.max) = ((4294967295 : Nat) : Int) := by decide
  rw [e, u32_xor_nat _ _ (by decide) hv]
  refine congrArg _ (Nat.eq_of_testBit_eq fun i => ?_)
  rw [Nat.testBit_xor, show 4294967295 - v = 2 ^ 32 - (v + 1) from by omega, Nat.testBit_two_pow_sub_succ (by exact hv), show 4294967295 = 2 ^ 32 - 1 from rfl, Nat.testBit_two_pow_sub_one]
  by_cases h : i < 32
  · simp [h]
  · have : v.testBit i = false := Nat.testBit_lt_two_pow (Nat.lt_of_lt_of_le hv (Nat.pow_le_pow_right (show 0 < 2 by decide) (by omega : 32 ≤ i)))
    simp [h, this]
/-! one who listens, in memory -/
def syA (L F H M k : Nat) (lk : Bool) (tk la p : Nat) (tu : Bool) (mi : Nat) (d : Value) : Array Value :=
  #[.int .i64 L, .int .i64 F, .int .i64 H, .int .i64 M, .func (.func k) #[] #[], .bool lk, .int .i64 tk, .int .u64 la, .int .i64 p, .bool tu, .int .i64 mi, d]
def SyB (w : World) (g : Nat) (L F H M k : Nat) (lk : Bool) (tk la p : Nat) (tu : Bool) (mi : Nat) (d : Value) : Prop := w.heap[g]? = some (.cells (syA L F H M k lk tk la p tu mi d) 65)
theorem SyB.lt {w : World} {g L F H M k : Nat} {lk : Bool} {tk la p : Nat} {tu : Bool} {mi : Nat} {d : Value} (h : SyB w g L F H M k lk tk la p tu mi d) : g < w.heap.size := (Array.getElem?_eq_some_iff.1 h).1
theorem SyB.c {w : World} {g L F H M k : Nat} {lk : Bool} {tk la p : Nat} {tu : Bool} {mi : Nat} {d : Value} (h : SyB w g L F H M k lk tk la p tu mi d) (i : Nat) (v : Value) (hv : (syA L F H M k lk tk la p tu mi d)[i]? = some v) : w.cell? ⟨g, i, none⟩ = some v := by rw [cell_of_row w g i _ _ _ h]; exact hv
theorem SyB.f {w : World} {g L F H M k : Nat} {lk : Bool} {tk la p : Nat} {tu : Bool} {mi : Nat} {d : Value} (h : SyB w g L F H M k lk tk la p tu mi d) (i : Nat) : w.frozen? ⟨g, i, none⟩ = false := frozen_of_row w g i _ _ h
theorem SyB.kept {w w' : World} {g L F H M k : Nat} {lk : Bool} {tk la p : Nat} {tu : Bool} {mi : Nat} {d : Value} {o : Option Nat} (h : SyB w g L F H M k lk tk la p tu mi d) (hg : w.grownBy w' o) (hne : some g ≠ o) : SyB w' g L F H M k lk tk la p tu mi d := by
  unfold SyB; rw [hg.block g h.lt hne]; exact h
theorem SyB.keep {w w' : World} {g L F H M k : Nat} {lk : Bool} {tk la p : Nat} {tu : Bool} {mi : Nat} {d : Value} (h : SyB w g L F H M k lk tk la p tu mi d) (hg : w.grownBy w' none) : SyB w' g L F H M k lk tk la p tu mi d := h.kept hg (by simp)
/-- how many of 32 bits are wrong -/
def wrV (la k : Nat) (t : Bool) : Nat := pop32 ((if t then 4294967295 - la / 2 ^ k % 4294967296 else la / 2 ^ k % 4294967296) ^^^ 449838109)
set_option maxHeartbeats 2000000 in
theorem wrong_any (g L F H M k : Nat) (lk : Bool) (tk la p : Nat) (tu : Bool) (mi : Nat) (d : Value) (z : Int) (q s : Nat) (t : Bool) (hz : z = (q : Int)) (hs : tk = q + 32 + s) (hs2 : s ≤ 31) (htk : tk ≤ 4611686018427387904) (hla : la < 18446744073709551616) (w : World) (h : SyB w g L F H M k lk tk la p tu mi d) :
    Calls Try.prog 36 #[.pointer (some ⟨g, 0, none⟩), .int .i64 z, .bool t] w fun e w' => e = .returned (.int .i64 (wrV la s t : Nat)) ∧ ∃ n, w' = w.drewN n := by
  subst hz
  have c6 := h.c 6 (.int .i64 tk) rfl
  have c7 := h.c 7 (.int .u64 la) rfl
  have hk1 : IntKind.i64.wrap (IntKind.i64.wrap ((tk : Int) - (q : Int)) - 32) = (s : Int) := by rw [wrap_i64_in ((tk : Int) - (q : Int)) (by omega) (by omega), wrap_i64_in _ (by omega) (by omega)]; omega
  have hk2 : (tk : Int) - (q : Int) - 32 = (s : Int) := by omega
  have hk3 : IntKind.i64.wrap ((tk : Int) - (q : Int)) = ((s + 32 : Nat) : Int) := by rw [wrap_i64_in ((tk : Int) - (q : Int)) (by omega) (by omega)]; omega
  have hv : la / 2 ^ s % 4294967296 < 4294967296 := Nat.mod_lt _ (by decide)
  have HW : Hid (wrV la s t = pop32 ((if t then 4294967295 - la / 2 ^ s % 4294967296 else la / 2 ^ s % 4294967296) ^^^ 449838109)) := rfl
  have hc : (la : Int) / 2 ^ s % 4294967296 = ((la / 2 ^ s % 4294967296 : Nat) : Int) := by
    rw [Int.natCast_emod, Int.natCast_ediv, Int.natCast_pow]; rfl
  generalize la / 2 ^ s % 4294967296 = v at *
  clear hs
  cases t
  · have hxl : v ^^^ 449838109 < 4294967296 := xor_lt32 hv (by decide)
    have hx : bits .xor .u32 (v : Int) 449838109 = ((v ^^^ 449838109 : Nat) : Int) := u32_xor_nat v 449838109 hv (by decide)
    simp only [Bool.false_eq_true, if_false] at HW
    go_enter Try.func36, Try.ntmps36
    go_wp2
    go_quiet (fail)
    go_wp2_with (go_at_call 39; refine (ones32_int _ (v ^^^ 449838109) (by first | rfl | (rw [hc, hx])) hxl _).mono ?_; rintro e w2 ⟨rfl, n2, rfl⟩)
    go_ret
    exact ⟨by rw [HW.out]; rfl, _, rfl⟩
  · have hnl : 4294967295 - v < 4294967296 := by omega
    have hxl : (4294967295 - v) ^^^ 449838109 < 4294967296 := xor_lt32 hnl (by decide)
    have hx : bits .xor .u32 ((4294967295 - v : Nat) : Int) 449838109 = (((4294967295 - v) ^^^ 449838109 : Nat) : Int) := u32_xor_nat (4294967295 - v) 449838109 hnl (by decide)
    have hn : bits .xor .u32 (if IntKind.u32.signed = true then -1 else IntKind.u32.max) (v : Int) = ((4294967295 - v : Nat) : Int) := not32 v hv
    simp only [if_true] at HW
    go_enter Try.func36, Try.ntmps36
    go_wp2
    go_quiet (fail)
    go_wp2_with (go_at_call 39; refine (ones32_int _ ((4294967295 - v) ^^^ 449838109) (by first | rfl | (rw [hn, hx]) | (rw [hc, hn, hx])) hxl _).mono ?_; rintro e w2 ⟨rfl, n2, rfl⟩)
    go_ret
    exact ⟨by rw [HW.out]; rfl, _, rfl⟩
end Go.Proofs.Ythdjpbfknbafgaa
