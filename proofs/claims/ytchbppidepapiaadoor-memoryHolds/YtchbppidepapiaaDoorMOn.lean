import Derived.Test.YtchbppidepapiaaDoorMBit
namespace Go.Proofs.YtchbppidepapiaaDoor
open Go.RowKit
set_option maxRecDepth 100000
set_option linter.unusedVariables false
set_option linter.unusedSimpArgs false

theorem u64_in (n : Nat) (h : n < 18446744073709551616) : IntKind.u64.wrap (n : Int) = (n : Int) := by rw [IntKind.wrap_u64]; omega
theorem o64_1 (x : Nat) (hx : x < 18446744073709551616) : IntKind.u64.wrap (bits BinOp.and IntKind.u64 ((x : Int) / 2) 6148914691236517205 + bits BinOp.and IntKind.u64 (x : Int) 6148914691236517205) = (sw1 8 x : Nat) ∧ sw1 8 x < 18446744073709551616 := by
  have e0 : ((x : Int) / 2) = ((x / 2 : Nat) : Int) := by omega
  have e1 : bits BinOp.and IntKind.u64 ((x / 2 : Nat) : Int) 6148914691236517205 = ((x / 2 &&& 6148914691236517205 : Nat) : Int) := u64_and_nat (x / 2) 6148914691236517205 (by omega) (by decide)
  have e2 : bits BinOp.and IntKind.u64 (x : Int) 6148914691236517205 = ((x &&& 6148914691236517205 : Nat) : Int) := u64_and_nat x 6148914691236517205 hx (by decide)
  have l1 : x / 2 &&& 6148914691236517205 ≤ 6148914691236517205 := Nat.and_le_right
  have l2 : x &&& 6148914691236517205 ≤ 6148914691236517205 := Nat.and_le_right
  have em : sw1 8 x = (x / 2 &&& 6148914691236517205) + (x &&& 6148914691236517205) := rfl
  rw [e0, e1, e2, em]
  exact ⟨u64_in _ (by omega), by omega⟩
theorem o64_2 (x : Nat) (hx : x < 18446744073709551616) : IntKind.u64.wrap (bits BinOp.and IntKind.u64 ((x : Int) / 4) 3689348814741910323 + bits BinOp.and IntKind.u64 (x : Int) 3689348814741910323) = (sw2 8 x : Nat) ∧ sw2 8 x < 8000000000000000000 := by
  have e0 : ((x : Int) / 4) = ((x / 4 : Nat) : Int) := by omega
  have e1 : bits BinOp.and IntKind.u64 ((x / 4 : Nat) : Int) 3689348814741910323 = ((x / 4 &&& 3689348814741910323 : Nat) : Int) := u64_and_nat (x / 4) 3689348814741910323 (by omega) (by decide)
  have e2 : bits BinOp.and IntKind.u64 (x : Int) 3689348814741910323 = ((x &&& 3689348814741910323 : Nat) : Int) := u64_and_nat x 3689348814741910323 hx (by decide)
  have l1 : x / 4 &&& 3689348814741910323 ≤ 3689348814741910323 := Nat.and_le_right
  have l2 : x &&& 3689348814741910323 ≤ 3689348814741910323 := Nat.and_le_right
  have em : sw2 8 x = (x / 4 &&& 3689348814741910323) + (x &&& 3689348814741910323) := rfl
  rw [e0, e1, e2, em]
  exact ⟨u64_in _ (by omega), by omega⟩
theorem o64_3 (x : Nat) (hx : x < 8000000000000000000) : bits BinOp.and IntKind.u64 (IntKind.u64.wrap ((x : Int) / 16 + (x : Int))) 1085102592571150095 = (sw3 8 x : Nat) := by
  have e0 : ((x : Int) / 16 + (x : Int)) = ((x / 16 + x : Nat) : Int) := by omega
  have e1 : bits BinOp.and IntKind.u64 ((x / 16 + x : Nat) : Int) 1085102592571150095 = (((x / 16 + x) &&& 1085102592571150095 : Nat) : Int) := u64_and_nat (x / 16 + x) 1085102592571150095 (by omega) (by decide)
  have em : sw3 8 x = (x / 16 + x) &&& 1085102592571150095 := rfl
  rw [e0, u64_in _ (by omega), e1, em]
theorem o64_4 (y d : Nat) (h : y + y / d < 18446744073709551616) : IntKind.u64.wrap ((y : Int) + (y : Int) / (d : Int)) = ((y + y / d : Nat) : Int) := by
  rw [← u64_in _ h]
  simp
theorem o64_7 (C : Nat) (h : C < 18446744073709551616) : bits BinOp.and IntKind.i64 (IntKind.i64.wrap (C : Int)) 127 = (C % 128 : Nat) := by
  show IntKind.i64.wrap ((BitVec.ofInt 64 (IntKind.i64.wrap (C : Int)) &&& BitVec.ofInt 64 127).toNat : Int) = _
  rw [BitVec.toNat_and, BitVec.toNat_ofInt, BitVec.toNat_ofInt]
  have e1 : ((IntKind.i64.wrap (C : Int)) % ((2 ^ 64 : Nat) : Int)).toNat = C := by rw [IntKind.wrap_i64]; omega
  have e2 : C &&& 127 = C % 128 := Nat.and_two_pow_sub_one_eq_mod C 7
  rw [e1]
  show IntKind.i64.wrap ((C &&& 127 : Nat) : Int) = _
  rw [e2, IntKind.wrap_i64]
  omega
theorem o64_all (x : Nat) (hx : x < 18446744073709551616) : ∃ X1 X2 X3 A B C : Nat, IntKind.u64.wrap (bits BinOp.and IntKind.u64 ((x : Int) / 2) 6148914691236517205 + bits BinOp.and IntKind.u64 (x : Int) 6148914691236517205) = (X1 : Int) ∧
    IntKind.u64.wrap (bits BinOp.and IntKind.u64 ((X1 : Int) / 4) 3689348814741910323 + bits BinOp.and IntKind.u64 (X1 : Int) 3689348814741910323) = (X2 : Int) ∧
    bits BinOp.and IntKind.u64 (IntKind.u64.wrap ((X2 : Int) / 16 + (X2 : Int))) 1085102592571150095 = (X3 : Int) ∧
    IntKind.u64.wrap ((X3 : Int) + (X3 : Int) / 256) = (A : Int) ∧ IntKind.u64.wrap ((A : Int) + (A : Int) / 65536) = (B : Int) ∧ IntKind.u64.wrap ((B : Int) + (B : Int) / 4294967296) = (C : Int) ∧
    bits BinOp.and IntKind.i64 (IntKind.i64.wrap (C : Int)) 127 = (pcN 64 x : Nat) := by
  obtain ⟨f1, g1⟩ := o64_1 x hx
  obtain ⟨f2, g2⟩ := o64_2 (sw1 8 x) g1
  have f3 := o64_3 (sw2 8 (sw1 8 x)) g2
  rw [(swar 8 x).1] at f3
  obtain ⟨p0, p1, p2, p3, p4, p5, p6, p7, hy, h0, h1, h2, h3, h4, h5, h6, h7, hc⟩ := pb_eight x hx
  obtain ⟨k1, k2⟩ := sw_end _ p0 p1 p2 p3 p4 p5 p6 p7 hy h0 h1 h2 h3 h4 h5 h6 h7
  rw [← hc] at k2
  clear hy hc
  have kb := Nat.lt_of_le_of_lt (Nat.le_add_right _ _) k1
  have ka := Nat.lt_of_le_of_lt (Nat.le_add_right _ _) kb
  refine ⟨_, _, _, _, _, _, f1, f2, f3, o64_4 _ 256 ka, o64_4 _ 65536 kb, o64_4 _ 4294967296 k1, ?_⟩
  rw [← k2]
  exact o64_7 _ k1
theorem ones64_all (x : Nat) (hx : x < 18446744073709551616) (w : World) : Calls Tryd.prog 42 #[.int .u64 x] w fun e w' => e = .returned (.int .i64 (pcN 64 x : Nat)) ∧ w' = w := by
  obtain ⟨X1, X2, X3, A, B, C, f1, f2, f3, f4, f5, f6, f7⟩ := o64_all x hx
  go_enter Tryd.func42, Tryd.ntmps42
  go_wp2
  go_ret
  refine ⟨ret_int ?_, rfl⟩
  rw [← IntWalk.i64_left]
  exact f7
end Go.Proofs.YtchbppidepapiaaDoor
