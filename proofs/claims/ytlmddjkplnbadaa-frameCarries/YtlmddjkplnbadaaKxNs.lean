import Derived.Test.YtlmddjkplnbadaaFB2
import Derived.Test.YtlmddjkplnbadaaKxHe
import Derived.Test.YtlmddjkplnbadaaZBx
namespace Go.Proofs.Ytlmddjkplnbadaa
open Go.RowKit
set_option maxRecDepth 100000
set_option linter.unusedVariables false
set_option linter.unusedSimpArgs false

/-! the sum of bytes, bit by bit -/
def crS (s b : Nat) : Nat := (s * 2 % 65536) ^^^ ((b ^^^ s / 32768) * 4129)
def crB (B : List Nat) (i : Nat) : Nat := nth B (i / 8) / 2 ^ (7 - i % 8) % 2
def crN (B : List Nat) : Nat → Nat
  | 0 => 65535
  | i + 1 => crS (crN B i) (crB B i)
def sumB (B : List Nat) : Nat := crN B (8 * B.length)
theorem xor_bit {a b : Nat} (ha : a < 2) (hb : b < 2) : a ^^^ b < 2 := by
  obtain (rfl | rfl) : a = 0 ∨ a = 1 := by omega
  all_goals obtain (rfl | rfl) : b = 0 ∨ b = 1 := by omega
  all_goals decide
theorem xor_16 {a b : Nat} (ha : a < 65536) (hb : b < 65536) : a ^^^ b < 65536 := Nat.xor_lt_two_pow (n := 16) ha hb
theorem crS_lt (s b : Nat) (hs : s < 65536) (hb : b < 2) : crS s b < 65536 := by
  have h := xor_bit hb (show s / 32768 < 2 by omega)
  exact xor_16 (Nat.mod_lt _ (by decide)) (by omega)
theorem crB_lt (B : List Nat) (i : Nat) : crB B i < 2 := Nat.mod_lt _ (by decide)
theorem crN_lt (B : List Nat) (i : Nat) : crN B i < 65536 := by
  induction i with
  | zero => exact (by decide : (65535 : Nat) < 65536)
  | succ i ih => exact crS_lt _ _ ih (crB_lt _ _)
/-- the register with what is left of a byte -/
def crP (p : Nat) : Nat := (p * 2 % 65536) ^^^ (p / 32768 * 4129)
theorem dbl_xor (a b : Nat) : (a ^^^ b) * 2 % 65536 = (a * 2 % 65536) ^^^ (b * 2 % 65536) := by
  have e : ∀ x : Nat, x * 2 % 65536 = (x <<< 1) % 2 ^ 16 := fun x => by rw [Nat.shiftLeft_eq]
  rw [e, e, e, Nat.shiftLeft_xor_distrib, Nat.xor_mod_two_pow]
theorem top_xor (a b : Nat) : (a ^^^ b) / 32768 = (a / 32768) ^^^ (b / 32768) := by
  have e : ∀ x : Nat, x / 32768 = x >>> 15 := fun x => by rw [Nat.shiftRight_eq_div_pow]
  rw [e, e, e, Nat.shiftRight_xor_distrib]
theorem crP_xor (s y : Nat) (hs : s < 65536) (hy : y < 65536) : crP (s ^^^ y) = crS s (y / 32768) ^^^ (y * 2 % 65536) := by
  unfold crP crS
  rw [dbl_xor, top_xor, Nat.xor_comm (y / 32768) (s / 32768)]
  ac_rfl
theorem bits_left (x j : Nat) (hx : x < 256) (hj : j < 8) : x * 2 ^ (8 + j) % 65536 / 32768 = x / 2 ^ (7 - j) % 2 := by
  obtain (rfl | rfl | rfl | rfl | rfl | rfl | rfl | rfl) : j = 0 ∨ j = 1 ∨ j = 2 ∨ j = 3 ∨ j = 4 ∨ j = 5 ∨ j = 6 ∨ j = 7 := by omega
  all_goals simp only [Nat.reduceAdd, Nat.reduceSub, Nat.reducePow]
  all_goals omega
/-- what the program's register holds behind j bits of byte k -/
def crR (B : List Nat) (k j : Nat) : Nat := crN B (8 * k + j) ^^^ (nth B k * 2 ^ (8 + j) % 65536)
theorem crR_lt (B : List Nat) (k j : Nat) : crR B k j < 65536 := xor_16 (crN_lt _ _) (Nat.mod_lt _ (by decide))
theorem crR_step (B : List Nat) (k j : Nat) (hB : nth B k < 256) (hj : j < 8) : crP (crR B k j) = crR B k (j + 1) := by
  unfold crR
  rw [crP_xor _ _ (crN_lt _ _) (Nat.mod_lt _ (by decide)), bits_left _ _ hB hj]
  show _ = crN B (8 * k + j + 1) ^^^ _
  have e1 : crB B (8 * k + j) = nth B k / 2 ^ (7 - j) % 2 := by unfold crB; rw [show (8 * k + j) / 8 = k by omega, show (8 * k + j) % 8 = j by omega]
  show _ = crS (crN B (8 * k + j)) (crB B (8 * k + j)) ^^^ _
  rw [e1]
  congr 1
  rw [show 8 + (j + 1) = (8 + j) + 1 by omega, Nat.pow_succ, ← Nat.mul_assoc, Nat.mod_mul_mod]
theorem crR_end (B : List Nat) (k : Nat) : crR B k 8 = crN B (8 * (k + 1)) := by
  unfold crR
  rw [show nth B k * 2 ^ (8 + 8) % 65536 = 0 by rw [show (2 : Nat) ^ (8 + 8) = 65536 from rfl]; exact Nat.mul_mod_left _ _, Nat.xor_zero]
  rfl
theorem crR_zero (B : List Nat) (k : Nat) (hB : nth B k < 256) : crR B k 0 = crN B (8 * k) ^^^ (nth B k * 256) := by
  unfold crR
  rw [show (2 : Nat) ^ (8 + 0) = 256 from rfl, Nat.mod_eq_of_lt (by omega)]
  rfl
set_option maxHeartbeats 1000000 in
theorem fsum_any (a : Option Addr) (n cap : Nat) (L : List Nat) (w : World) (h : Rd w a n cap L) :
    Calls Try.prog 13 #[.slice a n cap] w fun e w' => e = .returned (.int .i64 (sumB L : Nat)) ∧ w' = w := by
  have hn := h.max
  unfold maxLen at hn
  have hle := h.le
  go_enter Try.func13, Try.ntmps13
  go_wp2
  go_loop [3, 9] (fun r i => ∃ k : Nat, k ≤ n ∧ i = .int .i64 k ∧ r = .int .u16 (crN L (8 * k) : Nat)) (fun _ i => n - (intOf i).toNat)
  case atStart => exact ⟨0, by omega, rfl, rfl⟩
  case round =>
    obtain ⟨k, hk, rfl, rfl⟩ := hrel
    by_cases hlt : k < n
    · obtain ⟨b, off, rfl, hbw, hcc⟩ := h.at' (by omega)
      have hlk := hcc k hlt
      have hB : nth L k < 256 := h.byte.nth k
      go_wp2
      go_loop [3, 18] (fun r i => ∃ j : Nat, j ≤ 8 ∧ i = .int .i64 j ∧ r = .int .u16 (crR L k j : Nat)) (fun _ i => 8 - (intOf i).toNat)
      case atStart => exact ⟨0, by omega, rfl, val_int (by rw [crR_zero L k hB, show ((nth L k : Int) * 256) = ((nth L k * 256 : Nat) : Int) by omega]; exact u16_xor_nat _ _ (crN_lt _ _) (by omega))⟩
      case round =>
        obtain ⟨j, hj, rfl, rfl⟩ := hrel
        have hR := crR_lt L k j
        by_cases hl8 : j < 8
        · go_wp2
          go_round
          case rel => exact ⟨j + 1, by omega, by go_num, val_int (by
            rw [IntKind.wrap_u16, ← crR_step L k j hB hl8, show ((crR L k j : Int) * 2 % 65536) = ((crR L k j * 2 % 65536 : Nat) : Int) by omega, show ((crR L k j : Int) / 32768 * 4129) = ((crR L k j / 32768 * 4129 : Nat) : Int) by omega]
            exact u16_xor_nat _ _ (by omega) (by omega))⟩
          case measure => simp [intOf]; omega
        · obtain rfl : j = 8 := by omega
          rw [crR_end]
          go_wp2
          go_round
          case rel => exact ⟨k + 1, by omega, by go_num, rfl⟩
          case measure => simp [intOf]; omega
    · obtain rfl : k = n := by omega
      go_wp2
      go_ret
      have hlt' := crN_lt L (8 * k)
      exact ⟨by unfold sumB; rw [h.len]; exact ret_int (by unfold wrap64; omega), rfl⟩
/-- byte i of k bytes of a number, the highest first -/
def beB (k x i : Nat) : Nat := x / 2 ^ (8 * (k - 1 - i)) % 256
def beL (k x : Nat) : List Nat := tab k (beB k x)
theorem beB_lt (k x i : Nat) : beB k x i < 256 := Nat.mod_lt _ (by decide)
/-- bytes that lie in the call's own memory, told by a box -/
structure Row (wb w : World) (g : Nat) (a : Option Addr) (m c : Nat) (D : List Nat) : Prop where
  box : BxS w g 22 #[.slice a m c]
  ans : Ans w wb.heap.size a m c D
  far : (Value.slice a m c).ownBlock ≠ some g
  new : wb.heap.size ≤ g
  grown : wb.grownBy w none
theorem be_val (k x p j : Nat) (hx : x < 9223372036854775808) (hp : p = 8 * (k - 1 - j)) : IntKind.u8.wrap ((x : Int) / 2 ^ p) = (beB k x j : Int) := by
  rw [IntKind.wrap_u8', hp]
  unfold beB
  have e : ((x : Int) / 2 ^ (8 * (k - 1 - j))) = ((x / 2 ^ (8 * (k - 1 - j)) : Nat) : Int) := by simp
  rw [e]
  omega
theorem Row.push {wb wr w2 : World} {g m m' c1 cx gx : Nat} {a1 : Option Addr} {D E : List Nat} (h : Row wb wr g a1 m c1 D) (hA2 : Ans w2 wb.heap.size (some ⟨gx, 0, none⟩) m' cx E) (hG2 : wr.grownBy w2 (Value.slice a1 m c1).ownBlock)
    (hM2 : Mine wr (Value.slice a1 m c1).ownBlock (some ⟨gx, 0, none⟩) m' cx) : Row wb (w2.setCell ⟨g, 0, none⟩ (.slice (some ⟨gx, 0, none⟩) m' cx)) g (some ⟨gx, 0, none⟩) m' cx E := by
  have hb2 := h.box.keep hG2 (Ne.symm h.far)
  have hfar : (Value.slice (some ⟨gx, 0, none⟩) m' cx).ownBlock ≠ some g := by
    intro e
    rcases hM2 g e with h1 | h1
    · exact h.far h1
    · have := h.box.lt; omega
  exact ⟨hb2.set 0 _, hA2.kept (grown_set _ _ _ _) (.inr hfar), hfar, h.new, grown_far (grown_far h.grown hG2 (fun q e => h.ans.new q e)) (grown_set _ _ _ _) (fun q e => by cases e; exact h.new)⟩
set_option maxHeartbeats 4000000 in
theorem fput_any (k x g m co : Nat) (ao : Option Addr) (D : List Nat) (wb w : World) (hR : Row wb w g ao m co D) (hk1 : 1 ≤ k) (hk : k ≤ 4) (hx : x < 9223372036854775808) (hm : m ≤ 1000000) :
    Calls Try.prog 45 #[.int .i64 k, .int .i64 x, .pointer (some ⟨g, 0, none⟩)] w fun e w' => e = .returned (.tuple #[]) ∧ ∃ a' c', Row wb w' g a' (m + k) c' (D ++ beL k x) := by
  have hk0 : (8 : Int) * ((k : Int) - 1) = 8 * (k : Int) - 8 := by omega
  go_enter Try.func45, Try.ntmps45
  go_wp2
  go_loopw [5] (fun pl wr => ∃ (j : Nat) (a1 : Option Addr) (c1 : Nat), j ≤ k ∧ pl = .int .i64 (8 * (k : Int) - 8 - 8 * (j : Int)) ∧ Row wb wr g a1 (m + j) c1 (D ++ tab j (beB k x))) (fun pl _ => (intOf pl + 8).toNat)
  case atStart => exact ⟨0, ao, co, by omega, by go_num, by simpa [tab] using hR⟩
  case round =>
    obtain ⟨j, a1, c1, hj, rfl, hR1⟩ := hrel
    by_cases hlt : j < k
    · obtain ⟨p, hp⟩ : ∃ p : Nat, (8 : Int) * (k : Int) - 8 - 8 * (j : Int) = p := ⟨8 * (k - 1 - j), by omega⟩
      rw [hp]
      have HP : Hid ((8 : Int) * (k : Int) - 8 - 8 * (j : Int) = p) := hp
      have hp40 : p ≤ 32 := by omega
      have hv := be_val k x p j hx (by omega)
      have hvl := beB_lt k x j
      have hsj : Hid (tab (j + 1) (beB k x) = tab j (beB k x) ++ [beB k x j]) := tab_succ _ _
      generalize beB k x j = v at hv hvl hsj
      clear hp hk0
      have hc1 := hR1.box.cell 0 Nat.zero_lt_one
      have hf1 := hR1.box.free 0
      have hgl := hR1.box.lt
      have hA1 := hR1.ans
      have hAd : Ans wr.drew wb.heap.size a1 (m + j) c1 (D ++ tab j (beB k x)) := hA1.keep (grown_drew _ _)
      have hGd := grown_drew wr (Value.slice a1 (m + j) c1).ownBlock
      have hM : Mine wr (Value.slice a1 (m + j) c1).ownBlock a1 (m + j) c1 := fun q h => .inl h
      have hsz : wb.heap.size ≤ wr.heap.size := hR1.grown.size
      go_wp2
      go_region_law (first
        | (refine step_push2 wr wr.drew rfl (.tmp 13) (.tmp 18) rfl a1 (m + j) c1 v wb.heap.size (Value.slice a1 (m + j) c1).ownBlock _ rfl hAd hGd hM hsz hvl rfl (by omega) ?_; intro gx cx w2 hA2 hG2 hM2 _; have hb2 := hR1.box.keep hG2 (Ne.symm hR1.far); have hc2 := hb2.cell 0 Nat.zero_lt_one; have hf2 := hb2.free 0))
      all_goals
        have hP := hR1.push hA2 hG2 hM2
        rw [List.append_assoc, ← hsj.out] at hP
        go_wp2
        go_roundw
        case rel => exact ⟨j + 1, _, cx, by omega, by have := HP.out; go_num, hP⟩
        case measure => simp [intOf]; omega
    · obtain rfl : j = k := by omega
      go_wp2
      go_end0
      exact ⟨rfl, a1, c1, hR1⟩

theorem i64_or_n (a b : Nat) (ha : a < 2 ^ 63) (hb : b < 2 ^ 63) : bits .or .i64 (a : Int) (b : Int) = ((a ||| b : Nat) : Int) := by
  have hx : a ||| b < 2 ^ 63 := Nat.or_lt_two_pow (by omega) (by omega)
  show IntKind.i64.wrap ((BitVec.ofInt 64 (a : Int) ||| BitVec.ofInt 64 (b : Int)).toNat : Int) = _
  rw [BitVec.toNat_or, ofInt_i64 a ha, ofInt_i64 b hb, wrap_i64_in _ (by omega) (by omega)]
/-- bits behind bits -/
theorem or_put (h x k : Nat) (hx : x < 2 ^ k) (h1 : h * 2 ^ k < 2 ^ 62) (h2 : x < 2 ^ 62) : bits .or .i64 ((h * 2 ^ k : Nat) : Int) (x : Int) = ((h * 2 ^ k + x : Nat) : Int) := by
  rw [i64_or_n _ _ (by omega) (by omega)]
  have h3 := Nat.shiftLeft_add_eq_or_of_lt hx h
  rw [Nat.shiftLeft_eq] at h3
  rw [← h3]
/-- a head, as a value -/
def heA (cr ch ma ow fi : Int) : Array Value := #[.int .i64 cr, .int .i64 ch, .int .i64 ma, .int .i64 ow, .int .i64 fi]
def wiB (n m : Int) : Bool := decide (0 ≤ n ∧ n ≤ m)
theorem wiB_t {n m : Int} (h : 0 ≤ n ∧ n ≤ m) : wiB n m = true := decide_eq_true h
theorem wiB_f {n m : Int} (h : ¬ (0 ≤ n ∧ n ≤ m)) : wiB n m = false := decide_eq_false h
theorem fwithin_any (n m : Int) (w : World) : Calls Try.prog 43 #[.int .i64 n, .int .i64 m] w fun e w' => e = .returned (.bool (wiB n m)) ∧ w' = w := by
  by_cases h : 0 ≤ n ∧ n ≤ m
  · rw [wiB_t h]
    have h1 := h.1
    have h2 := h.2
    go_enter Try.func43, Try.ntmps43
    go_wp2
    go_ret
    exact ⟨rfl, rfl⟩
  · rw [wiB_f h]
    by_cases h1 : 0 ≤ n
    · have h2 : ¬ n ≤ m := fun h2 => h ⟨h1, h2⟩
      go_enter Try.func43, Try.ntmps43
      go_wp2
      go_ret
      exact ⟨rfl, rfl⟩
    · go_enter Try.func43, Try.ntmps43
      go_wp2
      go_ret
      exact ⟨rfl, rfl⟩
def siB (n : Int) : Bool := decide (13 ≤ n ∧ n ≤ 2048)
theorem fsize_any (n : Int) (w : World) : Calls Try.prog 44 #[.int .i64 n] w fun e w' => e = .returned (.bool (siB n)) ∧ w' = w := by
  by_cases h : 13 ≤ n ∧ n ≤ 2048
  · rw [show siB n = true from decide_eq_true h]
    have h1 := h.1
    have h2 := h.2
    go_enter Try.func44, Try.ntmps44
    go_wp2
    go_ret
    exact ⟨rfl, rfl⟩
  · rw [show siB n = false from decide_eq_false h]
    by_cases h1 : 13 ≤ n
    · have h2 : ¬ n ≤ 2048 := fun h2 => h ⟨h1, h2⟩
      go_enter Try.func44, Try.ntmps44
      go_wp2
      go_ret
      exact ⟨rfl, rfl⟩
    · go_enter Try.func44, Try.ntmps44
      go_wp2
      go_ret
      exact ⟨rfl, rfl⟩
def heB (cr ch ma ow fi : Int) : Bool := wiB cr 1023 && wiB ch 7 && wiB ma 255 && wiB ow 255 && wiB fi 2047
theorem BxS.cell5 {w : World} {g : Nat} {t : TypeId} {a b c d e : Value} (h : BxS w g t #[a, b, c, d, e]) : w.cell? ⟨g, 0, none⟩ = some a ∧ w.cell? ⟨g, 1, none⟩ = some b ∧ w.cell? ⟨g, 2, none⟩ = some c ∧ w.cell? ⟨g, 3, none⟩ = some d ∧ w.cell? ⟨g, 4, none⟩ = some e := by
  simp [World.cell?, show w.heap[g]? = _ from h]
set_option maxHeartbeats 4000000 in
theorem headMay_any (cr ch ma ow fi : Int) (w : World) : Calls Try.prog 42 #[.agg (heA cr ch ma ow fi)] w fun e w' => e = .returned (.bool (heB cr ch ma ow fi)) ∧ w.grownBy w' none := by
  unfold heA heB
  have gA := World.grownBy_alloc w (.cells #[.int .i64 cr, .int .i64 ch, .int .i64 ma, .int .i64 ow, .int .i64 fi] 28) none
  have h0 := fun wz => fwithin_any cr 1023 wz
  have h1 := fun wz => fwithin_any ch 7 wz
  have h2 := fun wz => fwithin_any ma 255 wz
  have h3 := fun wz => fwithin_any ow 255 wz
  have h4 := fun wz => fwithin_any fi 2047 wz
  generalize wiB cr 1023 = b0 at h0 ⊢
  generalize wiB ch 7 = b1 at h1 ⊢
  generalize wiB ma 255 = b2 at h2 ⊢
  generalize wiB ow 255 = b3 at h3 ⊢
  generalize wiB fi 2047 = b4 at h4 ⊢
  have t1 : True := trivial
  cases b0 <;> cases b1 <;> cases b2 <;> cases b3 <;> cases b4
  all_goals
    go_enter Try.func42, Try.ntmps42
    go_wp2_with (first
      | (go_at_call 43; have _t := t1; clear t1; refine (h0 _).mono ?_; rintro e wx ⟨rfl, hw⟩; have hw := hw.symm; subst hw; have t2 : True := trivial)
      | (go_at_call 43; have _t := t2; clear t2; refine (h1 _).mono ?_; rintro e wx ⟨rfl, hw⟩; have hw := hw.symm; subst hw; have t3 : True := trivial)
      | (go_at_call 43; have _t := t3; clear t3; refine (h2 _).mono ?_; rintro e wx ⟨rfl, hw⟩; have hw := hw.symm; subst hw; have t4 : True := trivial)
      | (go_at_call 43; have _t := t4; clear t4; refine (h3 _).mono ?_; rintro e wx ⟨rfl, hw⟩; have hw := hw.symm; subst hw; have t5 : True := trivial)
      | (go_at_call 43; have _t := t5; clear t5; refine (h4 _).mono ?_; rintro e wx ⟨rfl, hw⟩; have hw := hw.symm; subst hw))
    go_ret
    exact ⟨rfl, gA⟩
end Go.Proofs.Ytlmddjkplnbadaa
