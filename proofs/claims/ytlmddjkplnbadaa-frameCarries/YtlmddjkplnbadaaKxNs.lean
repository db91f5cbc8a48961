import Derived.Test.YtlmddjkplnbadaaFB2
import Derived.Test.YtlmddjkplnbadaaKxHe
import Derived.Test.YtlmddjkplnbadaaZBx
namespace Go.Proofs.Ytlmddjkplnbadaa
open Go.RowKit
set_option maxRecDepth 100000
set_option linter.unusedVariables false
set_option linter.unusedSimpArgs false

/-! the sum of bytes, bit by bit -/
def crS (s b : Nat) : Nat := (s * 2 % 65536) ^^^ ((b ^^^ s / 32768) * 4129)
def crB (B : List Nat) (i : Nat) : Nat := nth B (i / 8) / 2 ^ (7 - i % 8) % 2
def crN (B : List Nat) : Nat → Nat
  | 0 => 65535
  | i + 1 => crS (crN B i) (crB B i)
def sumB (B : List Nat) : Nat := crN B (8 * B.length)
theorem xor_bit {a b : Nat} (ha : a < 2) (hb : b < 2) : a ^^^ b < 2 := by
  obtain (rfl | rfl) : a = 0 ∨ a = 1 := by omega
  all_goals obtain (rfl | rfl) : b = 0 ∨ b = 1 := by omega
  all_goals decide
theorem xor_16 {a b : Nat} (ha : a < 65536) (hb : b < 65536) : a ^^^ b < 65536 := Nat.xor_lt_two_pow (n := 16) ha hb
theorem crS_lt (s b : Nat) (hs : s < 65536) (hb : b < 2) : crS s b < 65536 := by
  have h := xor_bit hb (show s / 32768 < 2 by omega)
  exact xor_16 (Nat.mod_lt _ (by decide)) (by omega)
theorem crB_lt (B : List Nat) (i : Nat) : crB B i < 2 := Nat.mod_lt _ (by decide)
theorem crN_lt (B : List Nat) (i : Nat) : crN B i < 65536 := by
  induction i with
  | zero => exact (by decide : (65535 : Nat) < 65536)
  | succ i ih => exact crS_lt _ _ ih (crB_lt _ _)
/-- the register with what is left of a byte -/
def crP (p : Nat) : Nat := (p * 2 % 65536) ^^^ (p / 32768 * 4129)
theorem dbl_xor (a b : Nat) : (a ^^^ b) * 2 % 65536 = (a * 2 % 65536) ^^^ (b * 2 % 65536) := by
  have e : ∀ x : Nat, x * 2 % 65536 = (x <<< 1) % 2 ^ 16 := fun x => by rw [Nat.shiftLeft_eq]
  rw [e, e, e, Nat.shiftLeft_xor_distrib, Nat.xor_mod_two_pow]
theorem top_xor (a b : Nat) : (a ^^^ b) / 32768 = (a / 32768) ^^^ (b / 32768) := by
  have e : ∀ x : Nat, x / 32768 = x >>> 15 := fun x => by rw [Nat.shiftRight_eq_div_pow]
  rw [e, e, e, Nat.shiftRight_xor_distrib]
theorem crP_xor (s y : Nat) (hs : s < 65536) (hy : y < 65536) : crP (s ^^^ y) = crS s (y / 32768) ^^^ (y * 2 % 65536) := by
  unfold crP crS
  rw [dbl_xor, top_xor, Nat.xor_comm (y / 32768) (s / 32768)]
  ac_rfl
theorem bits_left (x j : Nat) (hx : x < 256) (hj : j < 8) : x * 2 ^ (8 + j) % 65536 / 32768 = x / 2 ^ (7 - j) % 2 := by
  obtain (rfl | rfl | rfl | rfl | rfl | rfl | rfl | rfl) : j = 0 ∨ j = 1 ∨ j = 2 ∨ j = 3 ∨ j = 4 ∨ j = 5 ∨ j = 6 ∨ j = 7 := by omega
  all_goals simp only [Nat.reduceAdd, Nat.reduceSub, Nat.reducePow]
  all_goals omega
/-- what the program's register holds behind j bits of byte k -/
def crR (B : List Nat) (k j : Nat) : Nat := crN B (8 * k + j) ^^^ (nth B k * 2 ^ (8 + j) % 65536)
theorem crR_lt (B : List Nat) (k j : Nat) : crR B k j < 65536 := xor_16 (crN_lt _ _) (Nat.mod_lt _ (by decide))
theorem crR_step (B : List Nat) (k j : Nat) (hB : nth B k < 256) (hj : j < 8) : crP (crR B k j) = crR B k (j + 1) := by
  unfold crR
  rw [crP_xor _ _ (crN_lt _ _) (Nat.mod_lt _ (by decide)), bits_left _ _ hB hj]
  show _ = crN B (8 * k + j + 1) ^^^ _
  have e1 : crB B (8 * k + j) = nth B k / 2 ^ (7 - j) % 2 := by unfold crB; rw [show (8 * k + j) / 8 = k by omega, show (8 * k + j) % 8 = j by omega]
  show _ = crS (crN B (8 * k + j)) (crB B (8 * k + j)) ^^^ _
  rw [e1]
  congr 1
  rw [show 8 + (j + 1) = (8 + j) + 1 by omega, Nat.pow_succ, ← Nat.mul_assoc, Nat.mod_mul_mod]
theorem crR_end (B : List Nat) (k : Nat) : crR B k 8 = crN B (8 * (k + 1)) := by
  unfold crR
  rw [show nth B k * 2 ^ (8 + 8) % 65536 = 0 by rw [show (2 : Nat) ^ (8 + 8) = 65536 from rfl]; exact Nat.mul_mod_left _ _, Nat.xor_zero]
  rfl
theorem crR_zero (B : List Nat) (k : Nat) (hB : nth B k < 256) : crR B k 0 = crN B (8 * k) ^^^ (nth B k * 256) := by
  unfold crR
  rw [show (2 : Nat) ^ (8 + 0) = 256 from rfl, Nat.mod_eq_of_lt (by omega)]
  rfl
set_option maxHeartbeats 1000000 in
theorem fsum_any (a : Option Addr) (n cap : Nat) (L : List Nat) (w : World) (h : Rd w a n cap L) :
    Calls Try.prog 13 #[.slice a n cap] w fun e w' => e = .returned (.int .i64 (sumB L : Nat)) ∧ w' = w := by
  have hn := h.max
  unfold maxLen at hn
  have hle := h.le
  go_enter Try.func13, Try.ntmps13
  go_wp2
  go_loop [3, 9] (fun r i => ∃ k : Nat, k ≤ n ∧ i = .int .i64 k ∧ r = .int .u16 (crN L (8 * k) : Nat)) (fun _ i => n - (intOf i).toNat)
  case atStart => exact ⟨0, by omega, rfl, rfl⟩
  case round =>
    obtain ⟨k, hk, rfl, rfl⟩ := hrel
    by_cases hlt : k < n
    · obtain ⟨b, off, rfl, hbw, hcc⟩ := h.at' (by omega)
      have hlk := hcc k hlt
      have hB : nth L k < 256 := h.byte.nth k
      go_wp2
      go_loop [3, 18] (fun r i => ∃ j : Nat, j ≤ 8 ∧ i = .int .i64 j ∧ r = .int .u16 (crR L k j : Nat)) (fun _ i => 8 - (intOf i).toNat)
      case atStart => exact ⟨0, by omega, rfl, val_int (by rw [crR_zero L k hB, show ((nth L k : Int) * 256) = ((nth L k * 256 : Nat) : Int) by omega]; exact u16_xor_nat _ _ (crN_lt _ _) (by omega))⟩
      case round =>
        obtain ⟨j, hj, rfl, rfl⟩ := hrel
        have hR := crR_lt L k j
        by_cases hl8 : j < 8
        · go_wp2
          go_round
          case rel => exact ⟨j + 1, by omega, by go_num, val_int (by
            rw [IntKind.wrap_u16, ← crR_step L k j hB hl8, show ((crR L k j : Int) * 2 % 65536) = ((crR L k j * 2 % 65536 : Nat) : Int) by omega, show ((crR L k j : Int) / 32768 * 4129) = ((crR L k j / 32768 * 4129 : Nat) : Int) by omega]
            exact u16_xor_nat _ _ (by omega) (by omega))⟩
          case measure => simp [intOf]; omega
        · obtain rfl : j = 8 := by omega
          rw [crR_end]
          go_wp2
          go_round
          case rel => exact ⟨k + 1, by omega, by go_num, rfl⟩
          case measure => simp [intOf]; omega
    · obtain rfl : k = n := by omega
      go_wp2
      go_ret
      have hlt' := crN_lt L (8 * k)
      exact ⟨by unfold sumB; rw [h.len]; exact ret_int (by unfold wrap64; omega), rfl⟩
set_option maxHeartbeats 1000000 in
theorem rsum_any (a : Option Addr) (n cap : Nat) (L : List Nat) (w : World) (h : Rd w a n cap L) (hn8 : n ≤ 1152921504606846975) :
    Calls Try.prog 14 #[.slice a n cap] w fun e w' => e = .returned (.int .i64 (sumB L : Nat)) ∧ w.grownBy w' none := by
  have hn := h.max
  unfold maxLen at hn
  have hle := h.le
  go_enter Try.func14, Try.ntmps14
  go_wp2
  go_loopw [3, 4] (fun s i wr => ∃ k : Nat, k ≤ 8 * n ∧ i = .int .i64 k ∧ s = .int .i64 (crN L k : Nat) ∧ w.grownBy wr none) (fun _ i _ => 8 * n - (intOf i).toNat)
  case atStart => exact ⟨0, by omega, rfl, rfl, World.grownBy.refl _ _⟩
  case round =>
    obtain ⟨k, hk, rfl, rfl, hgr⟩ := hrel
    have hS := crN_lt L k
    by_cases hlt : k < 8 * n
    · obtain ⟨c, q, hkq, hq⟩ : ∃ c q : Nat, k = 8 * c + q ∧ q < 8 := ⟨k / 8, k % 8, by omega, by omega⟩
      obtain ⟨p, hpj⟩ : ∃ p : Nat, p + q = 7 := ⟨7 - q, by omega⟩
      have hkn : c < n := by omega
      obtain ⟨b, off, rfl, hbw, hcc⟩ := (h.grown hgr (by simp)).at' (by omega)
      have hlk := hcc c hkn
      have hB : nth L c < 256 := h.byte.nth _
      have HB : Hid (crB L k = nth L c / 2 ^ p % 2) := by
        show _ = _
        unfold crB
        rw [show k / 8 = c from by omega, show k % 8 = q from by omega, show 7 - q = p from by omega]
      have HN : Hid (crN L (k + 1) = crS (crN L k) (crB L k)) := show _ = _ from rfl
      have hd1 : (k : Int) / 8 = (c : Int) := by omega
      have hd2 : (k : Int).tdiv 8 = (c : Int) := by rw [Int.tdiv_eq_ediv_of_nonneg (by omega)]; omega
      have hm1 : (k : Int) % 8 = (q : Int) := by omega
      have hm2 : (k : Int).tmod 8 = (q : Int) := by rw [Int.tmod_eq_emod_of_nonneg (by omega)]; omega
      have hs : (7 : Int) - (q : Int) = (p : Int) := by omega
      have hb : bits .and .i64 ((nth L c : Int) / (2 : Int) ^ p) 1 = ((nth L c / 2 ^ p % 2 : Nat) : Int) := by
        have e : ((nth L c : Int) / (2 : Int) ^ p) = ((nth L c / 2 ^ p : Nat) : Int) := by simp
        have hl : nth L c / 2 ^ p < 2 ^ 63 := Nat.lt_of_le_of_lt (Nat.div_le_self _ _) (by omega)
        have := i64_and_nat (nth L c / 2 ^ p) 1 hl (by decide)
        rw [e]; simp only [Int.natCast_one] at this; rw [this, Nat.and_one_is_mod]
      have hw : wrap64 ((nth L c : Int) / (2 : Int) ^ p) = (nth L c : Int) / (2 : Int) ^ p := by
        have e : ((nth L c : Int) / (2 : Int) ^ p) = ((nth L c / 2 ^ p : Nat) : Int) := by simp
        have hl : nth L c / 2 ^ p < 256 := Nat.lt_of_le_of_lt (Nat.div_le_self _ _) hB
        rw [e]; generalize nth L c / 2 ^ p = z at *
        unfold wrap64; omega
      have hv2 : nth L c / 2 ^ p % 2 < 2 := Nat.mod_lt _ (by decide)
      have hp8 : p < 8 := by omega
      generalize nth L c / 2 ^ p % 2 = v at *
      generalize crN L k = s at *
      have hx2 := xor_bit hv2 (show s / 32768 < 2 by omega)
      have hx : bits .xor .i64 (v : Int) ((s : Int) / 32768) = ((v ^^^ s / 32768 : Nat) : Int) := by
        rw [show ((s : Int) / 32768) = ((s / 32768 : Nat) : Int) by omega]
        exact i64_xor_nat _ _ (by omega) (by omega)
      have ha : bits .and .i64 ((s : Int) * 2) 65535 = ((s * 2 % 65536 : Nat) : Int) := by
        have := i64_and_nat (s * 2) 65535 (by omega) (by decide)
        rw [show ((s : Int) * 2) = ((s * 2 : Nat) : Int) by omega]
        refine this.trans ?_
        rw [show (65535 : Nat) = 2 ^ 16 - 1 from rfl, Nat.and_two_pow_sub_one_eq_mod]
      have hc : bits .xor .i64 ((s * 2 % 65536 : Nat) : Int) 4129 = ((s * 2 % 65536 ^^^ 4129 : Nat) : Int) := i64_xor_nat (s * 2 % 65536) 4129 (by omega) (by decide)
      have HC : Hid (crS s v = (s * 2 % 65536) ^^^ ((v ^^^ s / 32768) * 4129)) := show _ = _ from rfl
      generalize v ^^^ s / 32768 = x at *
      have hm : s * 2 % 65536 < 65536 := Nat.mod_lt _ (by decide)
      generalize s * 2 % 65536 = t at *
      clear hcc h hkq hpj
      obtain (rfl | rfl) : x = 0 ∨ x = 1 := by omega
      · have hx' : bits .xor .i64 (v : Int) ((s : Int) / 32768) = 0 := hx
        clear hx
        go_wp2
        go_roundw
        case rel => exact ⟨k + 1, by omega, by go_num, val_int (by rw [HN.out, HB.out, HC.out]; simp), hgr⟩
        case measure => simp [intOf]; omega
      · have hx' : bits .xor .i64 (v : Int) ((s : Int) / 32768) = 1 := hx
        clear hx
        go_wp2
        go_roundw
        case rel => exact ⟨k + 1, by omega, by go_num, val_int (by rw [HN.out, HB.out, HC.out]), hgr⟩
        case measure => simp [intOf]; omega
    · obtain rfl : k = 8 * n := by omega
      have HE : Hid (sumB L = crN L (8 * n)) := by show _ = _; unfold sumB; rw [h.len]
      go_wp2
      go_ret
      exact ⟨by rw [HE.out]; rfl, hgr⟩

/-- byte i of k bytes of a number, the highest first -/
def beB (k x i : Nat) : Nat := x / 2 ^ (8 * (k - 1 - i)) % 256
def beL (k x : Nat) : List Nat := tab k (beB k x)
theorem beB_lt (k x i : Nat) : beB k x i < 256 := Nat.mod_lt _ (by decide)
/-- bytes that lie in the call's own memory, told by a box -/
structure Row (wb w : World) (g : Nat) (a : Option Addr) (m c : Nat) (D : List Nat) : Prop where
  box : BxS w g 22 #[.slice a m c]
  ans : Ans w wb.heap.size a m c D
  far : (Value.slice a m c).ownBlock ≠ some g
  new : wb.heap.size ≤ g
  grown : wb.grownBy w none
theorem be_val (k x p j : Nat) (hx : x < 9223372036854775808) (hp : p = 8 * (k - 1 - j)) : IntKind.u8.wrap ((x : Int) / 2 ^ p) = (beB k x j : Int) := by
  rw [IntKind.wrap_u8', hp]
  unfold beB
  have e : ((x : Int) / 2 ^ (8 * (k - 1 - j))) = ((x / 2 ^ (8 * (k - 1 - j)) : Nat) : Int) := by simp
  rw [e]
  omega
theorem Row.push {wb wr w2 : World} {g m m' c1 cx gx : Nat} {a1 : Option Addr} {D E : List Nat} (h : Row wb wr g a1 m c1 D) (hA2 : Ans w2 wb.heap.size (some ⟨gx, 0, none⟩) m' cx E) (hG2 : wr.grownBy w2 (Value.slice a1 m c1).ownBlock)
    (hM2 : Mine wr (Value.slice a1 m c1).ownBlock (some ⟨gx, 0, none⟩) m' cx) : Row wb (w2.setCell ⟨g, 0, none⟩ (.slice (some ⟨gx, 0, none⟩) m' cx)) g (some ⟨gx, 0, none⟩) m' cx E := by
  have hb2 := h.box.keep hG2 (Ne.symm h.far)
  have hfar : (Value.slice (some ⟨gx, 0, none⟩) m' cx).ownBlock ≠ some g := by
    intro e
    rcases hM2 g e with h1 | h1
    · exact h.far h1
    · have := h.box.lt; omega
  exact ⟨hb2.set 0 _, hA2.kept (grown_set _ _ _ _) (.inr hfar), hfar, h.new, grown_far (grown_far h.grown hG2 (fun q e => h.ans.new q e)) (grown_set _ _ _ _) (fun q e => by cases e; exact h.new)⟩
set_option maxHeartbeats 4000000 in
theorem fput_any (k x g m co : Nat) (ao : Option Addr) (D : List Nat) (wb w : World) (hR : Row wb w g ao m co D) (hk1 : 1 ≤ k) (hk : k ≤ 4) (hx : x < 9223372036854775808) (hm : m ≤ 1000000) :
    Calls Try.prog 45 #[.int .i64 k, .int .i64 x, .pointer (some ⟨g, 0, none⟩)] w fun e w' => e = .returned (.tuple #[]) ∧ ∃ a' c', Row wb w' g a' (m + k) c' (D ++ beL k x) := by
  have hk0 : (8 : Int) * ((k : Int) - 1) = 8 * (k : Int) - 8 := by omega
  go_enter Try.func45, Try.ntmps45
  go_wp2
  go_loopw [5] (fun pl wr => ∃ (j : Nat) (a1 : Option Addr) (c1 : Nat), j ≤ k ∧ pl = .int .i64 (8 * (k : Int) - 8 - 8 * (j : Int)) ∧ Row wb wr g a1 (m + j) c1 (D ++ tab j (beB k x))) (fun pl _ => (intOf pl + 8).toNat)
  case atStart => exact ⟨0, ao, co, by omega, by go_num, by simpa [tab] using hR⟩
  case round =>
    obtain ⟨j, a1, c1, hj, rfl, hR1⟩ := hrel
    by_cases hlt : j < k
    · obtain ⟨p, hp⟩ : ∃ p : Nat, (8 : Int) * (k : Int) - 8 - 8 * (j : Int) = p := ⟨8 * (k - 1 - j), by omega⟩
      rw [hp]
      have HP : Hid ((8 : Int) * (k : Int) - 8 - 8 * (j : Int) = p) := hp
      have hp40 : p ≤ 32 := by omega
      have hv := be_val k x p j hx (by omega)
      have hvl := beB_lt k x j
      have hsj : Hid (tab (j + 1) (beB k x) = tab j (beB k x) ++ [beB k x j]) := tab_succ _ _
      generalize beB k x j = v at hv hvl hsj
      clear hp hk0
      have hc1 := hR1.box.cell 0 Nat.zero_lt_one
      have hf1 := hR1.box.free 0
      have hgl := hR1.box.lt
      have hA1 := hR1.ans
      have hAd : Ans wr.drew wb.heap.size a1 (m + j) c1 (D ++ tab j (beB k x)) := hA1.keep (grown_drew _ _)
      have hGd := grown_drew wr (Value.slice a1 (m + j) c1).ownBlock
      have hM : Mine wr (Value.slice a1 (m + j) c1).ownBlock a1 (m + j) c1 := fun q h => .inl h
      have hsz : wb.heap.size ≤ wr.heap.size := hR1.grown.size
      go_wp2
      go_region_law (first
        | (refine step_push2 wr wr.drew rfl (.tmp 13) (.tmp 18) rfl a1 (m + j) c1 v wb.heap.size (Value.slice a1 (m + j) c1).ownBlock _ rfl hAd hGd hM hsz hvl rfl (by omega) ?_; intro gx cx w2 hA2 hG2 hM2 _; have hb2 := hR1.box.keep hG2 (Ne.symm hR1.far); have hc2 := hb2.cell 0 Nat.zero_lt_one; have hf2 := hb2.free 0))
      all_goals
        have hP := hR1.push hA2 hG2 hM2
        rw [List.append_assoc, ← hsj.out] at hP
        go_wp2
        go_roundw
        case rel => exact ⟨j + 1, _, cx, by omega, by have := HP.out; go_num, hP⟩
        case measure => simp [intOf]; omega
    · obtain rfl : j = k := by omega
      go_wp2
      go_end0
      exact ⟨rfl, a1, c1, hR1⟩

theorem i64_or_n (a b : Nat) (ha : a < 2 ^ 63) (hb : b < 2 ^ 63) : bits .or .i64 (a : Int) (b : Int) = ((a ||| b : Nat) : Int) := by
  have hx : a ||| b < 2 ^ 63 := Nat.or_lt_two_pow (by omega) (by omega)
  show IntKind.i64.wrap ((BitVec.ofInt 64 (a : Int) ||| BitVec.ofInt 64 (b : Int)).toNat : Int) = _
  rw [BitVec.toNat_or, ofInt_i64 a ha, ofInt_i64 b hb, wrap_i64_in _ (by omega) (by omega)]
/-- bits behind bits -/
theorem or_put (h x k : Nat) (hx : x < 2 ^ k) (h1 : h * 2 ^ k < 2 ^ 62) (h2 : x < 2 ^ 62) : bits .or .i64 ((h * 2 ^ k : Nat) : Int) (x : Int) = ((h * 2 ^ k + x : Nat) : Int) := by
  rw [i64_or_n _ _ (by omega) (by omega)]
  have h3 := Nat.shiftLeft_add_eq_or_of_lt hx h
  rw [Nat.shiftLeft_eq] at h3
  rw [← h3]
theorem head_list (u s ap pt ct n : Nat) (hu : u < 2) (hs : s < 2) (hap : ap < 2048) (hpt : pt < 4) (hct : ct < 16384) (hn : n ≤ 65536) (h1 : 1 ≤ n) :
    hdL u s ap pt ct n = [(u * 4096 + s * 2048 + ap) / 256, (u * 4096 + s * 2048 + ap) % 256, (pt * 16384 + ct) / 256, (pt * 16384 + ct) % 256, (n - 1) / 256, (n - 1) % 256] := by
  have e : hdL u s ap pt ct n = [hdB (hdN u s ap pt ct n) 0, hdB (hdN u s ap pt ct n) 1, hdB (hdN u s ap pt ct n) 2, hdB (hdN u s ap pt ct n) 3, hdB (hdN u s ap pt ct n) 4, hdB (hdN u s ap pt ct n) 5] := rfl
  rw [e]
  unfold hdB hdN hd1
  obtain ⟨m, rfl⟩ : ∃ m, n = m + 1 := ⟨n - 1, by omega⟩
  simp only [Nat.reduceMul, Nat.reduceSub, Nat.reducePow, Nat.add_sub_cancel, Nat.div_one]
  refine List.cons_eq_cons.2 ⟨by omega, List.cons_eq_cons.2 ⟨by omega, List.cons_eq_cons.2 ⟨by omega, List.cons_eq_cons.2 ⟨by omega, List.cons_eq_cons.2 ⟨by omega, List.cons_eq_cons.2 ⟨by omega, rfl⟩⟩⟩⟩⟩⟩
theorem six_new (w : World) (z0 z1 z2 z3 z4 z5 : Int) (x0 x1 x2 x3 x4 x5 : Nat) (e0 : z0 = x0) (e1 : z1 = x1) (e2 : z2 = x2) (e3 : z3 = x3) (e4 : z4 = x4) (e5 : z5 = x5) (h0 : x0 < 256) (h1 : x1 < 256) (h2 : x2 < 256) (h3 : x3 < 256) (h4 : x4 < 256) (h5 : x5 < 256) :
    Ans (w.alloc (.cells #[.int .u8 z0, .int .u8 z1, .int .u8 z2, .int .u8 z3, .int .u8 z4, .int .u8 z5] 5)) w.heap.size (some ⟨w.heap.size, 0, none⟩) 6 6 [x0, x1, x2, x3, x4, x5] := by
  subst e0 e1 e2 e3 e4 e5
  refine ⟨⟨rfl, .inr ⟨w.heap.size, 6, #[.int .u8 x0, .int .u8 x1, .int .u8 x2, .int .u8 x3, .int .u8 x4, .int .u8 x5], rfl, Nat.zero_le _, heap_alloc_new w _, Nat.le_refl _, by decide, rfl, rfl⟩⟩, ?_, fun g hg => ?_⟩
  · intro x hx
    simp at hx
    omega
  · have e : w.heap.size = g := Option.some.inj hg
    omega
set_option maxHeartbeats 4000000 in
theorem pbytes_any (up se : Bool) (ap pt ct : Int) (a : Option Addr) (n cap : Nat) (D : List Nat) (w : World) (hR : Rd w a n cap D) :
    Calls Try.prog 76 #[pkV up se ap pt ct a n cap] w fun e w' => ∃ a' n' c', e = .returned (.tuple #[.slice a' n' c', .int .i64 (mayE ap pt ct n : Nat)]) ∧ Ans w' w.heap.size a' n' c' (encP up se ap pt ct D) ∧ w.grownBy w' none := by
  have HL : Hid (D.length = n) := hR.len
  have b0 := BxP.new w up se ap pt ct a n cap
  have g0 := World.grownBy_alloc w (.cells #[.bool up, .bool se, .int .i64 ap, .int .i64 pt, .int .i64 ct, .slice a n cap] 64) none
  by_cases hE : mayE ap pt ct n = 0
  · obtain ⟨⟨⟨a1, a2⟩, ⟨p1, p2⟩, c1, c2⟩, n1, n2⟩ := mayE_ok hE
    obtain ⟨ap', rfl⟩ := Int.eq_ofNat_of_zero_le a1
    obtain ⟨pt', rfl⟩ := Int.eq_ofNat_of_zero_le p1
    obtain ⟨ct', rfl⟩ := Int.eq_ofNat_of_zero_le c1
    have hu := toNat_le up
    have hs := toNat_le se
    have HEn : Hid (encP up se (ap' : Int) (pt' : Int) (ct' : Int) D = hdL up.toNat se.toNat ap' pt' ct' n ++ D) := by
      show _ = _
      unfold encP
      rw [HL.out, if_pos hE]; rfl
    have hwr := fun wz => may_any up se (ap' : Int) (pt' : Int) (ct' : Int) a n cap wz
    rw [hE] at hwr ⊢
    unfold pkV at hwr ⊢
    generalize hw0 : w.alloc (.cells #[.bool up, .bool se, .int .i64 (ap' : Int), .int .i64 (pt' : Int), .int .i64 (ct' : Int), .slice a n cap] 64) = w0 at b0 g0
    have t1 : True := trivial
    obtain ⟨c0, c1', c2', c3, c4, c5⟩ := b0.cell
    obtain ⟨A, hA⟩ : ∃ A, A = up.toNat * 4096 + se.toNat * 2048 + ap' := ⟨_, rfl⟩
    have hAv : bits .or .i64 (bits .or .i64 ((up.toNat : Int) * 4096) ((se.toNat : Int) * 2048)) (ap' : Int) = (A : Int) := by
      have e1 : ((up.toNat : Int) * 4096) = ((up.toNat * 2 ^ 12 : Nat) : Int) := by omega
      have e2 : ((se.toNat : Int) * 2048) = ((se.toNat * 2048 : Nat) : Int) := by omega
      have e3 : up.toNat * 2 ^ 12 + se.toNat * 2048 = (up.toNat * 2 + se.toNat) * 2 ^ 11 := by omega
      rw [e1, e2, or_put _ _ 12 (by omega) (by omega) (by omega), e3, or_put _ _ 11 (by omega) (by omega) (by omega)]
      omega
    obtain ⟨C, hC⟩ : ∃ C, C = pt' * 16384 + ct' := ⟨_, rfl⟩
    have hCv : bits .or .i64 ((pt' : Int) * 16384) (ct' : Int) = (C : Int) := by
      have e1 : ((pt' : Int) * 16384) = ((pt' * 2 ^ 14 : Nat) : Int) := by omega
      rw [e1, or_put _ _ 14 (by omega) (by omega) (by omega)]
      omega
    have hA8 : A < 8192 := by omega
    have hC8 : C < 65536 := by omega
    have HA : Hid (A = up.toNat * 4096 + se.toNat * 2048 + ap') := hA
    have HC : Hid (C = pt' * 16384 + ct') := hC
    clear hA hC
    go_enter Try.func76, Try.ntmps76
    go_wp2_with (first
      | (go_at_call 87; have _t := t1; clear t1; refine (hwr _).mono ?_; rintro e w1 ⟨rfl, g1⟩; have b1 := b0.keep g1 (by simp); clear c0 c1' c2' c3 c4 c5; obtain ⟨c0, c1', c2', c3, c4, c5⟩ := b1.cell; have hR1 := hR.keep (grown_trans g0 g1); have hsz1 : w.heap.size ≤ w1.heap.size := (grown_trans g0 g1).size))
    go_quiet ((go_at_call 88; exact Calls.quiet_of_same (bit_any _ _)))
    have g2 := grown_drewN w1 nq none
    have b2 := b1.keep g2 (by simp)
    have hR2 := hR1.keep g2
    generalize w1.drewN nq = w2 at g2 b2 hR2 ⊢
    clear c0 c1' c2' c3 c4 c5
    obtain ⟨c0, c1', c2', c3, c4, c5⟩ := b2.cell
    have c5a : ∀ o, (w2.alloc o).cell? ⟨w.heap.size, 5, none⟩ = some (.slice a n cap) := fun o => (b2.keep (World.grownBy_alloc w2 o none) (by simp)).cell.2.2.2.2.2
    have hA6 := six_new w2 ((A : Int) / 256) ((A : Int) % 256) ((C : Int) / 256) ((C : Int) % 256) (((n : Int) - 1) / 256) (((n : Int) - 1) % 256) (A / 256) (A % 256) (C / 256) (C % 256) ((n - 1) / 256) ((n - 1) % 256) (by omega) (by omega) (by omega) (by omega) (by omega) (by omega) (by omega) (by omega) (by omega) (by omega) (by omega) (by omega)
    have gA6 := World.grownBy_alloc w2 (.cells #[.int .u8 ((A : Int) / 256), .int .u8 ((A : Int) % 256), .int .u8 ((C : Int) / 256), .int .u8 ((C : Int) % 256), .int .u8 (((n : Int) - 1) / 256), .int .u8 (((n : Int) - 1) % 256)] 5) none
    have hM6 : Mine w2 none (some ⟨w2.heap.size, 0, none⟩) 6 6 := fun g hg => .inr (by have e : w2.heap.size = g := Option.some.inj hg; omega)
    have hR6 := hR2.keep gA6
    have H6 : Hid (_ = _) := head_list up.toNat se.toNat ap' pt' ct' n hu hs (by omega) (by omega) (by omega) n2 n1
    go_wp2_with (at_builtin; refine wpList_join w2 _ rfl (.tmp 52) (.tmp 54) rfl (some ⟨w2.heap.size, 0, none⟩) 6 6 w2.heap.size none _ rfl hA6 gA6 hM6 (Nat.le_refl _) a n cap D rfl hR6 (by omega) (by omega) ?_; intro gx cx w3 hA3 hG3 hM3)
    go_ret2
    refine ⟨_, _, _, rfl, ?_, grown_trans (grown_trans (grown_trans g0 g1) g2) hG3⟩
    rw [HEn.out, H6.out, ← HA.out, ← HC.out]
    exact hA3.wide (Nat.le_trans hsz1 g2.size)
  · have HEn : Hid (encP up se ap pt ct D = []) := by
      show _ = _
      unfold encP
      rw [HL.out, if_neg hE]
    have hwr := fun wz => may_any up se ap pt ct a n cap wz
    generalize mayE ap pt ct n = E at hE hwr ⊢
    unfold pkV at hwr ⊢
    generalize hw0 : w.alloc (.cells #[.bool up, .bool se, .int .i64 ap, .int .i64 pt, .int .i64 ct, .slice a n cap] 64) = w0 at b0 g0
    have t1 : True := trivial
    obtain ⟨c0, c1', c2', c3, c4, c5⟩ := b0.cell
    have hne : (((E : Int) == 0) : Bool) = false := by simp; omega
    go_enter Try.func76, Try.ntmps76
    go_wp2_with (first
      | (go_at_call 87; have _t := t1; clear t1; refine (hwr _).mono ?_; rintro e w1 ⟨rfl, g1⟩))
    go_ret2
    exact ⟨_, _, _, rfl, by rw [HEn.out]; exact ans_nil _ _, grown_trans g0 g1⟩

/-- a head, as a value -/
def heA (cr ch ma ow fi : Int) : Array Value := #[.int .i64 cr, .int .i64 ch, .int .i64 ma, .int .i64 ow, .int .i64 fi]
def wiB (n m : Int) : Bool := decide (0 ≤ n ∧ n ≤ m)
theorem wiB_t {n m : Int} (h : 0 ≤ n ∧ n ≤ m) : wiB n m = true := decide_eq_true h
theorem wiB_f {n m : Int} (h : ¬ (0 ≤ n ∧ n ≤ m)) : wiB n m = false := decide_eq_false h
theorem fwithin_any (n m : Int) (w : World) : Calls Try.prog 43 #[.int .i64 n, .int .i64 m] w fun e w' => e = .returned (.bool (wiB n m)) ∧ w' = w := by
  by_cases h : 0 ≤ n ∧ n ≤ m
  · rw [wiB_t h]
    have h1 := h.1
    have h2 := h.2
    go_enter Try.func43, Try.ntmps43
    go_wp2
    go_ret
    exact ⟨rfl, rfl⟩
  · rw [wiB_f h]
    by_cases h1 : 0 ≤ n
    · have h2 : ¬ n ≤ m := fun h2 => h ⟨h1, h2⟩
      go_enter Try.func43, Try.ntmps43
      go_wp2
      go_ret
      exact ⟨rfl, rfl⟩
    · go_enter Try.func43, Try.ntmps43
      go_wp2
      go_ret
      exact ⟨rfl, rfl⟩
def siB (n : Int) : Bool := decide (13 ≤ n ∧ n ≤ 2048)
theorem fsize_any (n : Int) (w : World) : Calls Try.prog 44 #[.int .i64 n] w fun e w' => e = .returned (.bool (siB n)) ∧ w' = w := by
  by_cases h : 13 ≤ n ∧ n ≤ 2048
  · rw [show siB n = true from decide_eq_true h]
    have h1 := h.1
    have h2 := h.2
    go_enter Try.func44, Try.ntmps44
    go_wp2
    go_ret
    exact ⟨rfl, rfl⟩
  · rw [show siB n = false from decide_eq_false h]
    by_cases h1 : 13 ≤ n
    · have h2 : ¬ n ≤ 2048 := fun h2 => h ⟨h1, h2⟩
      go_enter Try.func44, Try.ntmps44
      go_wp2
      go_ret
      exact ⟨rfl, rfl⟩
    · go_enter Try.func44, Try.ntmps44
      go_wp2
      go_ret
      exact ⟨rfl, rfl⟩
def heB (cr ch ma ow fi : Int) : Bool := wiB cr 1023 && wiB ch 7 && wiB ma 255 && wiB ow 255 && wiB fi 2047
theorem BxS.cell5 {w : World} {g : Nat} {t : TypeId} {a b c d e : Value} (h : BxS w g t #[a, b, c, d, e]) : w.cell? ⟨g, 0, none⟩ = some a ∧ w.cell? ⟨g, 1, none⟩ = some b ∧ w.cell? ⟨g, 2, none⟩ = some c ∧ w.cell? ⟨g, 3, none⟩ = some d ∧ w.cell? ⟨g, 4, none⟩ = some e := by
  simp [World.cell?, show w.heap[g]? = _ from h]
set_option maxHeartbeats 4000000 in
theorem headMay_any (cr ch ma ow fi : Int) (w : World) : Calls Try.prog 42 #[.agg (heA cr ch ma ow fi)] w fun e w' => e = .returned (.bool (heB cr ch ma ow fi)) ∧ w.grownBy w' none := by
  unfold heA heB
  have gA := World.grownBy_alloc w (.cells #[.int .i64 cr, .int .i64 ch, .int .i64 ma, .int .i64 ow, .int .i64 fi] 28) none
  have h0 := fun wz => fwithin_any cr 1023 wz
  have h1 := fun wz => fwithin_any ch 7 wz
  have h2 := fun wz => fwithin_any ma 255 wz
  have h3 := fun wz => fwithin_any ow 255 wz
  have h4 := fun wz => fwithin_any fi 2047 wz
  generalize wiB cr 1023 = b0 at h0 ⊢
  generalize wiB ch 7 = b1 at h1 ⊢
  generalize wiB ma 255 = b2 at h2 ⊢
  generalize wiB ow 255 = b3 at h3 ⊢
  generalize wiB fi 2047 = b4 at h4 ⊢
  have t1 : True := trivial
  cases b0 <;> cases b1 <;> cases b2 <;> cases b3 <;> cases b4
  all_goals
    go_enter Try.func42, Try.ntmps42
    go_wp2_with (first
      | (go_at_call 43; have _t := t1; clear t1; refine (h0 _).mono ?_; rintro e wx ⟨rfl, hw⟩; have hw := hw.symm; subst hw; have t2 : True := trivial)
      | (go_at_call 43; have _t := t2; clear t2; refine (h1 _).mono ?_; rintro e wx ⟨rfl, hw⟩; have hw := hw.symm; subst hw; have t3 : True := trivial)
      | (go_at_call 43; have _t := t3; clear t3; refine (h2 _).mono ?_; rintro e wx ⟨rfl, hw⟩; have hw := hw.symm; subst hw; have t4 : True := trivial)
      | (go_at_call 43; have _t := t4; clear t4; refine (h3 _).mono ?_; rintro e wx ⟨rfl, hw⟩; have hw := hw.symm; subst hw; have t5 : True := trivial)
      | (go_at_call 43; have _t := t5; clear t5; refine (h4 _).mono ?_; rintro e wx ⟨rfl, hw⟩; have hw := hw.symm; subst hw))
    go_ret
    exact ⟨rfl, gA⟩
end Go.Proofs.Ytlmddjkplnbadaa
