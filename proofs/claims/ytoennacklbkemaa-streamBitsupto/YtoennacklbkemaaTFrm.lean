import Derived.Test.YtoennacklbkemaaTRow
namespace Go.Proofs.Ytoennacklbkemaa
open Go.RowKit
set_option maxRecDepth 100000
set_option linter.unusedVariables false
set_option linter.unusedSimpArgs false

theorem bitL_len (L : List Nat) : (bitL L).length = 8 * L.length := tab_len _ _
theorem sbits_any (a : Option Addr) (n cap : Nat) (L : List Nat) (w : World) (hp : Rd w a n cap L) (hn : n ≤ 17592186044416) :
    Calls Try.prog 16 #[.slice a n cap] w fun e w' => ∃ a' c', e = .returned (.slice a' (8 * n : Nat) c') ∧ Ans w' w.heap.size a' (8 * n) c' (bitL L) ∧ w.grownBy w' none := by
  obtain ⟨i0, hi, hz0, hz1, hz2⟩ := info_parts Try.info_u8
  go_enter Try.func16, Try.ntmps16
  go_wp2_with (first
    | (at_make; refine wpList_make_own _ rfl _ _ 22 rfl w.heap.size 5 i0 (.int .u8 0) 1 Try.underlying22 hi hz0 hz1 .i64 .i64 ((n : Int) * 8) (n * 8) rfl rfl (by omega) (by rw [hz2]; omega) (by unfold maxLen; omega) (Nat.le_refl _) ?_; intro w2 hown2 g2; have hA2 := own_nil w2 w.heap.size _ _ hown2 (Nat.le_refl _); have hp2 := hp.keep g2)
    | (go_at_call 31; refine (appendBits_any _ a 0 _ n cap w.heap.size [] L w2 hA2 g2.size hp2 (fun h0 b off e => by simp only [Value.ownBlock]; exact hp.ne (Nat.le_refl _) h0 b off e) (by omega)).mono ?_; rintro e w3 ⟨a', c', rfl, hA3, g3, hM3⟩))
  go_ret
  rw [Nat.zero_add, List.nil_append] at hA3
  exact ⟨a', c', rfl, hA3, new_then g2 g3⟩

def mkN (j : Nat) : Nat := 449838109 / 2 ^ (31 - j) % 2
theorem mkN_lt (j : Nat) : mkN j < 2 := Nat.mod_lt _ (by decide)
theorem mark_bits : bitL [26, 207, 252, 29] = tab 32 mkN := by decide +kernel
theorem mark_fact : ∀ p : Nat, p < 32 → bits .and .i64 (449838109 / (2 : Int) ^ p) 1 % 256 = ((449838109 / 2 ^ p % 2 : Nat) : Int) := by decide +kernel
def frmL (L : List Nat) : List Nat := tab 32 mkN ++ bitL (scrL L)
def frmE (L : List Nat) : Int := if L.length = 0 ∨ 2048 < L.length then 1 else 0
def frmR (L : List Nat) : List Nat := if L.length = 0 ∨ 2048 < L.length then [] else frmL L
set_option maxHeartbeats 1000000 in
theorem frame_any (a : Option Addr) (n cap : Nat) (L : List Nat) (w : World) (hp : Rd w a n cap L) :
    Calls Try.prog 19 #[.slice a n cap] w fun e w' => ∃ a' n' c', e = .returned (.tuple #[.slice a' n' c', .int .i64 (frmE L)]) ∧ Ans w' w.heap.size a' n' c' (frmR L) ∧ w.grownBy w' none := by
  have HL : Hid (L.length = n) := hp.len
  have hle := hp.le
  have hmx := hp.max
  unfold maxLen at hmx
  obtain ⟨i0, hi, hz0, hz1, hz2⟩ := info_parts Try.info_u8
  by_cases h0 : n = 0
  · have HE : Hid (frmE L = 1) := by show _ = _; unfold frmE; rw [HL.out, if_pos (.inl h0)]
    have HR : Hid (frmR L = []) := by show _ = _; unfold frmR; rw [HL.out, if_pos (.inl h0)]
    subst h0
    go_enter Try.func19, Try.ntmps19
    go_wp2
    go_ret2
    exact ⟨none, 0, 0, by rw [HE.out]; rfl, by rw [HR.out]; exact ans_nil _ _, World.grownBy.refl _ _⟩
  · by_cases hbig : 2048 < n
    · have HE : Hid (frmE L = 1) := by show _ = _; unfold frmE; rw [HL.out, if_pos (.inr hbig)]
      have HR : Hid (frmR L = []) := by show _ = _; unfold frmR; rw [HL.out, if_pos (.inr hbig)]
      have h0' : ((n : Int) == 0) = false := by simp; omega
      go_enter Try.func19, Try.ntmps19
      go_wp2
      go_ret2
      exact ⟨none, 0, 0, by rw [HE.out]; rfl, by rw [HR.out]; exact ans_nil _ _, World.grownBy.refl _ _⟩
    · have HE : Hid (frmE L = 0) := by show _ = _; unfold frmE; rw [HL.out, if_neg (by omega)]
      have HR : Hid (frmR L = tab 32 mkN ++ bitL (scrL L)) := by show _ = _; unfold frmR frmL; rw [HL.out, if_neg (by omega)]
      have h0' : ((n : Int) == 0) = false := by simp; omega
      go_enter Try.func19, Try.ntmps19
      go_wp2_with (at_make; refine wpList_make_own _ rfl _ _ 22 rfl w.heap.size 5 i0 (.int .u8 0) 1 Try.underlying22 hi hz0 hz1 .i64 .i64 (32 + (n : Int) * 8) (32 + n * 8) rfl rfl (by omega) (by rw [hz2]; omega) (by unfold maxLen; omega) (Nat.le_refl _) ?_; intro w2 hown2 g2; have hA2 := own_nil w2 w.heap.size _ _ hown2 (Nat.le_refl _); have hp2 := hp.keep g2)
      clear hown2
      go_loopw [4, 5] (fun o i wr => ∃ (j : Nat) (a' : Option Addr) (c' : Nat), j ≤ 32 ∧ i = .int .i64 (31 - (j : Int)) ∧ o = .slice a' j c' ∧ w.grownBy wr none ∧ Ans wr w.heap.size a' j c' (tab j mkN)) (fun _ i _ => (intOf i + 1).toNat)
      case atStart => exact ⟨0, _, _, by omega, rfl, rfl, g2, hA2⟩
      case round =>
        obtain ⟨j, a1, c1, hj, rfl, rfl, hgr1, hA1⟩ := hrel
        by_cases hjl : j < 32
        · obtain ⟨p, hpj⟩ : ∃ p : Nat, p = 31 - j := ⟨_, rfl⟩
          have HZ : Hid ((31 : Int) - (j : Int) = (p : Int)) := by show _ = _; omega
          have HB : Hid (mkN j = 449838109 / 2 ^ p % 2) := by show _ = _; unfold mkN; rw [hpj]
          have hb := mark_fact p (by omega)
          have hvl : 449838109 / 2 ^ p % 2 < 256 := by have : 449838109 / 2 ^ p % 2 < 2 := Nat.mod_lt _ (by decide); omega
          have hp8 : p < 32 := by omega
          rw [HZ.out]
          have HP : Hid (p = 31 - j) := hpj
          clear hpj
          generalize 449838109 / 2 ^ p % 2 = v at *
          go_wp2_with (at_builtin; refine wpList_push2 w wr rfl (.tmp 23) (.tmp 28) rfl a1 j c1 v w.heap.size none _ rfl hA1 hgr1 (fun g hg => .inr (hA1.new g hg)) (Nat.le_refl _) hvl rfl (by omega) ?_; intro gx cx w2 hA2 hG2 hM2)
          go_roundw
          case rel =>
            have hz := HZ.out
            rw [← HB.out, ← tab_succ] at hA2
            exact ⟨j + 1, _, cx, by omega, by go_num, rfl, hG2, hA2⟩
          case measure => simp [intOf] <;> omega
        · obtain rfl : j = 32 := by omega
          have hp1 := hp.keep hgr1
          go_wp2_with (first
            | (go_at_call 14; refine (scramble_any a n cap L wr hp1 (by omega)).mono ?_; rintro e w3 ⟨a3, rfl, hA3, g3⟩; have hA13 := hA1.keep g3)
            | (go_at_call 31; refine (appendBits_any a1 a3 32 c1 n n w.heap.size _ _ w3 hA13 (grown_trans hgr1 g3).size hA3.rd (fun _ b off e => hA1.later hA3 (Nat.le_refl _) b off e) (by omega)).mono ?_; rintro e w4 ⟨a4, c4, rfl, hA4, g4, hM4⟩))
          go_ret2
          exact ⟨a4, _, c4, by rw [HE.out]; rfl, by rw [HR.out]; exact hA4, grown_far (grown_trans hgr1 g3) g4 (hA1.far _ (Nat.le_refl _))⟩
end Go.Proofs.Ytoennacklbkemaa
