import Derived.Test.YtbgbohddkfaacaaSWvM
namespace Go.Proofs.Ytbgbohddkfaacaa
open Go.RowKit
set_option maxRecDepth 100000
set_option linter.unusedVariables false
set_option linter.unusedSimpArgs false

theorem pick_any (a : Option Addr) (n cap at_ d k : Nat) (L : List Nat) (w : World) (hp : Rd w a n cap L) (hd : d ≤ 8) (hat : at_ < d) (hk : n = k * d) (hkn : k ≤ 255) :
    Calls Try.prog 35 #[.slice a n cap, .int .i64 at_, .int .i64 d] w fun e w' => ∃ a' c', e = .returned (.slice a' k c') ∧ Ans w' w.heap.size a' k c' (pickL L at_ d) ∧ w.grownBy w' none := by
  obtain ⟨i0, hi, hz0, hz1, hz2⟩ := info_parts Try.info_u8
  have hd0 : 0 < d := by omega
  have hnn : n ≤ 2040 := by rw [hk]; exact Nat.le_trans (Nat.mul_le_mul hkn hd) (by decide)
  have HP : Hid ((pickL L at_ d).length = k) := by show _ = _; rw [pickL_len, hp.len, hk, Nat.mul_div_cancel _ hd0]
  have hBp := isB_pickL hp.byte at_ d
  have hquo : (n : Int).tdiv (d : Int) = (k : Int) := by rw [hk, Int.natCast_mul, Int.mul_tdiv_cancel _ (by omega)]
  have hquo2 : (n : Int) / (d : Int) = (k : Int) := by rw [hk, Int.natCast_mul, Int.mul_ediv_cancel _ (by omega)]
  have hdz : ((d : Int) == 0) = false := by simp; omega
  have HK : Hid (n = k * d) := hk
  clear hk
  go_enter Try.func35, Try.ntmps35
  go_wp2_with (at_make; refine wpList_make_own _ rfl _ _ 22 rfl 0 5 i0 (.int .u8 0) 1 Try.underlying22 hi hz0 hz1 .i64 .i64 _ k rfl rfl rfl (by rw [hz2]; omega) (by unfold maxLen; omega) (Nat.zero_le _) ?_; intro w1 hown1 hg1)
  go_loopw [7, 8] (fun r i wr => ∃ (q co x : Nat) (ao : Option Addr), q ≤ k ∧ x = q * d ∧ i = .int .i64 ((at_ : Int) + (x : Int)) ∧ r = .slice ao q co ∧ w.grownBy wr none ∧ Ans wr w.heap.size ao q co ((pickL L at_ d).take q)) (fun _ i _ => n - (intOf i).toNat)
  case atStart => exact ⟨0, k, 0, _, by omega, by simp, by simp, rfl, hg1, ⟨hown1, isB_take hBp _, fun g h => by have e : w.heap.size = g := Option.some.inj h; omega⟩⟩
  case round =>
    obtain ⟨q, co, x, ao, hq, hx, rfl, rfl, hgr, hA⟩ := hrel
    have HX : Hid (x = q * d) := hx
    by_cases hlt : q < k
    · have hxn : at_ + x < n := by
        have h1 : (q + 1) * d ≤ k * d := Nat.mul_le_mul_right _ (by omega)
        rw [Nat.add_mul] at h1
        have := HK.out
        omega
      clear hx
      obtain ⟨b1, off1, rfl, hbw1, hcc⟩ := (hp.keep hgr).at' (by omega)
      have hck := hcc (at_ + x) hxn
      have hto : ((at_ : Int) + (x : Int)).toNat = at_ + x := by omega
      have hixn : (at_ : Int) + (x : Int) < (n : Int) := by omega
      have hOo := hA.own.alloc (.cells #[.int .u8 (nth L (at_ + x) : Nat)] 5)
      have gA := grown_trans hgr (World.grownBy_alloc wr (.cells #[.int .u8 (nth L (at_ + x) : Nat)] 5) none)
      have HT : Hid ((pickL L at_ d).take q ++ [nth L (at_ + x)] = (pickL L at_ d).take (q + 1)) := by
        show _ = _
        rw [take_snoc _ _ (by rw [HP.out]; exact hlt), nth_pickL _ _ _ _ (by rw [← pickL_len L at_ d, HP.out]; exact hlt), HX.out, Nat.add_comm]
      clear hcc
      go_wp2_with (at_builtin; refine wpList_apB _ rfl (.tmp 22) (.tmp 27) rfl (.slice ao q co) q (bys ((pickL L at_ d).take q)) rfl hOo ⟨wr.heap.size, 0, none⟩ 1 1 [.int .u8 (nth L (at_ + x) : Nat)] rfl rfl (cell_one wr _) (by simp [Value.oneCell']) (by decide) (by omega) ?_; intro gx cx' w2 hgx hgr2 hown2)
      rw [bys_add, HT.out] at hown2
      have hG2 := grown_far gA hgr2 (hA.far _ (Nat.le_refl _))
      have hgxl : w.heap.size ≤ gx := by
        rcases hgx with h | h
        · exact hA.new gx h
        · exact Nat.le_trans gA.size h
      go_wp2
      go_roundw
      case rel =>
        refine ⟨q + 1, cx', x + d, some ⟨gx, 0, none⟩, by omega, ?_, ?_, rfl, hG2, ⟨hown2, isB_take hBp _, fun g h => by have e : gx = g := Option.some.inj h; omega⟩⟩
        · rw [HX.out, Nat.add_mul]; omega
        · exact val_int (by omega)
      case measure => simp [intOf]; omega
    · obtain rfl : q = k := by omega
      have hge : ¬ (at_ : Int) + (x : Int) < (n : Int) := by have := HK.out; omega
      rw [List.take_of_length_le (by rw [HP.out]; exact Nat.le_refl _)] at hA
      clear hx
      go_wp2
      go_ret
      exact ⟨_, _, rfl, hA, hgr⟩
end Go.Proofs.Ytbgbohddkfaacaa
