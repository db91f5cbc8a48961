import Derived.Test.YtbgbohddkfaacaaSREnc2
namespace Go.Proofs.Ytbgbohddkfaacaa
open Go.RowKit
set_option maxRecDepth 100000
set_option linter.unusedVariables false
set_option linter.unusedSimpArgs false

/-! what Encode answers, whatever came in -/
abbrev encOk (n : Nat) (c : Int) : Prop := 1 ≤ c ∧ c ≤ 64 ∧ 1 ≤ n ∧ (n : Int) + c ≤ 255
def encE (n : Nat) (c : Int) : Int := if encOk n c then 0 else 1
def encR (L : List Nat) (c : Int) : List Nat := if encOk L.length c then encL L c.toNat else []
theorem encR_le (L : List Nat) (c : Int) : (encR L c).length ≤ 255 := by
  unfold encR; split
  · next h => rw [encL_len]; obtain ⟨h1, h2, h3, h4⟩ := h; omega
  · simp
theorem encode_all (a : Option Addr) (n cap : Nat) (c : Int) (L : List Nat) (w : World) (hp : Rd w a n cap L) :
    Calls Try.prog 11 #[.slice a n cap, .int .i64 c] w fun e w' => ∃ a' n' c', e = .returned (.tuple #[.slice a' n' c', .int .i64 (encE n c)]) ∧ Ans w' w.heap.size a' n' c' (encR L c) ∧ w.grownBy w' none := by
  have h1 := hp.le; have h2 := hp.max
  unfold maxLen at h2
  unfold encE encR
  rw [hp.len]
  by_cases h : encOk n c
  · rw [if_pos h, if_pos h]
    obtain ⟨k1, k2, k3, k4⟩ := h
    obtain ⟨k, rfl⟩ := Int.eq_ofNat_of_zero_le (a := c) (by omega)
    rw [Int.toNat_natCast]
    exact encode_ok a n cap k L w hp (by omega) (by omega) (by omega) (by omega)
  · rw [if_neg h, if_neg h]
    refine (encode_bad a n cap c w (by omega) h).mono ?_
    rintro e w' ⟨rfl, rfl⟩
    exact ⟨none, 0, 0, rfl, ans_nil _ _, World.grownBy.refl _ _⟩
theorem rencode_all (a : Option Addr) (n cap : Nat) (c : Int) (L : List Nat) (w : World) (hp : Rd w a n cap L) (hn : n ≤ 140737488351240) (hc1 : -9223372036854775808 ≤ c) (hc2 : c ≤ 9223372036854775807) :
    Calls Try.prog 10 #[.slice a n cap, .int .i64 c] w fun e w' => ∃ a' n' c', e = .returned (.tuple #[.slice a' n' c', .int .i64 (encE n c)]) ∧ Ans w' w.heap.size a' n' c' (encR L c) ∧ w.grownBy w' none := by
  unfold encE encR
  rw [hp.len]
  by_cases h : encOk n c
  · rw [if_pos h, if_pos h]
    obtain ⟨k1, k2, k3, k4⟩ := h
    obtain ⟨k, rfl⟩ := Int.eq_ofNat_of_zero_le (a := c) (by omega)
    rw [Int.toNat_natCast]
    exact rencode_ok a n cap k L w hp (by omega) (by omega) (by omega) (by omega)
  · rw [if_neg h, if_neg h]
    refine (rencode_bad a n cap c w hn hc1 hc2 h).mono ?_
    rintro e w' ⟨rfl, rfl⟩
    exact ⟨none, 0, 0, rfl, ans_nil _ _, World.grownBy.refl _ _⟩

set_option maxHeartbeats 1000000 in
theorem encodes_walk (a : Option Addr) (n cap : Nat) (c : Int) (P : List Nat) (w : World) (hp : Rd w a n cap P) (hn : n ≤ 140737488351232) (hc1 : -9223372036854775808 ≤ c) (hc2 : c ≤ 9223372036854775807) :
    Calls Try.prog 3 #[.slice a n cap, .int .i64 c] w fun e w' => e = .returned (.bool true) ∧ Below w.heap.size w w' := by
  have t1 : True := trivial
  have sle := encR_le P c
  go_enter Try.func3, Try.ntmps3
  go_wp2_with (first
    | (go_at_call 9; have _t := t1; clear t1; refine (roomy_any a n cap P w hp hn).mono ?_; rintro e w1 ⟨rfl, ⟨Dh, hh1⟩, g01⟩; have hp1 := hp.keep g01; have t2 : True := trivial)
    | (go_at_call 10; have _t := t2; clear t2; refine (rencode_all a n cap c P w1 hp1 (by omega) hc1 hc2).mono ?_; rintro e w2 ⟨aw, nw, cw, rfl, hw2, g12⟩; have hH2 := (hh1.keep g12).rd hp.byte hp.len hn; have t3 : True := trivial)
    | (go_at_call 11; have _t := t3; clear t3; refine (encode_all _ n _ c P w2 hH2).mono ?_; rintro e w3 ⟨aa, na, ca, rfl, ha3, g23⟩; have hH3 := hH2.keep g23; have t4 : True := trivial)
    | (go_at_call 11; have _t := t4; clear t4; refine (encode_all _ n _ c P w3 hH3).mono ?_; rintro e w4 ⟨ab, nb, cb, rfl, hb4, g34⟩; have hna := ha3.len; have t5 : True := trivial)
    | (go_at_call 12; have _t := t5; clear t5; refine (twice_any aa ab aw na nb nw ca cb cw w2.heap.size _ w4 (ha3.keep g34) hb4.rd (hw2.keep (grown_trans g23 g34)).rd (by omega) (ha3.later hb4 (Nat.le_refl _)) (ha3.earlier hw2 (Nat.le_refl _))).mono ?_; rintro e w5 ⟨rfl, g45⟩; have g15 := grown_far (grown_trans g12 (grown_trans g23 g34)) g45 (ha3.far _ g12.size); have g05 := grown_trans g01 g15; have t6 : True := trivial)
    | (go_at_call 13; have _t := t6; clear t6; refine (left_any w.heap.size a n cap P Dh w5 (hh1.keep g15) (hp.keep g05) hn).mono ?_; rintro e w6 ⟨rfl, g56⟩))
  go_ret
  exact ⟨rfl, (Below.refl _ _).grown (grown_trans g05 g56) (Nat.le_refl _) (fun k hk => by cases hk)⟩
end Go.Proofs.Ytbgbohddkfaacaa
