import Derived.Test.YtknaganjacghnaaPEnc
namespace Go.Proofs.Ytknaganjacghnaa
open Go.RowKit
set_option maxRecDepth 100000
set_option linter.unusedVariables false
set_option linter.unusedSimpArgs false

theorem i64_or_n (a b : Nat) (ha : a < 2 ^ 63) (hb : b < 2 ^ 63) : bits .or .i64 (a : Int) (b : Int) = ((a ||| b : Nat) : Int) := by
  have hx : a ||| b < 2 ^ 63 := Nat.or_lt_two_pow (by omega) (by omega)
  show IntKind.i64.wrap ((BitVec.ofInt 64 (a : Int) ||| BitVec.ofInt 64 (b : Int)).toNat : Int) = _
  rw [BitVec.toNat_or, ofInt_i64 a ha, ofInt_i64 b hb, wrap_i64_in _ (by omega) (by omega)]
/-- bits behind bits -/
theorem or_put (h x k : Nat) (hx : x < 2 ^ k) (h1 : h * 2 ^ k < 2 ^ 62) (h2 : x < 2 ^ 62) : bits .or .i64 ((h * 2 ^ k : Nat) : Int) (x : Int) = ((h * 2 ^ k + x : Nat) : Int) := by
  rw [i64_or_n _ _ (by omega) (by omega)]
  have h3 := Nat.shiftLeft_add_eq_or_of_lt hx h
  rw [Nat.shiftLeft_eq] at h3
  rw [← h3]
theorem head_list (u s ap pt ct n : Nat) (hu : u < 2) (hs : s < 2) (hap : ap < 2048) (hpt : pt < 4) (hct : ct < 16384) (hn : n ≤ 65536) (h1 : 1 ≤ n) :
    hdL u s ap pt ct n = [(u * 4096 + s * 2048 + ap) / 256, (u * 4096 + s * 2048 + ap) % 256, (pt * 16384 + ct) / 256, (pt * 16384 + ct) % 256, (n - 1) / 256, (n - 1) % 256] := by
  have e : hdL u s ap pt ct n = [hdB (hdN u s ap pt ct n) 0, hdB (hdN u s ap pt ct n) 1, hdB (hdN u s ap pt ct n) 2, hdB (hdN u s ap pt ct n) 3, hdB (hdN u s ap pt ct n) 4, hdB (hdN u s ap pt ct n) 5] := rfl
  rw [e]
  unfold hdB hdN hd1
  obtain ⟨m, rfl⟩ : ∃ m, n = m + 1 := ⟨n - 1, by omega⟩
  simp only [Nat.reduceMul, Nat.reduceSub, Nat.reducePow, Nat.add_sub_cancel, Nat.div_one]
  refine List.cons_eq_cons.2 ⟨by omega, List.cons_eq_cons.2 ⟨by omega, List.cons_eq_cons.2 ⟨by omega, List.cons_eq_cons.2 ⟨by omega, List.cons_eq_cons.2 ⟨by omega, List.cons_eq_cons.2 ⟨by omega, rfl⟩⟩⟩⟩⟩⟩
theorem six_new (w : World) (z0 z1 z2 z3 z4 z5 : Int) (x0 x1 x2 x3 x4 x5 : Nat) (e0 : z0 = x0) (e1 : z1 = x1) (e2 : z2 = x2) (e3 : z3 = x3) (e4 : z4 = x4) (e5 : z5 = x5) (h0 : x0 < 256) (h1 : x1 < 256) (h2 : x2 < 256) (h3 : x3 < 256) (h4 : x4 < 256) (h5 : x5 < 256) :
    Ans (w.alloc (.cells #[.int .u8 z0, .int .u8 z1, .int .u8 z2, .int .u8 z3, .int .u8 z4, .int .u8 z5] 5)) w.heap.size (some ⟨w.heap.size, 0, none⟩) 6 6 [x0, x1, x2, x3, x4, x5] := by
  subst e0 e1 e2 e3 e4 e5
  refine ⟨⟨rfl, .inr ⟨w.heap.size, 6, #[.int .u8 x0, .int .u8 x1, .int .u8 x2, .int .u8 x3, .int .u8 x4, .int .u8 x5], rfl, Nat.zero_le _, heap_alloc_new w _, Nat.le_refl _, by decide, rfl, rfl⟩⟩, ?_, fun g hg => ?_⟩
  · intro x hx
    simp at hx
    omega
  · have e : w.heap.size = g := Option.some.inj hg
    omega
set_option maxHeartbeats 4000000 in
theorem pbytes_any (up se : Bool) (ap pt ct : Int) (a : Option Addr) (n cap : Nat) (D : List Nat) (w : World) (hR : Rd w a n cap D) :
    Calls Try.prog 76 #[pkV up se ap pt ct a n cap] w fun e w' => ∃ a' n' c', e = .returned (.tuple #[.slice a' n' c', .int .i64 (mayE ap pt ct n : Nat)]) ∧ Ans w' w.heap.size a' n' c' (encP up se ap pt ct D) ∧ w.grownBy w' none := by
  have HL : Hid (D.length = n) := hR.len
  have b0 := BxP.new w up se ap pt ct a n cap
  have g0 := World.grownBy_alloc w (.cells #[.bool up, .bool se, .int .i64 ap, .int .i64 pt, .int .i64 ct, .slice a n cap] 64) none
  by_cases hE : mayE ap pt ct n = 0
  · obtain ⟨⟨⟨a1, a2⟩, ⟨p1, p2⟩, c1, c2⟩, n1, n2⟩ := mayE_ok hE
    obtain ⟨ap', rfl⟩ := Int.eq_ofNat_of_zero_le a1
    obtain ⟨pt', rfl⟩ := Int.eq_ofNat_of_zero_le p1
    obtain ⟨ct', rfl⟩ := Int.eq_ofNat_of_zero_le c1
    have hu := toNat_le up
    have hs := toNat_le se
    have HEn : Hid (encP up se (ap' : Int) (pt' : Int) (ct' : Int) D = hdL up.toNat se.toNat ap' pt' ct' n ++ D) := by
      show _ = _
      unfold encP
      rw [HL.out, if_pos hE]; rfl
    have hwr := fun wz => may_any up se (ap' : Int) (pt' : Int) (ct' : Int) a n cap wz
    rw [hE] at hwr ⊢
    unfold pkV at hwr ⊢
    generalize hw0 : w.alloc (.cells #[.bool up, .bool se, .int .i64 (ap' : Int), .int .i64 (pt' : Int), .int .i64 (ct' : Int), .slice a n cap] 64) = w0 at b0 g0
    have t1 : True := trivial
    obtain ⟨c0, c1', c2', c3, c4, c5⟩ := b0.cell
    obtain ⟨A, hA⟩ : ∃ A, A = up.toNat * 4096 + se.toNat * 2048 + ap' := ⟨_, rfl⟩
    have hAv : bits .or .i64 (bits .or .i64 ((up.toNat : Int) * 4096) ((se.toNat : Int) * 2048)) (ap' : Int) = (A : Int) := by
      have e1 : ((up.toNat : Int) * 4096) = ((up.toNat * 2 ^ 12 : Nat) : Int) := by omega
      have e2 : ((se.toNat : Int) * 2048) = ((se.toNat * 2048 : Nat) : Int) := by omega
      have e3 : up.toNat * 2 ^ 12 + se.toNat * 2048 = (up.toNat * 2 + se.toNat) * 2 ^ 11 := by omega
      rw [e1, e2, or_put _ _ 12 (by omega) (by omega) (by omega), e3, or_put _ _ 11 (by omega) (by omega) (by omega)]
      omega
    obtain ⟨C, hC⟩ : ∃ C, C = pt' * 16384 + ct' := ⟨_, rfl⟩
    have hCv : bits .or .i64 ((pt' : Int) * 16384) (ct' : Int) = (C : Int) := by
      have e1 : ((pt' : Int) * 16384) = ((pt' * 2 ^ 14 : Nat) : Int) := by omega
      rw [e1, or_put _ _ 14 (by omega) (by omega) (by omega)]
      omega
    have hA8 : A < 8192 := by omega
    have hC8 : C < 65536 := by omega
    have HA : Hid (A = up.toNat * 4096 + se.toNat * 2048 + ap') := hA
    have HC : Hid (C = pt' * 16384 + ct') := hC
    clear hA hC
    go_enter Try.func76, Try.ntmps76
    go_wp2_with (first
      | (go_at_call 87; have _t := t1; clear t1; refine (hwr _).mono ?_; rintro e w1 ⟨rfl, g1⟩; have b1 := b0.keep g1 (by simp); clear c0 c1' c2' c3 c4 c5; obtain ⟨c0, c1', c2', c3, c4, c5⟩ := b1.cell; have hR1 := hR.keep (grown_trans g0 g1); have hsz1 : w.heap.size ≤ w1.heap.size := (grown_trans g0 g1).size))
    go_quiet ((go_at_call 88; exact Calls.quiet_of_same (bit_any _ _)))
    have g2 := grown_drewN w1 nq none
    have b2 := b1.keep g2 (by simp)
    have hR2 := hR1.keep g2
    generalize w1.drewN nq = w2 at g2 b2 hR2 ⊢
    clear c0 c1' c2' c3 c4 c5
    obtain ⟨c0, c1', c2', c3, c4, c5⟩ := b2.cell
    have c5a : ∀ o, (w2.alloc o).cell? ⟨w.heap.size, 5, none⟩ = some (.slice a n cap) := fun o => (b2.keep (World.grownBy_alloc w2 o none) (by simp)).cell.2.2.2.2.2
    have hA6 := six_new w2 ((A : Int) / 256) ((A : Int) % 256) ((C : Int) / 256) ((C : Int) % 256) (((n : Int) - 1) / 256) (((n : Int) - 1) % 256) (A / 256) (A % 256) (C / 256) (C % 256) ((n - 1) / 256) ((n - 1) % 256) (by omega) (by omega) (by omega) (by omega) (by omega) (by omega) (by omega) (by omega) (by omega) (by omega) (by omega) (by omega)
    have gA6 := World.grownBy_alloc w2 (.cells #[.int .u8 ((A : Int) / 256), .int .u8 ((A : Int) % 256), .int .u8 ((C : Int) / 256), .int .u8 ((C : Int) % 256), .int .u8 (((n : Int) - 1) / 256), .int .u8 (((n : Int) - 1) % 256)] 5) none
    have hM6 : Mine w2 none (some ⟨w2.heap.size, 0, none⟩) 6 6 := fun g hg => .inr (by have e : w2.heap.size = g := Option.some.inj hg; omega)
    have hR6 := hR2.keep gA6
    have H6 : Hid (_ = _) := head_list up.toNat se.toNat ap' pt' ct' n hu hs (by omega) (by omega) (by omega) n2 n1
    go_wp2_with (at_builtin; refine wpList_join w2 _ rfl (.tmp 52) (.tmp 54) rfl (some ⟨w2.heap.size, 0, none⟩) 6 6 w2.heap.size none _ rfl hA6 gA6 hM6 (Nat.le_refl _) a n cap D rfl hR6 (by omega) (by omega) ?_; intro gx cx w3 hA3 hG3 hM3)
    go_ret2
    refine ⟨_, _, _, rfl, ?_, grown_trans (grown_trans (grown_trans g0 g1) g2) hG3⟩
    rw [HEn.out, H6.out, ← HA.out, ← HC.out]
    exact hA3.wide (Nat.le_trans hsz1 g2.size)
  · have HEn : Hid (encP up se ap pt ct D = []) := by
      show _ = _
      unfold encP
      rw [HL.out, if_neg hE]
    have hwr := fun wz => may_any up se ap pt ct a n cap wz
    generalize mayE ap pt ct n = E at hE hwr ⊢
    unfold pkV at hwr ⊢
    generalize hw0 : w.alloc (.cells #[.bool up, .bool se, .int .i64 ap, .int .i64 pt, .int .i64 ct, .slice a n cap] 64) = w0 at b0 g0
    have t1 : True := trivial
    obtain ⟨c0, c1', c2', c3, c4, c5⟩ := b0.cell
    have hne : (((E : Int) == 0) : Bool) = false := by simp; omega
    go_enter Try.func76, Try.ntmps76
    go_wp2_with (first
      | (go_at_call 87; have _t := t1; clear t1; refine (hwr _).mono ?_; rintro e w1 ⟨rfl, g1⟩))
    go_ret2
    exact ⟨_, _, _, rfl, by rw [HEn.out]; exact ans_nil _ _, grown_trans g0 g1⟩
end Go.Proofs.Ytknaganjacghnaa
