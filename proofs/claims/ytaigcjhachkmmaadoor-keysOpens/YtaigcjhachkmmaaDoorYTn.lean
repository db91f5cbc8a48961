import Derived.Test.YtaigcjhachkmmaaDoorYRw
import Derived.Laws.BitsAllLaws
import Derived.BigRegion
import Derived.Deep.DeepCutAuto
namespace Go.Proofs.YtaigcjhachkmmaaDoor
open Go.RowKit
set_option maxRecDepth 100000
set_option linter.unusedVariables false
set_option linter.unusedSimpArgs false
theorem and31 (k : Nat) (hk : k < 32) : bits .and .u64 (k : Int) 31 = (k : Int) := by
  have := u64_and_nat k 31 (by omega) (by decide)
  rw [show ((31 : Nat) : Int) = 31 from rfl] at this
  rw [this, Nat.and_two_pow_sub_one_eq_mod k 5, Nat.mod_eq_of_lt (by omega)]
theorem rot_val (x k : Nat) (hx : x < 4294967296) (hk : k < 32) : bits .or .u32 ((x : Int) * 2 ^ k % 4294967296) ((x : Int) / 2 ^ (32 - k)) = ((rotN x k : Nat) : Int) := by
  have h1 : (x : Int) * 2 ^ k % 4294967296 = ((x * 2 ^ k % 4294967296 : Nat) : Int) := by
    rw [Int.natCast_emod, Int.natCast_mul, Int.natCast_pow]; rfl
  have h2 : (x : Int) / 2 ^ (32 - k) = ((x / 2 ^ (32 - k) : Nat) : Int) := by
    rw [Int.natCast_ediv, Int.natCast_pow]; rfl
  have h3 : x / 2 ^ (32 - k) < 4294967296 := Nat.lt_of_le_of_lt (Nat.div_le_self _ _) hx
  rw [h1, h2, u32_or_nat _ _ (Nat.mod_lt _ (by decide)) h3]
  unfold rotN
  have h4 := Nat.or_mod_two_pow (a := x <<< k) (b := x >>> (32 - k)) (n := 32)
  rw [show (4294967296 : Nat) = 2 ^ 32 from rfl, h4, Nat.shiftLeft_eq, Nat.shiftRight_eq_div_pow, Nat.mod_eq_of_lt (a := x / 2 ^ (32 - k)) (b := 2 ^ 32) h3]
theorem rot_any (x k : Nat) (hx : x < 4294967296) (hk : k < 32) (w : World) :
    Calls Tryd.prog 65 #[.int .u32 x, .int .i64 k] w fun e w' => e = .returned (.int .u32 (rotN x k : Nat)) ∧ w' = w := by
  have e0 := and31 k hk
  have e1 := rot_val x k hx hk
  have i0 : (k : Int) < 64 := by omega
  have i1 : (0 : Int) ≤ 32 - (k : Int) := by omega
  have i2 : 32 - (k : Int) < 18446744073709551616 := by omega
  go_enter Tryd.func65, Tryd.ntmps65
  go_wp2
  go_ret
  simp [e1]
set_option maxHeartbeats 4000000 in
theorem turn_any (g t b l p : Nat) (f : Nat → Nat) (w : World) (h : KRow .u32 w g 82 16 f) (hf : Is32 f) (ht : t < 16) (hb : b < 16) (hl : l < 16) (hp : p < 32) :
    Calls Tryd.prog 63 #[.pointer (some ⟨g, 0, none⟩), .int .i64 t, .int .i64 b, .int .i64 l, .int .i64 p] w fun e w' => e = .returned (.tuple #[]) ∧ KRow .u32 w' g 82 16 (trnF f t b l p) ∧ w.grownBy w' (some g) := by
  have c1 := h.cell t ht
  have c2 := h.cell b hb
  have f1 := h.free t
  have i1 : (0 : Int) ≤ (t : Int) := by omega
  have i2 : (t : Int) < 16 := by omega
  have i3 : (b : Int) < 16 := by omega
  have i4 : (l : Int) < 16 := by omega
  have b1 := hf t
  have b2 := hf b
  obtain ⟨v, hv⟩ : ∃ v, v = (f t + f b) % 4294967296 := ⟨_, rfl⟩
  have e1 : ((f t : Int) + (f b : Int)) % 4294967296 = (v : Int) := by omega
  have e2 : IntKind.u32.wrap ((f t : Int) + (f b : Int)) = (v : Int) := by rw [IntKind.wrap_u32', e1]
  have HV : Hid (v = (f t + f b) % 4294967296) := hv
  have hv2 : v < 4294967296 := by omega
  clear hv
  go_enter Tryd.func63, Tryd.ntmps63
  go_wp2
  go_region
  have hK : KRow .u32 (w.setCell ⟨g, t, none⟩ (.int .u32 (v : Nat))).drew g 82 16 (updF f t v) := h.set t v
  have g1 : w.grownBy (w.setCell ⟨g, t, none⟩ (.int .u32 (v : Nat))).drew (some g) := grown_trans (grown_set _ _ _ _) (grown_drew _ _)
  generalize (w.setCell ⟨g, t, none⟩ (.int .u32 (v : Nat))).drew = w1 at hK g1 ⊢
  have hf1 : Is32 (updF f t v) := hf.upd t v (by omega)
  obtain ⟨F, hF⟩ : ∃ F, F = updF f t v := ⟨_, rfl⟩
  have HF : Hid (F = updF f t v) := hF
  rw [← hF] at hK hf1
  clear hF
  have c3 := hK.cell l hl
  have c4 := hK.cell t ht
  have f3 := hK.free l
  have b3 := hf1 l
  have b4 := hf1 t
  have hx : F l ^^^ F t < 4294967296 := Nat.xor_lt_two_pow (n := 32) b3 b4
  have e3 : bits .xor .u32 (F l : Nat) (F t : Nat) = ((F l ^^^ F t : Nat) : Int) := u32_xor_nat _ _ b3 b4
  clear c1 c2 f1 e1 e2 h
  go_wp2
  go_region_with (go_at_call 65; refine (rot_any _ p hx hp _).mono ?_; rintro e w' ⟨rfl, rfl⟩)
  all_goals
    go_wp2
    go_end0
    refine ⟨rfl, ?_, ?_⟩
    · show KRow _ _ _ _ _ (trnF f t b l p)
      have e9 : trnF f t b l p = updF F l (rotN (F l ^^^ F t) p) := by rw [HF.out, HV.out]; rfl
      rw [e9]
      exact hK.set l (rotN (F l ^^^ F t) p)
    · exact grown_trans g1 (grown_trans (grown_set _ _ _ _) (grown_drew _ _))
theorem stir_any (g a b c d : Nat) (f : Nat → Nat) (w : World) (h : KRow .u32 w g 82 16 f) (hf : Is32 f) (ha : a < 16) (hb : b < 16) (hc : c < 16) (hd : d < 16) :
    Calls Tryd.prog 55 #[.pointer (some ⟨g, 0, none⟩), .int .i64 a, .int .i64 b, .int .i64 c, .int .i64 d] w fun e w' => e = .returned (.tuple #[]) ∧ KRow .u32 w' g 82 16 (stiF f a b c d) ∧ w.grownBy w' (some g) := by
  have t1 : True := trivial
  have hf1 := hf.trn a b d 13
  have hf2 := hf1.trn c d b 9
  have hf3 := hf2.trn a b d 17
  go_enter Tryd.func55, Tryd.ntmps55
  go_wp2_with (first
    | (go_at_call 63; have _t := t1; clear t1; refine (turn_any g a b d 13 f w h hf ha hb hd (by decide)).mono ?_; rintro e w1 ⟨rfl, h1, g1⟩; have t2 : True := trivial)
    | (go_at_call 63; have _t := t2; clear t2; refine (turn_any g c d b 9 _ w1 h1 hf1 hc hd hb (by decide)).mono ?_; rintro e w2 ⟨rfl, h2, g2⟩; have t3 : True := trivial)
    | (go_at_call 63; have _t := t3; clear t3; refine (turn_any g a b d 17 _ w2 h2 hf2 ha hb hd (by decide)).mono ?_; rintro e w3 ⟨rfl, h3, g3⟩; have t4 : True := trivial)
    | (go_at_call 63; have _t := t4; clear t4; refine (turn_any g c d b 5 _ w3 h3 hf3 hc hd hb (by decide)).mono ?_; rintro e w4 ⟨rfl, h4, g4⟩))
  go_end0
  exact ⟨rfl, h4, grown_trans g1 (grown_trans g2 (grown_trans g3 g4))⟩
end Go.Proofs.YtaigcjhachkmmaaDoor
