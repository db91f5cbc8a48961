import Derived.Test.YtlmddjkplnbadaaPTak
import Derived.Test.YtlmddjkplnbadaaZBx
namespace Go.Proofs.Ytlmddjkplnbadaa
open Go.RowKit
set_option maxRecDepth 100000
set_option linter.unusedVariables false
set_option linter.unusedSimpArgs false

theorem Try.info_pk : (Try.prog.info? 64).map (·.size) = some 6 := by kernel_rfl
/-- the number that the first k bytes make -/
def hdV (B : List Nat) : Nat → Nat
  | 0 => 0
  | k + 1 => hdV B k * 256 + nth B k
theorem hdV_lt {B : List Nat} (hB : IsB B) (k : Nat) : hdV B k < 256 ^ k := by
  induction k with
  | zero => show 0 < 1; decide
  | succ k ih =>
    have := hB.nth k
    simp only [hdV, Nat.pow_succ]
    omega
theorem hdV_step (B : List Nat) (hB : IsB B) (k : Nat) (hk : k < 6) : bits .or .u64 (IntKind.u64.wrap ((hdV B k : Int) * 256)) (nth B k : Int) = ((hdV B (k + 1) : Nat) : Int) := by
  have h1 := hdV_lt hB k
  have h2 : 256 ^ k ≤ 256 ^ 5 := Nat.pow_le_pow_right (by decide) (by omega)
  have h3 := hB.nth k
  have := put_val 8 (nth B k) (hdV B k) (by decide) (by omega) (by omega)
  rw [wrapU (nth B k : Int)] at this
  have e : (nth B k : Int) % 18446744073709551616 = (nth B k : Int) := by omega
  rw [e] at this
  exact this
set_option maxHeartbeats 8000000 in
theorem readHead_any (a : Option Addr) (cap : Nat) (B : List Nat) (w : World) (hR : Rd w a 6 cap B) :
    Calls Try.prog 86 #[.slice a 6 cap] w fun e w' => ∃ H : Nat, Hid (H = hdV B 6) ∧ H < 281474976710656 ∧
      e = .returned (.tuple #[pkV (decide (H / 2 ^ 44 % 2 = 1)) (decide (H / 2 ^ 43 % 2 = 1)) (H / 2 ^ 32 % 2048 : Nat) (H / 2 ^ 30 % 4 : Nat) (H / 2 ^ 16 % 16384 : Nat) none 0 0, .int .i64 (H / 2 ^ 45 : Nat), .int .i64 ((H % 65536 : Nat) + 1)]) ∧ w.grownBy w' none := by
  obtain ⟨b, off, rfl, hbw, hc⟩ := hR.at' (by omega)
  have hB := hR.byte
  have b0 := BxP.new w false false 0 0 0 none 0 0
  have g0 := World.grownBy_alloc w (.cells #[.bool false, .bool false, .int .i64 0, .int .i64 0, .int .i64 0, .slice none 0 0] 64) none
  generalize hw0 : w.alloc (.cells #[.bool false, .bool false, .int .i64 0, .int .i64 0, .int .i64 0, .slice none 0 0] 64) = w0 at b0 g0
  have hz0 : w0.heap.size = w.heap.size + 1 := by rw [← hw0]; simp
  have U1 : BxU (w0.alloc (.cells #[.int .u64 0] 120)) (w.heap.size + 1) 0 := by rw [← hz0]; exact BxU.new w0 0
  have g1 := World.grownBy_alloc w0 (.cells #[.int .u64 0] 120) none
  have b1 := b0.keep g1 (by simp)
  go_enter Try.func86, Try.ntmps86
  go_wp2
  generalize hw1 : w0.alloc (.cells #[.int .u64 0] 120) = w1 at U1 g1 b1 ⊢
  have hz1 : Hid (w1.heap.size = w.heap.size + 2) := by show _ = _; rw [← hw1]; simp [hz0]
  have g01 := grown_trans g0 g1
  clear hw1
  go_loopw [12] (fun i wr => ∃ k : Nat, k ≤ 6 ∧ i = .int .i64 k ∧ BxU wr (w.heap.size + 1) (hdV B k) ∧ w1.grownBy wr (some (w.heap.size + 1))) (fun i _ => (6 - intOf i).toNat)
  case atStart => exact ⟨0, by omega, rfl, U1, World.grownBy.refl _ _⟩
  case round =>
    obtain ⟨k, hk, rfl, hU, hG⟩ := hrel
    by_cases hlt : k < 6
    · have hck : wr.cell? ⟨b, off + k, none⟩ = some (.int .u8 (nth B k : Nat)) := by
        have h1 := hc k hlt
        have h2 := grown_trans g01 (grown_drewN w1 0 none)
        have e1 : w1.cell? ⟨b, off + k, none⟩ = w.cell? ⟨b, off + k, none⟩ := by
          unfold World.cell?
          rw [g01.block b hbw (by simp)]
        have e2 : wr.cell? ⟨b, off + k, none⟩ = w1.cell? ⟨b, off + k, none⟩ := by
          unfold World.cell?
          rw [hG.block b (Nat.lt_of_lt_of_le hbw g01.size) (by simp; omega)]
        rw [e2, e1, h1]
      have hcU := hU.cell
      have hfU := hU.free
      have hv := hdV_step B hB k hlt
      have hbk := hB.nth k
      have hS : Hid _ := hU.set (hdV B (k + 1))
      have gS : Hid _ := grown_set wr (w.heap.size + 1) 0 (.int .u64 (hdV B (k + 1) : Nat))
      go_wp2
      go_roundw
      case rel => exact ⟨k + 1, by omega, by go_num, hS.out, grown_trans hG gS.out⟩
      case measure => simp [intOf]; omega
    · obtain rfl : k = 6 := by omega
      have b2 := b1.keep hG (by simp)
      have hzr := hG.size
      have hH : hdV B 6 < 281474976710656 := hdV_lt hB 6
      obtain ⟨H, eH⟩ : ∃ H, H = hdV B 6 := ⟨_, rfl⟩
      rw [← eH] at hU hH
      have EH : Hid (H = hdV B 6) := eH
      clear eH hc
      have g0r : w.grownBy wr none := grown_far g01 hG (fun g e => by cases e; omega)
      have g3 := World.grownBy_alloc wr (.cells #[.int .i64 48] 3) none
      have I3 := BxI.new wr 48
      have U3 := hU.keep g3 (by simp)
      have b3 := b2.keep g3 (by simp)
      have hlr : w.heap.size + 2 ≤ wr.heap.size := by have := hz1.out; omega
      have hne : wr.heap.size ≠ w.heap.size + 1 := by omega
      have t1 : True := trivial
      have hnp : some w.heap.size ≠ some wr.heap.size := by simp; omega
      have hip : some wr.heap.size ≠ some w.heap.size := by simp; omega
      have hup : some (w.heap.size + 1) ≠ some w.heap.size := by simp
      have hfa : ∀ g, some wr.heap.size = some g → w.heap.size ≤ g := fun g e => by cases e; omega
      have hfb : ∀ g, some w.heap.size = some g → w.heap.size ≤ g := fun g e => by cases e; exact Nat.le_refl _
      go_wp2_with (first
        | (go_at_call 92; have _t := t1; clear t1; refine (take_int _ 3 48 _ _ H _ rfl I3 U3 hne (by decide) (by decide) (by decide) hH).mono ?_; rintro e w4 ⟨u1, rfl, E1, l1, I4, U4, g4⟩; have b4 := b3.keep g4 hnp; have gw4 := grown_far (grown_trans g0r g3) g4 hfa; have t2 : True := trivial)
        | (go_at_call 92; have _t := t2; clear t2; refine (take_int _ 1 45 _ _ H _ rfl I4 U4 hne (by decide) (by decide) (by decide) hH).mono ?_; rintro e w5 ⟨u2, rfl, E2, l2, I5, U5, g5⟩; have b5 := b4.keep g5 hnp; have gw5 := grown_far gw4 g5 hfa; obtain ⟨x2, hx2, hy2⟩ : ∃ x, ((u2 : Int) == 1) = x ∧ decide ((u2 : Int) = 1) = x := ⟨_, rfl, rfl⟩; have cc := b5.cell.1; have ff2 := b5.free 0; have b6 := b5.set0 x2; have gs2 := grown_set w5 w.heap.size 0 (.bool x2); have I6 := I5.keep gs2 hip; have U6 := U5.keep gs2 hup; generalize hw6 : w5.setCell ⟨w.heap.size, 0, none⟩ (.bool x2) = w6 at b6 gs2 I6 U6; have gw6 := grown_far gw5 gs2 hfb; have t3 : True := trivial)
        | (go_at_call 92; have _t := t3; clear t3; clear cc; refine (take_int _ 1 44 _ _ H _ rfl I6 U6 hne (by decide) (by decide) (by decide) hH).mono ?_; rintro e w7 ⟨u3, rfl, E3, l3, I7, U7, g7⟩; have b7 := b6.keep g7 hnp; have gw7 := grown_far gw6 g7 hfa; obtain ⟨x3, hx3, hy3⟩ : ∃ x, ((u3 : Int) == 1) = x ∧ decide ((u3 : Int) = 1) = x := ⟨_, rfl, rfl⟩; have cc := b7.cell.2.1; have ff3 := b7.free 1; have b8 := b7.set1 x3; have gs3 := grown_set w7 w.heap.size 1 (.bool x3); have I8 := I7.keep gs3 hip; have U8 := U7.keep gs3 hup; generalize hw8 : w7.setCell ⟨w.heap.size, 1, none⟩ (.bool x3) = w8 at b8 gs3 I8 U8; have gw8 := grown_far gw7 gs3 hfb; have t4 : True := trivial)
        | (go_at_call 92; have _t := t4; clear t4; clear cc; refine (take_int _ 11 43 _ _ H _ rfl I8 U8 hne (by decide) (by decide) (by decide) hH).mono ?_; rintro e w9 ⟨u4, rfl, E4, l4, I9, U9, g9⟩; have b9 := b8.keep g9 hnp; have gw9 := grown_far gw8 g9 hfa; have cc := b9.cell.2.2.1; have ff4 := b9.free 2; have b10 := b9.set2 (u4 : Int); have gs4 := grown_set w9 w.heap.size 2 (.int .i64 (u4 : Int)); have I10 := I9.keep gs4 hip; have U10 := U9.keep gs4 hup; generalize hw10 : w9.setCell ⟨w.heap.size, 2, none⟩ (.int .i64 (u4 : Int)) = w10 at b10 gs4 I10 U10; have gw10 := grown_far gw9 gs4 hfb; have t5 : True := trivial)
        | (go_at_call 92; have _t := t5; clear t5; clear cc; refine (take_int _ 2 32 _ _ H _ rfl I10 U10 hne (by decide) (by decide) (by decide) hH).mono ?_; rintro e w11 ⟨u5, rfl, E5, l5, I11, U11, g11⟩; have b11 := b10.keep g11 hnp; have gw11 := grown_far gw10 g11 hfa; have cc := b11.cell.2.2.2.1; have ff5 := b11.free 3; have b12 := b11.set3 (u5 : Int); have gs5 := grown_set w11 w.heap.size 3 (.int .i64 (u5 : Int)); have I12 := I11.keep gs5 hip; have U12 := U11.keep gs5 hup; generalize hw12 : w11.setCell ⟨w.heap.size, 3, none⟩ (.int .i64 (u5 : Int)) = w12 at b12 gs5 I12 U12; have gw12 := grown_far gw11 gs5 hfb; have t6 : True := trivial)
        | (go_at_call 92; have _t := t6; clear t6; clear cc; refine (take_int _ 14 30 _ _ H _ rfl I12 U12 hne (by decide) (by decide) (by decide) hH).mono ?_; rintro e w13 ⟨u6, rfl, E6, l6, I13, U13, g13⟩; have b13 := b12.keep g13 hnp; have gw13 := grown_far gw12 g13 hfa; have cc := b13.cell.2.2.2.2.1; have ff6 := b13.free 4; have b14 := b13.set4 (u6 : Int); have gs6 := grown_set w13 w.heap.size 4 (.int .i64 (u6 : Int)); have I14 := I13.keep gs6 hip; have U14 := U13.keep gs6 hup; generalize hw14 : w13.setCell ⟨w.heap.size, 4, none⟩ (.int .i64 (u6 : Int)) = w14 at b14 gs6 I14 U14; have gw14 := grown_far gw13 gs6 hfb; have t7 : True := trivial))
      clear cc ff2 ff3 ff4 ff5 ff6 g3 g4 g5 g7 g9 g11 g13 gs2 gs3 gs4 gs5 gs6 b0 b1 b2 b3 b4 b5 b6 b7 b8 b9 b10 b11 b12 b13 I3 I4 I5 I6 I7 I8 I9 I10 I11 I12 I13 U1 hU U3 U4 U5 U6 U7 U8 U9 U10 U11 U12 U13 hw0 hw6 hw8 hw10 hw12 hw14 g0 g1 hG g01 gw4 gw5 gw6 gw7 gw8 gw9 gw10 gw11 gw12 gw13
      obtain ⟨c0, c1, c2, c3, c4, c5⟩ := b14.cell
      have f0 := b14.free 0
      have f1 := b14.free 1
      have f2 := b14.free 2
      have f3 := b14.free 3
      have f4 := b14.free 4
      have f5 := b14.free 5
      go_region_with (go_at_call 92; refine (take_int _ 16 16 _ _ H _ rfl (I14.keep (grown_drew w14 none) (by simp)) (U14.keep (grown_drew w14 none) (by simp)) hne (by decide) (by decide) (by decide) hH).mono ?_; rintro e w15 ⟨u7, rfl, E7, l7, I15, U15, g15⟩; have b15 := (b14.keep (grown_drew w14 none) (by simp)).keep g15 hnp; have gw15 := grown_far (grown_trans gw14 (grown_drew w14 none)) g15 hfa; obtain ⟨d0, d1, d2, d3, d4, d5⟩ := b15.cell; have q0 := b15.free 0; have q1 := b15.free 1; have q2 := b15.free 2; have q3 := b15.free 3; have q4 := b15.free 4; have q5 := b15.free 5)
      all_goals
        have b16 := (((((b15.set0 x2).set1 x3).set2 (u4 : Int)).set3 (u5 : Int)).set4 (u6 : Int)).set5 none 0 0
        have gw16 : w.grownBy ((((((w15.setCell ⟨w.heap.size, 0, none⟩ (.bool x2)).setCell ⟨w.heap.size, 1, none⟩ (.bool x3)).setCell ⟨w.heap.size, 2, none⟩ (.int .i64 (u4 : Int))).setCell ⟨w.heap.size, 3, none⟩ (.int .i64 (u5 : Int))).setCell ⟨w.heap.size, 4, none⟩ (.int .i64 (u6 : Int))).setCell ⟨w.heap.size, 5, none⟩ (.slice none 0 0)) none :=
          grown_far (grown_far (grown_far (grown_far (grown_far (grown_far gw15 (grown_set _ _ _ _) hfb) (grown_set _ _ _ _) hfb) (grown_set _ _ _ _) hfb) (grown_set _ _ _ _) hfb) (grown_set _ _ _ _) hfb) (grown_set _ _ _ _) hfb
        generalize ((((((w15.setCell ⟨w.heap.size, 0, none⟩ (.bool x2)).setCell ⟨w.heap.size, 1, none⟩ (.bool x3)).setCell ⟨w.heap.size, 2, none⟩ (.int .i64 (u4 : Int))).setCell ⟨w.heap.size, 3, none⟩ (.int .i64 (u5 : Int))).setCell ⟨w.heap.size, 4, none⟩ (.int .i64 (u6 : Int))).setCell ⟨w.heap.size, 5, none⟩ (.slice none 0 0)) = w16 at b16 gw16 ⊢
        clear d0 d1 d2 d3 d4 d5 c0 c1 c2 c3 c4 c5 f0 f1 f2 f3 f4 f5 q0 q1 q2 q3 q4 q5
        obtain ⟨c0, c1, c2, c3, c4, c5⟩ := b16.cell
        go_wp2
        refine bodyPost_ret (results_cell3 rfl _ _ _ ⟨w.heap.size, 0, none⟩ _ (.int .i64 (u1 : Int)) (.int .i64 (IntKind.i64.wrap ((u7 : Int) + 1))) rfl (BxS.load (t := 64) b16 Try.underlying64 Try.info_pk) rfl rfl) rfl ?_
        refine ⟨H, EH, hH, ?_, gw16⟩
        have r1 : u1 = H / 2 ^ 45 := E1.out.trans (Nat.mod_eq_of_lt (Nat.div_lt_of_lt_mul (by omega)))
        have r2 : u2 = H / 2 ^ 44 % 2 := E2.out
        have r3 : u3 = H / 2 ^ 43 % 2 := E3.out
        have r4 : u4 = H / 2 ^ 32 % 2048 := E4.out
        have r5 : u5 = H / 2 ^ 30 % 4 := E5.out
        have r6 : u6 = H / 2 ^ 16 % 16384 := E6.out
        have r7 : u7 = H % 65536 := by have := E7.out; simpa using this
        have y2 : x2 = decide (H / 2 ^ 44 % 2 = 1) := by rw [← hx2, ← r2]; cases h : decide (u2 = 1) <;> simp_all
        have y3 : x3 = decide (H / 2 ^ 43 % 2 = 1) := by rw [← hx3, ← r3]; cases h : decide (u3 = 1) <;> simp_all
        have y7 : IntKind.i64.wrap ((u7 : Int) + 1) = ((H % 65536 : Nat) : Int) + 1 := by
          rw [r7]
          have := Nat.mod_lt H (show 0 < 65536 by decide)
          generalize H % 65536 = q at this
          exact wrap_i64_in _ (by omega) (by omega)
        rw [y2, y3, y7, r1, r4, r5, r6]
        rfl
end Go.Proofs.Ytlmddjkplnbadaa
