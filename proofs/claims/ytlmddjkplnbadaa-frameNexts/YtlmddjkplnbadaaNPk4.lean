import Derived.Test.YtlmddjkplnbadaaNPk3
namespace Go.Proofs.Ytlmddjkplnbadaa
open Go.RowKit
set_option maxRecDepth 100000
set_option linter.unusedVariables false
set_option linter.unusedSimpArgs false

theorem four_new (w : World) (z0 z1 z2 z3 : Int) (x0 x1 x2 x3 : Nat) (e0 : z0 = x0) (e1 : z1 = x1) (e2 : z2 = x2) (e3 : z3 = x3) (h0 : x0 < 256) (h1 : x1 < 256) (h2 : x2 < 256) (h3 : x3 < 256) :
    Ans (w.alloc (.cells #[.int .u8 z0, .int .u8 z1, .int .u8 z2, .int .u8 z3] 5)) w.heap.size (some ⟨w.heap.size, 0, none⟩) 4 4 [x0, x1, x2, x3] := by
  subst e0 e1 e2 e3
  refine ⟨⟨rfl, .inr ⟨w.heap.size, 4, #[.int .u8 x0, .int .u8 x1, .int .u8 x2, .int .u8 x3], rfl, Nat.zero_le _, heap_alloc_new w _, Nat.le_refl _, by decide, rfl, rfl⟩⟩, ?_, fun g hg => ?_⟩
  · intro x hx
    simp at hx
    omega
  · have e : w.heap.size = g := Option.some.inj hg
    omega
theorem two_new (w : World) (z0 z1 : Int) (x0 x1 : Nat) (e0 : z0 = x0) (e1 : z1 = x1) (h0 : x0 < 256) (h1 : x1 < 256) :
    Ans (w.alloc (.cells #[.int .u8 z0, .int .u8 z1] 5)) w.heap.size (some ⟨w.heap.size, 0, none⟩) 2 2 [x0, x1] := by
  subst e0 e1
  refine ⟨⟨rfl, .inr ⟨w.heap.size, 2, #[.int .u8 x0, .int .u8 x1], rfl, Nat.zero_le _, heap_alloc_new w _, Nat.le_refl _, by decide, rfl, rfl⟩⟩, ?_, fun g hg => ?_⟩
  · intro x hx
    simp at hx
    omega
  · have e : w.heap.size = g := Option.some.inj hg
    omega
theorem beL_one (x : Nat) : beL 1 x = [x % 256] := by
  show [x / 2 ^ (8 * (1 - 1 - 0)) % 256] = _
  simp
theorem beL_two (x : Nat) : beL 2 x = [x / 256 % 256, x % 256] := by
  show [x / 2 ^ (8 * (2 - 1 - 0)) % 256, x / 2 ^ (8 * (2 - 1 - 1)) % 256] = _
  simp
theorem beL_four (x : Nat) : beL 4 x = [x / 16777216 % 256, x / 65536 % 256, x / 256 % 256, x % 256] := by
  show [x / 2 ^ (8 * (4 - 1 - 0)) % 256, x / 2 ^ (8 * (4 - 1 - 1)) % 256, x / 2 ^ (8 * (4 - 1 - 2)) % 256, x / 2 ^ (8 * (4 - 1 - 3)) % 256] = _
  simp
theorem paA_list (cr ch ma ow fi st : Nat) (D : List Nat) : paA cr ch ma ow fi st D = ([paN cr ch / 256 % 256, paN cr ch % 256, ma % 256, ow % 256, (6144 + fi) / 256 % 256, (6144 + fi) % 256] ++ D) ++ [st / 16777216 % 256, st / 65536 % 256, st / 256 % 256, st % 256] := by
  unfold paA
  rw [beL_two, beL_one, beL_one, beL_two, beL_four]
  rfl
set_option maxHeartbeats 8000000 in
theorem rpack_ok (cr ch ma ow fi st : Nat) (a : Option Addr) (n cap : Nat) (D : List Nat) (w : World) (hR : Rd w a n cap D) (hE : paE cr ch ma ow fi st n = 0) :
    Calls Try.prog 16 #[.agg (heA cr ch ma ow fi), .slice a n cap, .int .i64 st] w fun e w' => ∃ a' n' c', e = .returned (.tuple #[.slice a' n' c', .int .i64 0]) ∧ Ans w' w.heap.size a' n' c' (paL cr ch ma ow fi st D) ∧ w.grownBy w' none := by
  obtain ⟨q1, q2, q3, ⟨r1, r1'⟩, ⟨r2, r2'⟩, ⟨r3, r3'⟩, ⟨r4, r4'⟩, ⟨r5, r5'⟩, ⟨r6, r6'⟩, n1, n2⟩ := paE_ok hE
  clear hE q1 q2 q3
  have nv := name_val cr ch (by omega) (by omega)
  have hpn : paN cr ch < 65536 := by unfold paN; omega
  have fv := first_val fi (by omega)
  have b0 := BxS.new w 28 (heA cr ch ma ow fi)
  have g0 := World.grownBy_alloc w (.cells (heA cr ch ma ow fi) 28) none
  unfold heA at b0 g0 ⊢
  generalize hw0 : w.alloc (.cells #[.int .i64 (cr : Int), .int .i64 (ch : Int), .int .i64 (ma : Int), .int .i64 (ow : Int), .int .i64 (fi : Int)] 28) = w0 at b0 g0
  obtain ⟨c0, c1, c2, c3, c4⟩ := b0.cell5
  have t1 : True := trivial
  go_enter Try.func16, Try.ntmps16
  have A1 := six_new w0 ((paN cr ch : Int) / 256) ((paN cr ch : Int) % 256) (ma : Int) (ow : Int) ((6144 + (fi : Int)) / 256) ((6144 + (fi : Int)) % 256) (paN cr ch / 256 % 256) (paN cr ch % 256) (ma % 256) (ow % 256) ((6144 + fi) / 256 % 256) ((6144 + fi) % 256) (by omega) (by omega) (by omega) (by omega) (by omega) (by omega) (by omega) (by omega) (by omega) (by omega) (by omega) (by omega)
  have gA1 := World.grownBy_alloc w0 (.cells #[.int .u8 ((paN cr ch : Int) / 256), .int .u8 ((paN cr ch : Int) % 256), .int .u8 (ma : Int), .int .u8 (ow : Int), .int .u8 ((6144 + (fi : Int)) / 256), .int .u8 ((6144 + (fi : Int)) % 256)] 5) none
  have HL : Hid (_ = _) := paA_list cr ch ma ow fi st D
  have hM1 : Mine w0 none (some ⟨w0.heap.size, 0, none⟩) 6 6 := fun q h => .inr (by have e : w0.heap.size = q := Option.some.inj h; omega)
  have hR1 := hR.keep (grown_trans g0 gA1)
  go_wp2_with (first
    | (at_builtin; have _t := t1; clear t1; refine wpList_join w0 _ rfl (.tmp 106) (.tmp 107) rfl (some ⟨w0.heap.size, 0, none⟩) 6 6 w0.heap.size none _ rfl A1 gA1 hM1 (Nat.le_refl _) a n cap D rfl hR1 n1 (by omega) ?_; intro gx cx w3 hA3 hG3 hM3; have A4 := four_new w3 ((st : Int) / 16777216) ((st : Int) / 65536 % 256) ((st : Int) / 256 % 256) ((st : Int) % 256) (st / 16777216 % 256) (st / 65536 % 256) (st / 256 % 256) (st % 256) (by omega) (by omega) (by omega) (by omega) (by omega) (by omega) (by omega) (by omega); have gA4 := World.grownBy_alloc w3 (.cells #[.int .u8 ((st : Int) / 16777216), .int .u8 ((st : Int) / 65536 % 256), .int .u8 ((st : Int) / 256 % 256), .int .u8 ((st : Int) % 256)] 5) none; have t2 : True := trivial)
    | (at_builtin; have _t := t2; clear t2; refine wpList_join w0 _ rfl (.tmp 109) (.tmp 121) rfl (some ⟨gx, 0, none⟩) (6 + n) cx w0.heap.size none _ rfl (hA3.keep gA4) (grown_trans hG3 gA4) hM3 (Nat.le_refl _) _ 4 4 _ rfl A4.rd (by decide) (by omega) ?_; intro gy cy w4 hA5 hG5 hM5; have hRd := hA5.rd; rw [← HL.out] at hRd hA5; have t3 : True := trivial)
    | (go_at_call 14; have _t := t3; clear t3; refine (rsum_any _ _ _ _ _ hRd (by omega)).mono ?_; rintro e w5 ⟨rfl, g5⟩; have hs := crN_lt (paA cr ch ma ow fi st D) (8 * (paA cr ch ma ow fi st D).length); have hs : sumB (paA cr ch ma ow fi st D) < 65536 := hs; have HS : Hid (paL cr ch ma ow fi st D = paA cr ch ma ow fi st D ++ beL 2 (sumB (paA cr ch ma ow fi st D))) := rfl; generalize sumB (paA cr ch ma ow fi st D) = s at hs HS ⊢; have A6 := two_new w5 ((s : Int) / 256) ((s : Int) % 256) (s / 256 % 256) (s % 256) (by omega) (by omega) (by omega) (by omega); have gA6 := World.grownBy_alloc w5 (.cells #[.int .u8 ((s : Int) / 256), .int .u8 ((s : Int) % 256)] 5) none; have t4 : True := trivial)
    | (at_builtin; have _t := t4; clear t4; refine wpList_join w0 _ rfl (.tmp 125) (.tmp 131) rfl (some ⟨gy, 0, none⟩) (6 + n + 4) cy w0.heap.size none _ rfl ((hA5.keep g5).keep gA6) (grown_trans (grown_trans hG5 g5) gA6) hM5 (Nat.le_refl _) _ 2 2 _ rfl A6.rd (by decide) (by omega) ?_; intro gz cz w6 hA7 hG7 hM7))
  go_ret2
  refine ⟨_, _, _, rfl, ?_, grown_trans g0 hG7⟩
  rw [HS.out, beL_two]
  exact hA7.wide g0.size
end Go.Proofs.Ytlmddjkplnbadaa
