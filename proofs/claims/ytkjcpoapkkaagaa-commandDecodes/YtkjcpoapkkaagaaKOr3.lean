import Derived.Test.YtkjcpoapkkaagaaKOr2
namespace Go.Proofs.Ytkjcpoapkkaagaa
open Go.RowKit
set_option maxRecDepth 100000
set_option linter.unusedVariables false
set_option linter.unusedSimpArgs false

/-- what Encode answers -/
def ordB (cr : Int) (bp co : Bool) (sq : Int) (D : List Nat) : List Nat := if orE cr bp co sq D.length = 0 then orL cr.toNat bp co sq.toNat D else []
theorem orL_len (cr : Nat) (bp co : Bool) (sq : Nat) (D : List Nat) : (orL cr bp co sq D).length = D.length + 7 := by
  unfold orL orP hoL
  simp
theorem ordB_len (cr : Int) (bp co : Bool) (sq : Int) (D : List Nat) : (ordB cr bp co sq D).length ≤ 1024 := by
  unfold ordB
  split
  · rename_i h
    have := (orE_ok h).2.2.2
    rw [orL_len]; omega
  · simp
set_option maxHeartbeats 4000000 in
theorem kenc_any (cr : Int) (bp co : Bool) (sq : Int) (a : Option Addr) (n c : Nat) (D : List Nat) (w : World) (hR : Rd w a n c D) :
    Calls Try.prog 15 #[.agg (orA cr bp co sq a n c)] w fun e w' => ∃ a' n' c', e = .returned (.tuple #[.slice a' n' c', .int .i64 (orE cr bp co sq n : Nat)]) ∧ Ans w' w.heap.size a' n' c' (ordB cr bp co sq D) ∧ w.grownBy w' none := by
  have HL : Hid (D.length = n) := hR.len
  have hW := fun wz => worder_any cr bp co sq a n c wz
  have b0 := BxS.new w 24 (orA cr bp co sq a n c)
  have g0 := World.grownBy_alloc w (.cells (orA cr bp co sq a n c) 24) none
  have t1 : True := trivial
  by_cases hE : orE cr bp co sq n = 0
  · obtain ⟨⟨r1, r2⟩, ⟨s1, s2⟩, _, n1, n2⟩ := orE_ok hE
    obtain ⟨cr, rfl⟩ := Int.eq_ofNat_of_zero_le r1
    obtain ⟨sq, rfl⟩ := Int.eq_ofNat_of_zero_le s1
    have HO : Hid (ordB (cr : Int) bp co (sq : Int) D = orL cr bp co sq D) := by show _ = _; unfold ordB; rw [HL.out, if_pos hE]; rfl
    rw [hE] at hW ⊢
    have hB := fun wz hz => obytes_any cr bp co sq a n c D wz hz (by omega) (by omega) n1 n2
    generalize ordB (cr : Int) bp co (sq : Int) D = O at HO ⊢
    generalize orL cr bp co sq D = L at HO hB
    unfold orA at hW hB b0 g0 ⊢
    generalize hw0 : w.alloc (.cells #[.int .i64 (cr : Int), .bool bp, .bool co, .int .i64 (sq : Int), .slice a n c] 24) = w0 at b0 g0
    obtain ⟨c0, c1, c2, c3, c4⟩ := b0.cell5
    go_enter Try.func15, Try.ntmps15
    go_wp2_with (first
      | (go_at_call 49; refine (hW _).mono ?_; rintro e w1 ⟨rfl, g1⟩; have g01 := grown_trans g0 g1; clear c0 c1 c2 c3 c4; obtain ⟨c0, c1, c2, c3, c4⟩ := (b0.keep g1 (by simp)).cell5)
      | (go_at_call 50; refine (hB w1 (hR.keep g01)).mono ?_; rintro e w2 ⟨a2, c2', rfl, hA2, g2⟩))
    go_ret2
    exact ⟨_, _, _, rfl, by rw [HO.out]; exact hA2.wide g01.size, grown_trans g01 g2⟩
  · have HO : Hid (ordB cr bp co sq D = []) := by show _ = _; unfold ordB; rw [HL.out, if_neg hE]
    generalize orE cr bp co sq n = E at hW hE ⊢
    generalize ordB cr bp co sq D = O at HO ⊢
    unfold orA at hW b0 g0 ⊢
    generalize hw0 : w.alloc (.cells #[.int .i64 cr, .bool bp, .bool co, .int .i64 sq, .slice a n c] 24) = w0 at b0 g0
    obtain ⟨c0, c1, c2, c3, c4⟩ := b0.cell5
    have hne : (((E : Int) != 0) : Bool) = true := by simp; omega
    go_enter Try.func15, Try.ntmps15
    go_wp2_with (first
      | (go_at_call 49; refine (hW _).mono ?_; rintro e w1 ⟨rfl, g1⟩))
    go_ret2
    exact ⟨_, _, _, rfl, by rw [HO.out]; exact ans_nil _ _, grown_trans g0 g1⟩
theorem five_new (w : World) (z0 z1 z2 z3 z4 : Int) (x0 x1 x2 x3 x4 : Nat) (e0 : z0 = x0) (e1 : z1 = x1) (e2 : z2 = x2) (e3 : z3 = x3) (e4 : z4 = x4) (h0 : x0 < 256) (h1 : x1 < 256) (h2 : x2 < 256) (h3 : x3 < 256) (h4 : x4 < 256) :
    Ans (w.alloc (.cells #[.int .u8 z0, .int .u8 z1, .int .u8 z2, .int .u8 z3, .int .u8 z4] 5)) w.heap.size (some ⟨w.heap.size, 0, none⟩) 5 5 [x0, x1, x2, x3, x4] := by
  subst e0 e1 e2 e3 e4
  refine ⟨⟨rfl, .inr ⟨w.heap.size, 5, #[.int .u8 x0, .int .u8 x1, .int .u8 x2, .int .u8 x3, .int .u8 x4], rfl, Nat.zero_le _, heap_alloc_new w _, Nat.le_refl _, by decide, rfl, rfl⟩⟩, ?_, fun g hg => ?_⟩
  · intro x hx
    simp at hx
    omega
  · have e : w.heap.size = g := Option.some.inj hg
    omega
set_option maxHeartbeats 8000000 in
theorem robytes_any (cr : Int) (bp co : Bool) (sq : Int) (a : Option Addr) (n c : Nat) (D : List Nat) (w : World) (hR : Rd w a n c D) :
    Calls Try.prog 14 #[.agg (orA cr bp co sq a n c)] w fun e w' => ∃ a' n' c', e = .returned (.tuple #[.slice a' n' c', .int .i64 (orE cr bp co sq n : Nat)]) ∧ Ans w' w.heap.size a' n' c' (ordB cr bp co sq D) ∧ w.grownBy w' none := by
  have HL : Hid (D.length = n) := hR.len
  have hW := fun wz => rorder_any cr bp co sq a n c wz
  have b0 := BxS.new w 24 (orA cr bp co sq a n c)
  have g0 := World.grownBy_alloc w (.cells (orA cr bp co sq a n c) 24) none
  have t1 : True := trivial
  by_cases hE : orE cr bp co sq n = 0
  · obtain ⟨⟨r1, r2⟩, ⟨s1, s2⟩, _, n1, n2⟩ := orE_ok hE
    obtain ⟨cr, rfl⟩ := Int.eq_ofNat_of_zero_le r1
    obtain ⟨sq, rfl⟩ := Int.eq_ofNat_of_zero_le s1
    have HP : Hid (orP cr bp co sq D = [naN cr bp co / 256, naN cr bp co % 256, (n + 6) / 256, (n + 6) % 256, sq] ++ D) := by show _ = _; unfold orP hoL; rw [HL.out]; rfl
    have HO : Hid (ordB (cr : Int) bp co (sq : Int) D = orP cr bp co sq D ++ [sumB (orP cr bp co sq D) / 256, sumB (orP cr bp co sq D) % 256]) := by show _ = _; unfold ordB; rw [HL.out, if_pos hE]; rfl
    rw [hE] at hW ⊢
    have p1 := toNat_le bp
    have p2 := toNat_le co
    have hN : naN cr bp co < 65536 := by unfold naN; omega
    have hA : bits .or .i64 (bits .or .i64 ((bp.toNat : Int) * 8192) ((co.toNat : Int) * 4096)) (cr : Int) = ((naN cr bp co : Nat) : Int) := by
      rw [show ((bp.toNat : Int) * 8192) = ((bp.toNat * 2 ^ 13 : Nat) : Int) by omega, show ((co.toNat : Int) * 4096) = ((co.toNat * 4096 : Nat) : Int) by omega, or_put _ _ 13 (by omega) (by omega) (by omega),
        show bp.toNat * 2 ^ 13 + co.toNat * 4096 = (bp.toNat * 2 + co.toNat) * 2 ^ 12 by omega, or_put _ _ 12 (by omega) (by omega) (by omega)]
      unfold naN
      omega
    generalize naN cr bp co = N at HP hN hA
    generalize ordB (cr : Int) bp co (sq : Int) D = O at HO ⊢
    generalize orP cr bp co sq D = P at HO HP
    have hS := sumB_lt P
    unfold orA at hW b0 g0 ⊢
    generalize hw0 : w.alloc (.cells #[.int .i64 (cr : Int), .bool bp, .bool co, .int .i64 (sq : Int), .slice a n c] 24) = w0 at b0 g0
    obtain ⟨c0, c1, c2, c3, c4⟩ := b0.cell5
    go_enter Try.func14, Try.ntmps14
    go_wp2_with (first
      | (go_at_call 46; refine (hW _).mono ?_; rintro e w1 ⟨rfl, g1⟩; have g01 := grown_trans g0 g1; have b1 := b0.keep g1 (by simp); clear c0 c1 c2 c3 c4; obtain ⟨c0, c1, c2, c3, c4⟩ := b1.cell5))
    go_quiet ((go_at_call 47; exact Calls.quiet_of_same (bit_any _ _)))
    have g2 := grown_drewN w1 nq none
    have b2 := b1.keep g2 (by simp)
    have hR2 := (hR.keep g01).keep g2
    have G2 := grown_trans g01 g2
    generalize w1.drewN nq = w2 at g2 b2 hR2 G2 ⊢
    clear c0 c1 c2 c3 c4
    obtain ⟨c0, c1, c2, c3, c4⟩ := b2.cell5
    have hA5 := five_new w2 ((N : Int) / 256) ((N : Int) % 256) (((n : Int) + 6) / 256) (((n : Int) + 6) % 256) (sq : Int) (N / 256) (N % 256) ((n + 6) / 256) ((n + 6) % 256) sq (by omega) (by omega) (by omega) (by omega) rfl (by omega) (by omega) (by omega) (by omega) (by omega)
    have gA5 := World.grownBy_alloc w2 (.cells #[.int .u8 ((N : Int) / 256), .int .u8 ((N : Int) % 256), .int .u8 (((n : Int) + 6) / 256), .int .u8 (((n : Int) + 6) % 256), .int .u8 (sq : Int)] 5) none
    have hM5 : Mine w2 none (some ⟨w2.heap.size, 0, none⟩) 5 5 := fun g hg => .inr (by have e : w2.heap.size = g := Option.some.inj hg; omega)
    have hR5 := hR2.keep gA5
    have c5a : ∀ o, (w2.alloc o).cell? ⟨w.heap.size, 4, none⟩ = some (.slice a n c) := fun o => (b2.keep (World.grownBy_alloc w2 o none) (by simp)).cell5.2.2.2.2
    have t3 : True := trivial
    go_wp2_with (first
      | (at_builtin; have _t := t3; clear t3; refine wpList_join w2 _ rfl (.tmp 44) (.tmp 46) rfl (some ⟨w2.heap.size, 0, none⟩) 5 5 w2.heap.size none _ rfl hA5 gA5 hM5 (Nat.le_refl _) a n c D rfl hR5 (by omega) (by omega) ?_; intro gx cx w3 hA3 hG3 hM3; rw [← HP.out] at hA3)
      | (go_at_call 48; refine (rsum_any _ _ _ P w3 hA3.rd (by omega)).mono ?_; rintro e w4 ⟨rfl, g4⟩; have hA4 := hA3.keep g4; have hG4 := grown_trans hG3 g4; have gB := fun z0 z1 : Int => World.grownBy_alloc w4 (.cells #[.int .u8 z0, .int .u8 z1] 5) none; have t5 : True := trivial)
      | (at_builtin; have _t := t5; clear t5; refine wpList_join w2 _ rfl (.tmp 50) (.tmp 56) rfl _ _ _ w2.heap.size none P rfl (hA4.keep (gB _ _)) (grown_trans hG4 (gB _ _)) hM3 (Nat.le_refl _) _ 2 2 [sumB P / 256, sumB P % 256] rfl (rd_two w4 _ _ _ _ (by omega) (by omega) (by omega) (by omega)) (by decide) (by omega) ?_; intro gz cz w6 hA6 hG6 hM6))
    go_ret2
    exact ⟨_, _, _, rfl, by rw [HO.out]; exact hA6.wide G2.size, grown_trans G2 hG6⟩
  · have HO : Hid (ordB cr bp co sq D = []) := by show _ = _; unfold ordB; rw [HL.out, if_neg hE]
    generalize orE cr bp co sq n = E at hW hE ⊢
    generalize ordB cr bp co sq D = O at HO ⊢
    unfold orA at hW b0 g0 ⊢
    generalize hw0 : w.alloc (.cells #[.int .i64 cr, .bool bp, .bool co, .int .i64 sq, .slice a n c] 24) = w0 at b0 g0
    obtain ⟨c0, c1, c2, c3, c4⟩ := b0.cell5
    have hne : (((E : Int) != 0) : Bool) = true := by simp; omega
    go_enter Try.func14, Try.ntmps14
    go_wp2_with (first
      | (go_at_call 46; refine (hW _).mono ?_; rintro e w1 ⟨rfl, g1⟩))
    go_ret2
    exact ⟨_, _, _, rfl, by rw [HO.out]; exact ans_nil _ _, grown_trans g0 g1⟩
end Go.Proofs.Ytkjcpoapkkaagaa
