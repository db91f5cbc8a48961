import Derived.Test.YtkjcpoapkkaagaaKGt2
namespace Go.Proofs.Ytkjcpoapkkaagaa
open Go.RowKit
set_option maxRecDepth 100000
set_option linter.unusedVariables false
set_option linter.unusedSimpArgs false

/-- what a gate reports -/
def rpN (nx : Nat) (sh wa ag : Bool) (ct : Nat) : Nat := 16777216 + sh.toNat * 8192 + wa.toNat * 4096 + ag.toNat * 2048 + ct * 512 + nx
def rpV (cr nx ha : Int) (sh wa ag : Bool) (ct : Int) : Nat := if gtB cr nx ha ct = true then rpN nx.toNat sh wa ag ct.toNat else 0
def rpE (cr nx ha ct : Int) : Nat := if gtB cr nx ha ct = true then 0 else 11
theorem gtB_ok {cr nx ha ct : Int} (h : gtB cr nx ha ct = true) : (0 ≤ cr ∧ cr ≤ 1023) ∧ (0 ≤ nx ∧ nx ≤ 255) ∧ (1 ≤ ha ∧ ha ≤ 127) ∧ (0 ≤ ct ∧ ct ≤ 3) := by
  unfold gtB at h
  simp only [Bool.and_eq_true_iff] at h
  obtain ⟨⟨⟨a1, a2⟩, a3⟩, a4⟩ := h
  exact ⟨kwB_ok a1, kwB_ok a3, kwB_ok a2, kwB_ok a4⟩
theorem or_mid (r B : Nat) (hr : r < 2 ^ 11) (hB : B < 8) : (16777216 + r) ||| (B * 2048) = 16777216 + B * 2048 + r := by
  have e1 : (16777216 : Nat) + r = (1 * 2 ^ 24) ||| r := (or_nat 1 r 24 (by omega)).symm
  rw [e1, Nat.or_assoc, Nat.or_comm r, show B * 2048 = B * 2 ^ 11 from rfl, or_nat B r 11 hr, or_nat 1 _ 24 (by omega)]
  omega
set_option maxHeartbeats 4000000 in
theorem report_any (cr nx ha : Int) (sh wa ag : Bool) (ct : Int) (w : World) : Calls Try.prog 25 #[.agg (gtA cr nx ha sh wa ag ct)] w fun e w' => e = .returned (.tuple #[.int .i64 (rpV cr nx ha sh wa ag ct : Nat), .int .i64 (rpE cr nx ha ct : Nat)]) ∧ w.grownBy w' none := by
  have h0 := fun wz => gmay_any cr nx ha sh wa ag ct wz
  have b0 := BxS.new w 38 (gtA cr nx ha sh wa ag ct)
  have g0 := World.grownBy_alloc w (.cells (gtA cr nx ha sh wa ag ct) 38) none
  unfold rpV rpE
  have hok := @gtB_ok cr nx ha ct
  generalize gtB cr nx ha ct = b at h0 hok ⊢
  unfold gtA at h0 b0 g0 ⊢
  have t1 : True := trivial
  cases b
  · generalize hw0 : w.alloc (.cells #[.int .i64 cr, .int .i64 nx, .int .i64 ha, .bool sh, .bool wa, .bool ag, .int .i64 ct] 38) = w0 at b0 g0
    obtain ⟨c0, c1, c2, c3, c4, c5, c6⟩ := b0.cell7
    go_enter Try.func25, Try.ntmps25
    go_wp2_with (first
      | (go_at_call 59; have _t := t1; clear t1; refine (h0 _).mono ?_; rintro e w2 ⟨rfl, g2⟩))
    go_ret2
    exact ⟨rfl, grown_trans g0 g2⟩
  · obtain ⟨_, ⟨n1, n2⟩, _, ⟨k1, k2⟩⟩ := hok rfl
    clear hok
    obtain ⟨x, rfl⟩ := Int.eq_ofNat_of_zero_le n1
    obtain ⟨y, rfl⟩ := Int.eq_ofNat_of_zero_le k1
    rw [if_pos rfl, if_pos rfl, Int.toNat_natCast, Int.toNat_natCast]
    generalize hw0 : w.alloc (.cells #[.int .i64 cr, .int .i64 (x : Int), .int .i64 ha, .bool sh, .bool wa, .bool ag, .int .i64 (y : Int)] 38) = w0 at b0 g0
    obtain ⟨c0, c1, c2, c3, c4, c5, c6⟩ := b0.cell7
    have p1 := toNat_le sh
    have p2 := toNat_le wa
    have p3 := toNat_le ag
    have HR : Hid (rpN x sh wa ag y = 16777216 + (sh.toNat * 4 + wa.toNat * 2 + ag.toNat) * 2048 + (y * 512 + x)) := by show _ = _; unfold rpN; omega
    have hA : bits .or .i64 (bits .or .i64 16777216 ((y : Int) * 512)) (x : Int) = ((16777216 + (y * 512 + x) : Nat) : Int) := by
      have e1 : (16777216 : Int) = ((8192 * 2 ^ 11 : Nat) : Int) := rfl
      have e2 : ((y : Int) * 512) = ((y * 512 : Nat) : Int) := by omega
      rw [e1, e2, or_put _ _ 11 (by omega) (by omega) (by omega), show 8192 * 2 ^ 11 + y * 512 = (32768 + y) * 2 ^ 9 by omega, or_put _ _ 9 (by omega) (by omega) (by omega)]
      omega
    have hB : bits .or .i64 (bits .or .i64 ((sh.toNat : Int) * 8192) ((wa.toNat : Int) * 4096)) ((ag.toNat : Int) * 2048) = (((sh.toNat * 4 + wa.toNat * 2 + ag.toNat) * 2048 : Nat) : Int) := by
      have e1 : ((sh.toNat : Int) * 8192) = ((sh.toNat * 2 ^ 13 : Nat) : Int) := by omega
      have e2 : ((wa.toNat : Int) * 4096) = ((wa.toNat * 4096 : Nat) : Int) := by omega
      have e3 : ((ag.toNat : Int) * 2048) = ((ag.toNat * 2048 : Nat) : Int) := by omega
      rw [e1, e2, e3, or_put _ _ 13 (by omega) (by omega) (by omega), show sh.toNat * 2 ^ 13 + wa.toNat * 4096 = (sh.toNat * 2 + wa.toNat) * 2 ^ 12 by omega, or_put _ _ 12 (by omega) (by omega) (by omega)]
      omega
    have hC : bits .or .i64 ((16777216 + (y * 512 + x) : Nat) : Int) (((sh.toNat * 4 + wa.toNat * 2 + ag.toNat) * 2048 : Nat) : Int) = ((rpN x sh wa ag y : Nat) : Int) := by
      rw [HR.out, i64_or_n _ _ (by omega) (by omega), or_mid _ _ (by omega) (by omega)]
    have hl : rpN x sh wa ag y < 4294967296 := by have := HR.out; omega
    generalize rpN x sh wa ag y = R at hC hl ⊢
    generalize (sh.toNat * 4 + wa.toNat * 2 + ag.toNat) * 2048 = B at hB hC
    generalize 16777216 + (y * 512 + x) = A at hA hC
    clear HR
    go_enter Try.func25, Try.ntmps25
    go_wp2_with (first
      | (go_at_call 59; have _t := t1; clear t1; refine (h0 _).mono ?_; rintro e w2 ⟨rfl, g2⟩; clear c0 c1 c2 c3 c4 c5 c6; obtain ⟨c0, c1, c2, c3, c4, c5, c6⟩ := (b0.keep g2 (by simp)).cell7))
    go_quiet ((go_at_call 61; exact Calls.quiet_of_same (bitIf_any _ _ _)))
    go_wp2
    go_ret2
    exact ⟨rfl, grown_trans (grown_trans g0 g2) (grown_drewN w2 _ none)⟩
set_option maxHeartbeats 4000000 in
theorem rreport_any (cr nx ha : Int) (sh wa ag : Bool) (ct : Int) (w : World) : Calls Try.prog 24 #[.agg (gtA cr nx ha sh wa ag ct)] w fun e w' => e = .returned (.tuple #[.int .i64 (rpV cr nx ha sh wa ag ct : Nat), .int .i64 (rpE cr nx ha ct : Nat)]) ∧ w.grownBy w' none := by
  have h0 := fun wz => rgmay_any cr nx ha sh wa ag ct wz
  have b0 := BxS.new w 38 (gtA cr nx ha sh wa ag ct)
  have g0 := World.grownBy_alloc w (.cells (gtA cr nx ha sh wa ag ct) 38) none
  unfold rpV rpE
  have hok := @gtB_ok cr nx ha ct
  generalize gtB cr nx ha ct = b at h0 hok ⊢
  unfold gtA at h0 b0 g0 ⊢
  have t1 : True := trivial
  cases b
  · generalize hw0 : w.alloc (.cells #[.int .i64 cr, .int .i64 nx, .int .i64 ha, .bool sh, .bool wa, .bool ag, .int .i64 ct] 38) = w0 at b0 g0
    obtain ⟨c0, c1, c2, c3, c4, c5, c6⟩ := b0.cell7
    go_enter Try.func24, Try.ntmps24
    go_wp2_with (first
      | (go_at_call 60; have _t := t1; clear t1; refine (h0 _).mono ?_; rintro e w2 ⟨rfl, g2⟩))
    go_ret2
    exact ⟨rfl, grown_trans g0 g2⟩
  · obtain ⟨_, ⟨n1, n2⟩, _, ⟨k1, k2⟩⟩ := hok rfl
    clear hok
    obtain ⟨x, rfl⟩ := Int.eq_ofNat_of_zero_le n1
    obtain ⟨y, rfl⟩ := Int.eq_ofNat_of_zero_le k1
    rw [if_pos rfl, if_pos rfl, Int.toNat_natCast, Int.toNat_natCast]
    generalize hw0 : w.alloc (.cells #[.int .i64 cr, .int .i64 (x : Int), .int .i64 ha, .bool sh, .bool wa, .bool ag, .int .i64 (y : Int)] 38) = w0 at b0 g0
    obtain ⟨c0, c1, c2, c3, c4, c5, c6⟩ := b0.cell7
    have p1 := toNat_le sh
    have p2 := toNat_le wa
    have p3 := toNat_le ag
    have hA : bits .or .i64 (bits .or .i64 (bits .or .i64 (bits .or .i64 (bits .or .i64 16777216 ((sh.toNat : Int) * 8192)) ((wa.toNat : Int) * 4096)) ((ag.toNat : Int) * 2048)) ((y : Int) * 512)) (x : Int) = ((rpN x sh wa ag y : Nat) : Int) := by
      have e0 : (16777216 : Int) = ((1024 * 2 ^ 14 : Nat) : Int) := rfl
      have e1 : ((sh.toNat : Int) * 8192) = ((sh.toNat * 8192 : Nat) : Int) := by omega
      have e2 : ((wa.toNat : Int) * 4096) = ((wa.toNat * 4096 : Nat) : Int) := by omega
      have e3 : ((ag.toNat : Int) * 2048) = ((ag.toNat * 2048 : Nat) : Int) := by omega
      have e4 : ((y : Int) * 512) = ((y * 512 : Nat) : Int) := by omega
      rw [e0, e1, e2, e3, e4, or_put _ _ 14 (by omega) (by omega) (by omega), show 1024 * 2 ^ 14 + sh.toNat * 8192 = (2048 + sh.toNat) * 2 ^ 13 by omega, or_put _ _ 13 (by omega) (by omega) (by omega),
        show (2048 + sh.toNat) * 2 ^ 13 + wa.toNat * 4096 = (4096 + sh.toNat * 2 + wa.toNat) * 2 ^ 12 by omega, or_put _ _ 12 (by omega) (by omega) (by omega),
        show (4096 + sh.toNat * 2 + wa.toNat) * 2 ^ 12 + ag.toNat * 2048 = (8192 + sh.toNat * 4 + wa.toNat * 2 + ag.toNat) * 2 ^ 11 by omega, or_put _ _ 11 (by omega) (by omega) (by omega),
        show (8192 + sh.toNat * 4 + wa.toNat * 2 + ag.toNat) * 2 ^ 11 + y * 512 = (32768 + sh.toNat * 16 + wa.toNat * 8 + ag.toNat * 4 + y) * 2 ^ 9 by omega, or_put _ _ 9 (by omega) (by omega) (by omega)]
      unfold rpN
      omega
    have hl : rpN x sh wa ag y < 4294967296 := by unfold rpN; omega
    generalize rpN x sh wa ag y = R at hA hl ⊢
    go_enter Try.func24, Try.ntmps24
    go_wp2_with (first
      | (go_at_call 60; have _t := t1; clear t1; refine (h0 _).mono ?_; rintro e w2 ⟨rfl, g2⟩; clear c0 c1 c2 c3 c4 c5 c6; obtain ⟨c0, c1, c2, c3, c4, c5, c6⟩ := (b0.keep g2 (by simp)).cell7))
    go_quiet ((go_at_call 47; exact Calls.quiet_of_same (bit_any _ _)))
    go_wp2
    go_ret2
    exact ⟨rfl, grown_trans (grown_trans g0 g2) (grown_drewN w2 _ none)⟩
end Go.Proofs.Ytkjcpoapkkaagaa
