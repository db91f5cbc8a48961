import Derived.Test.YtlmddjkplnbadaaPDec
import Derived.Deep.RegionHeld3
namespace Go.Proofs.Ytlmddjkplnbadaa
open Go.RowKit
set_option maxRecDepth 100000
set_option linter.unusedVariables false
set_option linter.unusedSimpArgs false

theorem u8_and_n (a k : Nat) (ha : a < 256) (hk : k ≤ 8) : bits .and .u8 (a : Int) ((2 ^ k - 1 : Nat) : Int) = ((a % 2 ^ k : Nat) : Int) := by
  have h := u8_and_nat a (2 ^ k - 1) ha (by have : 2 ^ k ≤ 2 ^ 8 := Nat.pow_le_pow_right (by decide) hk; omega)
  rw [h, Nat.and_two_pow_sub_one_eq_mod]
/-- an answer's memory is younger than what was there -/
theorem sp_ne {w : World} {lo g : Nat} {a : Option Addr} {n cap : Nat} {L : List Nat} (h : Ans w lo a n cap L) (hg : g < lo) : some g ≠ (Value.slice a n cap).ownBlock := by
  intro e
  have := h.new g e.symm
  omega
theorem beq_one (q : Nat) : decide (q = 1) = ((q : Int) == 1) := by
  by_cases h : q = 1
  · subst h; rfl
  · rw [decide_eq_false h]
    have : ¬ ((q : Int) = 1) := by omega
    simp [this]
set_option maxHeartbeats 8000000 in
theorem packetOf_any (a : Option Addr) (n cap : Nat) (B : List Nat) (w : World) (hR : Rd w a n cap B) (hn : n ≤ 140737488355328) :
    Calls Try.prog 64 #[.slice a n cap] w fun e w' => ∃ a' n' c', e = .returned (.tuple #[pkV (dcU B) (dcS B) (dcA B : Nat) (dcP B : Nat) (dcC B : Nat) a' n' c', .int .i64 (dcK B : Nat), .int .i64 (dcE B : Nat)]) ∧ Ans w' w.heap.size a' n' c' (dcD B) ∧ w.grownBy w' none := by
  have HL : Hid (B.length = n) := hR.len
  have hle := hR.le
  have hmx := hR.max
  unfold maxLen at hmx
  have b0 := BxP.new w false false 0 0 0 none 0 0
  have g0 := World.grownBy_alloc w (.cells #[.bool false, .bool false, .int .i64 0, .int .i64 0, .int .i64 0, .slice none 0 0] 64) none
  by_cases h6 : n < 6
  · have HE : Hid (dcE B = 7) := by show _ = _; unfold dcE; rw [HL.out, if_pos h6]
    have d6 : decide ((n : Int) < 6) = true := decide_eq_true (by omega)
    go_enter Try.func64, Try.ntmps64
    go_wp2
    refine bodyPost_ret (results_cell3 rfl _ _ _ ⟨w.heap.size, 0, none⟩ _ (.int .i64 0) (.int .i64 7) rfl (BxS.load (t := 64) b0 Try.underlying64 Try.info_pk) rfl rfl) rfl ?_
    obtain ⟨a', n', c', e, hA⟩ := dc_no B 7 HE.out (by decide) (w.alloc (.cells #[.bool false, .bool false, .int .i64 0, .int .i64 0, .int .i64 0, .slice none 0 0] 64)) w.heap.size
    exact ⟨a', n', c', congrArg Ending.returned e, hA, g0⟩
  · have d6 : decide ((n : Int) < 6) = false := decide_eq_false (by omega)
    obtain ⟨b, off, rfl, hbw, hc⟩ := hR.at' (by omega)
    have hB := hR.byte
    have i6 := Try.info_pk
    generalize hw0 : w.alloc (.cells #[.bool false, .bool false, .int .i64 0, .int .i64 0, .int .i64 0, .slice none 0 0] 64) = w0 at b0 g0
    have hc0 : ∀ i, i < n → w0.cell? ⟨b, off + i, none⟩ = some (.int .u8 (nth B i : Nat)) := fun i hi => by
      rw [← hc i hi]
      unfold World.cell?
      rw [g0.block b hbw (by simp)]
    obtain ⟨x0, q0⟩ : ∃ x, nth B 0 = x := ⟨_, rfl⟩
    obtain ⟨x1, q1⟩ : ∃ x, nth B 1 = x := ⟨_, rfl⟩
    obtain ⟨x2, q2⟩ : ∃ x, nth B 2 = x := ⟨_, rfl⟩
    obtain ⟨x3, q3⟩ : ∃ x, nth B 3 = x := ⟨_, rfl⟩
    obtain ⟨x4, q4⟩ : ∃ x, nth B 4 = x := ⟨_, rfl⟩
    obtain ⟨x5, q5⟩ : ∃ x, nth B 5 = x := ⟨_, rfl⟩
    have EH : Hid (hdV B 6 = ((((x0 * 256 + x1) * 256 + x2) * 256 + x3) * 256 + x4) * 256 + x5) := by
      show _ = _
      simp only [hdV, q0, q1, q2, q3, q4, q5]
      omega
    have k0 := hB.nth 0; have k1 := hB.nth 1; have k2 := hB.nth 2; have k3 := hB.nth 3; have k4 := hB.nth 4; have k5 := hB.nth 5
    have c0 := hc0 0 (by omega); have c1 := hc0 1 (by omega); have c2 := hc0 2 (by omega); have c3 := hc0 3 (by omega); have c4 := hc0 4 (by omega); have c5 := hc0 5 (by omega)
    rw [q0] at k0 c0; rw [q1] at k1 c1; rw [q2] at k2 c2; rw [q3] at k3 c3; rw [q4] at k4 c4; rw [q5] at k5 c5
    rw [Nat.add_zero] at c0
    clear hc0 hc q0 q1 q2 q3 q4 q5
    by_cases hfo : x0 / 32 = 0
    · have d1 : (((x0 : Int) / 32 != 0) : Bool) = false := by
        have : (x0 : Int) / 32 = 0 := by omega
        simp [this]
      by_cases hlen : n < 7 + (x4 * 256 + x5)
      · have HE : Hid (dcE B = 7) := by
          show _ = _
          unfold dcE
          rw [HL.out, EH.out, if_neg h6, if_neg (by omega), if_pos (by omega)]
        have d2 : decide ((n : Int) < 7 + (x4 : Int) * 256 + (x5 : Int)) = true := decide_eq_true (by omega)
        go_enter Try.func64, Try.ntmps64
        go_wp2
        go_quiet (fail)
        generalize hdr : w0.drewN nq = w1
        have g1 := grown_drewN w0 nq none
        rw [hdr] at g1
        have b1 := b0.keep g1 (by simp)
        have t2 : True := trivial
        go_wp2_with (have _t := t2; refine wpList_stX _ rfl _ (.tmp 2) (.tmp 32) rfl w.heap.size _ _ rfl rfl b1 i6 rfl (by simp [Value.oneCell']) ?_; clear t2; intro w2 b2 g2)
        refine bodyPost_ret (results_cell3 rfl _ _ _ ⟨w.heap.size, 0, none⟩ _ (.int .i64 0) (.int .i64 7) rfl (BxS.load (t := 64) b2 Try.underlying64 Try.info_pk) rfl rfl) rfl ?_
        obtain ⟨a', n', c', e, hA⟩ := dc_no B 7 HE.out (by decide) w2 w.heap.size
        exact ⟨a', n', c', congrArg Ending.returned e, hA, grown_far (grown_trans g0 g1) g2 (fun g e => by cases e; exact Nat.le_refl _)⟩
      · obtain ⟨N, hN⟩ : ∃ N, N = x4 * 256 + x5 := ⟨_, rfl⟩
        have d2 : decide ((n : Int) < 7 + (x4 : Int) * 256 + (x5 : Int)) = false := decide_eq_false (by omega)
        have d3 : decide ((n : Int) < (N : Int) + 7) = false := decide_eq_false (by omega)
        have hN7 : 7 + (x4 : Int) * 256 + (x5 : Int) = ((N + 7 : Nat) : Int) := by omega
        have v1 : bits .and .u8 ((x0 : Int) / 16) 1 = ((x0 / 16 % 2 : Nat) : Int) := by
          have := u8_and_n (x0 / 16) 1 (by omega) (by decide)
          simpa using this
        have v2 : bits .and .u8 ((x0 : Int) / 8) 1 = ((x0 / 8 % 2 : Nat) : Int) := by
          have := u8_and_n (x0 / 8) 1 (by omega) (by decide)
          simpa using this
        have v3 : bits .and .u8 (x0 : Int) 7 = ((x0 % 8 : Nat) : Int) := by
          have := u8_and_n x0 3 (by omega) (by decide)
          simpa using this
        have v4 : bits .and .u8 (x2 : Int) 63 = ((x2 % 64 : Nat) : Int) := by
          have := u8_and_n x2 6 (by omega) (by decide)
          simpa using this
        have v5 : bits .or .i64 (((x0 % 8 : Nat) : Int) * 256) (x1 : Int) = ((x0 % 8 * 256 + x1 : Nat) : Int) := by
          have := or_put (x0 % 8) x1 8 (by omega) (by omega) (by omega)
          simpa using this
        have v6 : bits .or .i64 (((x2 % 64 : Nat) : Int) * 256) (x3 : Int) = ((x2 % 64 * 256 + x3 : Nat) : Int) := by
          have := or_put (x2 % 64) x3 8 (by omega) (by omega) (by omega)
          simpa using this
        obtain ⟨up, u1⟩ : ∃ u, (((x0 / 16 % 2 : Nat) : Int) == 1) = u := ⟨_, rfl⟩
        obtain ⟨se, u2⟩ : ∃ u, (((x0 / 8 % 2 : Nat) : Int) == 1) = u := ⟨_, rfl⟩
        obtain ⟨m1, u3⟩ : ∃ u, x0 / 16 % 2 = u := ⟨_, rfl⟩
        obtain ⟨m2, u4⟩ : ∃ u, x0 / 8 % 2 = u := ⟨_, rfl⟩
        obtain ⟨m3, u5⟩ : ∃ u, x0 % 8 = u := ⟨_, rfl⟩
        obtain ⟨m4, u6⟩ : ∃ u, x2 % 64 = u := ⟨_, rfl⟩
        obtain ⟨pt, u7⟩ : ∃ u, x2 / 64 = u := ⟨_, rfl⟩
        obtain ⟨ap, u8⟩ : ∃ u, x0 % 8 * 256 + x1 = u := ⟨_, rfl⟩
        obtain ⟨ct, u9⟩ : ∃ u, x2 % 64 * 256 + x3 = u := ⟨_, rfl⟩
        rw [u8, u5] at v5
        rw [u9, u6] at v6
        rw [u3] at v1 u1
        rw [u4] at v2 u2
        rw [u5] at v3
        rw [u6] at v4
        have hpt : (x2 : Int) / 64 = (pt : Int) := by omega
        have HE : Hid (dcE B = 0 ∧ dcU B = up ∧ dcS B = se ∧ dcA B = ap ∧ dcP B = pt ∧ dcC B = ct ∧ dcK B = N + 7 ∧ dcD B = (B.drop 6).take (N + 1)) := by
          have h0 : dcE B = 0 := by
            unfold dcE
            rw [HL.out, EH.out, if_neg h6, if_neg (by omega), if_neg (by omega)]
          unfold dcU dcS dcA dcP dcC dcK dcD
          rw [if_pos h0, if_pos h0, if_pos h0, if_pos h0, if_pos h0, if_pos h0, if_pos h0, EH.out]
          refine ⟨h0, ?_, ?_, by omega, by omega, by omega, by omega, ?_⟩
          · rw [← u1, ← u3]
            have : (((((x0 * 256 + x1) * 256 + x2) * 256 + x3) * 256 + x4) * 256 + x5) / 2 ^ 44 % 2 = x0 / 16 % 2 := by omega
            rw [this]
            exact beq_one _
          · rw [← u2, ← u4]
            have : (((((x0 * 256 + x1) * 256 + x2) * 256 + x3) * 256 + x4) * 256 + x5) / 2 ^ 43 % 2 = x0 / 8 % 2 := by omega
            rw [this]
            exact beq_one _
          · congr 1
            omega
        have hm1 : m1 < 2 := by omega
        have hm2 : m2 < 2 := by omega
        have hm3 : m3 < 8 := by omega
        have hm4 : m4 < 64 := by omega
        have hap : ap < 2048 := by omega
        have hct : ct < 16384 := by omega
        have hpt4 : pt < 4 := by omega
        have hNn : N + 7 ≤ n := by omega
        have HN : Hid (N = x4 * 256 + x5) := hN
        clear u3 u4 u5 u6 u7 u8 u9 hN hfo
        go_enter Try.func64, Try.ntmps64
        go_wp2
        go_quiet (fail)
        generalize hdr : w0.drewN nq = w1
        have g1 := grown_drewN w0 nq none
        rw [hdr] at g1
        have b1 := b0.keep g1 (by simp)
        have hcc : ∀ i, w1.cell? ⟨b, i, none⟩ = w0.cell? ⟨b, i, none⟩ := fun i => by
          unfold World.cell?
          rw [g1.block b (Nat.lt_of_lt_of_le hbw g0.size) (by simp)]
        rw [← hcc] at c0 c1 c2 c3 c4 c5
        clear hdr hcc
        go_wp2
        have j0 : (0 : Int) < (n : Int) := by omega
        have j1 : (1 : Int) < (n : Int) := by omega
        have j2 : (2 : Int) < (n : Int) := by omega
        have j3 : (3 : Int) < (n : Int) := by omega
        have l0 : 0 < n := by omega
        have l1 : 1 < n := by omega
        have l2 : 2 < n := by omega
        have l3 : 3 < n := by omega
        have KP : Hid (BxP w1 w.heap.size false false 0 0 0 none 0 0 ∧ w.grownBy w1 none ∧ Rd w1 (some ⟨b, off, none⟩) n cap B ∧ N + 7 ≤ n ∧ w.heap.size < w1.heap.size ∧ n ≤ cap) := ⟨b1, grown_trans g0 g1, hR.keep (grown_trans g0 g1), hNn, Nat.lt_of_lt_of_le b0.lt g1.size, hle⟩
        have r1 : IntKind.i64.wrap (m3 : Int) = m3 := wrap_i64_in _ (by omega) (by omega)
        have r2 : IntKind.i64.wrap ((m3 : Int) * 256) = (m3 : Int) * 256 := wrap_i64_in _ (by omega) (by omega)
        have r3 : IntKind.i64.wrap (m4 : Int) = m4 := wrap_i64_in _ (by omega) (by omega)
        have r4 : IntKind.i64.wrap ((m4 : Int) * 256) = (m4 : Int) * 256 := wrap_i64_in _ (by omega) (by omega)
        have r5 : IntKind.i64.wrap (x1 : Int) = x1 := wrap_i64_in _ (by omega) (by omega)
        have r6 : IntKind.i64.wrap (x3 : Int) = x3 := wrap_i64_in _ (by omega) (by omega)
        have r7 : IntKind.i64.wrap (pt : Int) = pt := wrap_i64_in _ (by omega) (by omega)
        clear hR hw0 hB g0 g1 b1 b0 c4 c5 d1 d2 d3 hN7 k4 k5 hmx hle hNn HN EH HL hlen h6 d6 hbw i6
        go_region_held3 (fun w' => w'.cell? ⟨b, off, none⟩ = some (.int .u8 (x0 : Int)) ∧ w'.cell? ⟨b, off + 1, none⟩ = some (.int .u8 (x1 : Int)) ∧ w'.cell? ⟨b, off + 2, none⟩ = some (.int .u8 (x2 : Int)) ∧ w'.cell? ⟨b, off + 3, none⟩ = some (.int .u8 (x3 : Int))) (go_keep) (fail)
        obtain ⟨b1, g01, hR1, hNn, hs1, hle⟩ := KP.out
        have i6 := Try.info_pk
        have p2 := BxP.new w1 up se (ap : Int) (pt : Int) (ct : Int) none 0 0
        have gA := World.grownBy_alloc w1 (.cells #[.bool up, .bool se, .int .i64 (ap : Int), .int .i64 (pt : Int), .int .i64 (ct : Int), .slice none 0 0] 64) none
        generalize w1.alloc (.cells #[.bool up, .bool se, .int .i64 (ap : Int), .int .i64 (pt : Int), .int .i64 (ct : Int), .slice none 0 0] 64) = w2 at p2 gA ⊢
        have gD := grown_drew w2 none
        have g12 := grown_trans gA gD
        have p3 := p2.keep gD (by simp)
        generalize w2.drew = w3 at gD g12 p3 ⊢
        have b3 := b1.keep g12 (by simp)
        have hR3 := (hR1.keep g12).part 6 (N + 1) (by omega)
        have hz3 : w1.heap.size < w3.heap.size := p3.lt
        have t1 : True := trivial
        have h6n : (6 : Int) ≤ (N : Int) + 7 := by omega
        have hto : ((N : Int) + 7).toNat = N + 7 := by omega
        clear v1 v2 v3 v4 v5 v6 u1 u2 hpt r1 r2 r3 r4 r5 r6 r7 j0 j1 j2 j3 l0 l1 l2 l3 k0 k1 k2 k3 hm1 hm2 hm3 hm4
        go_wp2_with (first
          | (at_builtin; have _t := t1; refine wpList_clB w3 rfl _ _ rfl rfl (some ⟨b, off + 6, none⟩) (N + 1) (cap - 6) _ rfl hR3 (by omega) ?_; clear t1; intro ax cx w4 g4 hA4; have p4 := p3.keep g4 (by simp); have b4 := b3.keep g4 (by simp); have t2 : True := trivial)
          | (have _t := t2; refine wpList_stC _ rfl _ (.tmp 77) (.tmp 76) rfl w1.heap.size 5 _ _ _ _ rfl rfl p4 (stc_sl _ _ _ _ _) (by simp) rfl ?_; clear t2; intro w5 p5 g5; have b5 := b4.keep g5 (by simp; omega); have t3 : True := trivial)
          | (have _t := t3; refine wpList_ldX _ rfl _ (.tmp 6) rfl w1.heap.size _ rfl p5 Try.underlying64 i6 ?_; clear t3; have t4 : True := trivial)
          | (have _t := t4; refine wpList_stX _ rfl _ (.tmp 2) (.tmp 78) rfl w.heap.size _ _ rfl rfl b5 i6 rfl (by simp [Value.oneCell']) ?_; clear t4; intro w6 b6 g6))
        have hA6 := ((hA4.kept g5 (.inr (Ne.symm (sp_ne hA4 hz3)))).kept g6 (.inr (Ne.symm (sp_ne hA4 (Nat.lt_trans hs1 hz3)))))
        refine bodyPost_ret (results_cell3 rfl _ _ _ ⟨w.heap.size, 0, none⟩ _ (.int .i64 ((N : Int) + 7)) (.int .i64 0) rfl (BxS.load (t := 64) b6 Try.underlying64 Try.info_pk) rfl rfl) rfl ?_
        obtain ⟨e0, e1, e2, e3, e4, e5, e6, e7⟩ := HE.out
        refine ⟨ax, N + 1, cx, ?_, ?_, ?_⟩
        · rw [e0, e1, e2, e3, e4, e5, e6]; rfl
        · rw [e7]
          exact hA6.wide (Nat.le_of_lt (Nat.lt_trans hs1 hz3))
        · exact grown_far (grown_far (grown_trans g01 (grown_trans g12 g4)) g5 (fun g e => by cases e; omega)) g6 (fun g e => by cases e; exact Nat.le_refl _)
    · have HE : Hid (dcE B = 8) := by
        show _ = _
        unfold dcE
        rw [HL.out, EH.out, if_neg h6, if_pos (by omega)]
      have d1 : (((x0 : Int) / 32 != 0) : Bool) = true := by
        have : (x0 : Int) / 32 ≠ 0 := by omega
        simp; omega
      have t2 : True := trivial
      go_enter Try.func64, Try.ntmps64
      go_wp2_with (have _t := t2; refine wpList_stX _ rfl _ (.tmp 2) (.tmp 16) rfl w.heap.size _ _ rfl rfl b0 i6 rfl (by simp [Value.oneCell']) ?_; clear t2; intro w2 b2 g2)
      refine bodyPost_ret (results_cell3 rfl _ _ _ ⟨w.heap.size, 0, none⟩ _ (.int .i64 0) (.int .i64 8) rfl (BxS.load (t := 64) b2 Try.underlying64 Try.info_pk) rfl rfl) rfl ?_
      obtain ⟨a', n', c', e, hA⟩ := dc_no B 8 HE.out (by decide) w2 w.heap.size
      exact ⟨a', n', c', congrArg Ending.returned e, hA, grown_far g0 g2 (fun g e => by cases e; exact Nat.le_refl _)⟩
end Go.Proofs.Ytlmddjkplnbadaa
