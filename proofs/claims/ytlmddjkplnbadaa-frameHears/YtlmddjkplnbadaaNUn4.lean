import Derived.Test.YtlmddjkplnbadaaNUn3
import Derived.Test.YtlmddjkplnbadaaPOf
namespace Go.Proofs.Ytlmddjkplnbadaa
open Go.RowKit
set_option maxRecDepth 100000
set_option linter.unusedVariables false
set_option linter.unusedSimpArgs false

set_option maxHeartbeats 1000000 in
theorem rsum_same (a : Option Addr) (n cap : Nat) (L : List Nat) (w : World) (h : Rd w a n cap L) (hn8 : n ≤ 1152921504606846975) :
    Calls Try.prog 14 #[.slice a n cap] w fun e w' => e = .returned (.int .i64 (sumB L : Nat)) ∧ w' = w := by
  have hn := h.max
  unfold maxLen at hn
  have hle := h.le
  go_enter Try.func14, Try.ntmps14
  go_wp2
  go_loop [3, 4] (fun s i => ∃ k : Nat, k ≤ 8 * n ∧ i = .int .i64 k ∧ s = .int .i64 (crN L k : Nat)) (fun _ i => 8 * n - (intOf i).toNat)
  case atStart => exact ⟨0, by omega, rfl, rfl⟩
  case round =>
    obtain ⟨k, hk, rfl, rfl⟩ := hrel
    have hS := crN_lt L k
    by_cases hlt : k < 8 * n
    · obtain ⟨c, q, hkq, hq⟩ : ∃ c q : Nat, k = 8 * c + q ∧ q < 8 := ⟨k / 8, k % 8, by omega, by omega⟩
      obtain ⟨p, hpj⟩ : ∃ p : Nat, p + q = 7 := ⟨7 - q, by omega⟩
      have hkn : c < n := by omega
      obtain ⟨b, off, rfl, hbw, hcc⟩ := h.at' (by omega)
      have hlk := hcc c hkn
      have hB : nth L c < 256 := h.byte.nth _
      have HB : Hid (crB L k = nth L c / 2 ^ p % 2) := by
        show _ = _
        unfold crB
        rw [show k / 8 = c from by omega, show k % 8 = q from by omega, show 7 - q = p from by omega]
      have HN : Hid (crN L (k + 1) = crS (crN L k) (crB L k)) := show _ = _ from rfl
      have hd1 : (k : Int) / 8 = (c : Int) := by omega
      have hd2 : (k : Int).tdiv 8 = (c : Int) := by rw [Int.tdiv_eq_ediv_of_nonneg (by omega)]; omega
      have hm1 : (k : Int) % 8 = (q : Int) := by omega
      have hm2 : (k : Int).tmod 8 = (q : Int) := by rw [Int.tmod_eq_emod_of_nonneg (by omega)]; omega
      have hs : (7 : Int) - (q : Int) = (p : Int) := by omega
      have hb : bits .and .i64 ((nth L c : Int) / (2 : Int) ^ p) 1 = ((nth L c / 2 ^ p % 2 : Nat) : Int) := by
        have e : ((nth L c : Int) / (2 : Int) ^ p) = ((nth L c / 2 ^ p : Nat) : Int) := by simp
        have hl : nth L c / 2 ^ p < 2 ^ 63 := Nat.lt_of_le_of_lt (Nat.div_le_self _ _) (by omega)
        have := i64_and_nat (nth L c / 2 ^ p) 1 hl (by decide)
        rw [e]; simp only [Int.natCast_one] at this; rw [this, Nat.and_one_is_mod]
      have hw : wrap64 ((nth L c : Int) / (2 : Int) ^ p) = (nth L c : Int) / (2 : Int) ^ p := by
        have e : ((nth L c : Int) / (2 : Int) ^ p) = ((nth L c / 2 ^ p : Nat) : Int) := by simp
        have hl : nth L c / 2 ^ p < 256 := Nat.lt_of_le_of_lt (Nat.div_le_self _ _) hB
        rw [e]; generalize nth L c / 2 ^ p = z at *
        unfold wrap64; omega
      have hv2 : nth L c / 2 ^ p % 2 < 2 := Nat.mod_lt _ (by decide)
      have hp8 : p < 8 := by omega
      generalize nth L c / 2 ^ p % 2 = v at *
      generalize crN L k = s at *
      have hx2 := xor_bit hv2 (show s / 32768 < 2 by omega)
      have hx : bits .xor .i64 (v : Int) ((s : Int) / 32768) = ((v ^^^ s / 32768 : Nat) : Int) := by
        rw [show ((s : Int) / 32768) = ((s / 32768 : Nat) : Int) by omega]
        exact i64_xor_nat _ _ (by omega) (by omega)
      have ha : bits .and .i64 ((s : Int) * 2) 65535 = ((s * 2 % 65536 : Nat) : Int) := by
        have := i64_and_nat (s * 2) 65535 (by omega) (by decide)
        rw [show ((s : Int) * 2) = ((s * 2 : Nat) : Int) by omega]
        refine this.trans ?_
        rw [show (65535 : Nat) = 2 ^ 16 - 1 from rfl, Nat.and_two_pow_sub_one_eq_mod]
      have hc : bits .xor .i64 ((s * 2 % 65536 : Nat) : Int) 4129 = ((s * 2 % 65536 ^^^ 4129 : Nat) : Int) := i64_xor_nat (s * 2 % 65536) 4129 (by omega) (by decide)
      have HC : Hid (crS s v = (s * 2 % 65536) ^^^ ((v ^^^ s / 32768) * 4129)) := show _ = _ from rfl
      generalize v ^^^ s / 32768 = x at *
      have hm : s * 2 % 65536 < 65536 := Nat.mod_lt _ (by decide)
      generalize s * 2 % 65536 = t at *
      clear hcc h hkq hpj
      obtain (rfl | rfl) : x = 0 ∨ x = 1 := by omega
      · have hx' : bits .xor .i64 (v : Int) ((s : Int) / 32768) = 0 := hx
        clear hx
        go_wp2
        go_round
        case rel => exact ⟨k + 1, by omega, by go_num, val_int (by rw [HN.out, HB.out, HC.out]; simp)⟩
        case measure => simp [intOf]; omega
      · have hx' : bits .xor .i64 (v : Int) ((s : Int) / 32768) = 1 := hx
        clear hx
        go_wp2
        go_round
        case rel => exact ⟨k + 1, by omega, by go_num, val_int (by rw [HN.out, HB.out, HC.out])⟩
        case measure => simp [intOf]; omega
    · obtain rfl : k = 8 * n := by omega
      have HE : Hid (sumB L = crN L (8 * n)) := by show _ = _; unfold sumB; rw [h.len]
      go_wp2
      go_ret
      exact ⟨by rw [HE.out]; rfl, rfl⟩
theorem num_four (B : List Nat) (m : Nat) (h : m + 4 ≤ B.length) : numB ((B.drop m).take 4) = nth B m * 16777216 + nth B (m + 1) * 65536 + nth B (m + 2) * 256 + nth B (m + 3) := by
  unfold numB
  rw [List.length_take, List.length_drop, show min 4 (B.length - m) = 4 by omega]
  have e : ∀ i, i < 4 → nth ((B.drop m).take 4) i = nth B (m + i) := fun i hi => by
    unfold nth
    rw [List.getD_eq_getElem?_getD, List.getElem?_take, if_pos hi, List.getElem?_drop, ← List.getD_eq_getElem?_getD]
  show (((0 * 256 + nth ((B.drop m).take 4) 0) * 256 + nth ((B.drop m).take 4) 1) * 256 + nth ((B.drop m).take 4) 2) * 256 + nth ((B.drop m).take 4) 3 = _
  rw [e 0 (by decide), e 1 (by decide), e 2 (by decide), e 3 (by decide), Nat.add_zero]
  omega
theorem or_four (v0 v1 v2 v3 : Nat) (h0 : v0 < 256) (h1 : v1 < 256) (h2 : v2 < 256) (h3 : v3 < 256) :
    bits .or .i64 (bits .or .i64 (bits .or .i64 ((v0 : Int) * 16777216) ((v1 : Int) * 65536)) ((v2 : Int) * 256)) (v3 : Int) = ((v0 * 16777216 + v1 * 65536 + v2 * 256 + v3 : Nat) : Int) := by
  have a1 := or_put v0 (v1 * 65536) 24 (by omega) (by omega) (by omega)
  have a2 := or_put (v0 * 256 + v1) (v2 * 256) 16 (by omega) (by omega) (by omega)
  have a3 := or_put (v0 * 65536 + v1 * 256 + v2) v3 8 (by omega) (by omega) (by omega)
  rw [show ((v0 : Int) * 16777216) = ((v0 * 2 ^ 24 : Nat) : Int) by omega, show ((v1 : Int) * 65536) = ((v1 * 65536 : Nat) : Int) by omega, a1, show v0 * 2 ^ 24 + v1 * 65536 = (v0 * 256 + v1) * 2 ^ 16 by omega, show ((v2 : Int) * 256) = ((v2 * 256 : Nat) : Int) by omega, a2, show (v0 * 256 + v1) * 2 ^ 16 + v2 * 256 = (v0 * 65536 + v1 * 256 + v2) * 2 ^ 8 by omega, a3]
set_option maxHeartbeats 8000000 in
theorem runpack_any (a : Option Addr) (n cap : Nat) (B : List Nat) (w : World) (hR : Rd w a n cap B) (hcap : n ≤ 140737488351232) :
    Calls Try.prog 19 #[.slice a n cap] w fun e w' => ∃ a' n' c', e = .returned (.tuple #[.agg (unV B), .slice a' n' c', .int .i64 (unS B : Nat), .int .i64 (unE B : Nat)]) ∧ Ans w' w.heap.size a' n' c' (unD B) ∧ w.grownBy w' none := by
  have HL : Hid (B.length = n) := hR.len
  have hle := hR.le
  have hmx := hR.max
  unfold maxLen at hmx
  have i5 := Try.info_hd
  have b0 := BxS.new w 28 (heA 0 0 0 0 0)
  have g0 := World.grownBy_alloc w (.cells (heA 0 0 0 0 0) 28) none
  unfold heA at b0 g0
  generalize hw0 : w.alloc (.cells #[.int .i64 0, .int .i64 0, .int .i64 0, .int .i64 0, .int .i64 0] 28) = w0 at b0 g0
  have t1 : True := trivial
  by_cases hs : siB (n : Int) = true
  · have hs' : 13 ≤ (n : Int) ∧ (n : Int) ≤ 2048 := of_decide_eq_true hs
    obtain ⟨hs1, hs2⟩ := hs'
    obtain ⟨m, rfl⟩ : ∃ m, n = m + 12 := ⟨n - 12, by omega⟩
    obtain ⟨b, off, rfl, hbw, _⟩ := hR.at' (by omega)
    have hR0 := hR.keep g0
    obtain ⟨_, _, e, hbw0, hc⟩ := hR0.at' (by omega)
    cases e
    have HE : Hid (unE B = if numB ((B.drop (m + 10)).take 2) = sumB (B.take (m + 10)) then (if unOk B then 0 else 8) else 9) := by
      show _ = _
      unfold unE
      rw [HL.out, if_pos hs, show m + 12 - 2 = m + 10 by omega, List.take_of_length_le (l := B.drop (m + 10)) (by rw [List.length_drop, HL.out]; omega)]
    rw [num_two B (m + 10) (by rw [HL.out]; omega), show m + 10 + 1 = m + 11 by omega] at HE
    have ca := hc (m + 10) (by omega)
    have cb := hc (m + 11) (by omega)
    have ka := hR.byte.nth (m + 10)
    have kb := hR.byte.nth (m + 11)
    have va : bits .or .i64 ((nth B (m + 10) : Int) * 256) (nth B (m + 11) : Int) = ((nth B (m + 10) * 256 + nth B (m + 11) : Nat) : Int) := by
      have := or_put (nth B (m + 10)) (nth B (m + 11)) 8 (by omega) (by omega) (by omega)
      simpa using this
    have hS1 := fun q => Calls.quiet_of_same (n := q) (rsum_same _ (m + 10) cap _ (w0.drewN q) ((hR0.keep (grown_drewN w0 q none)).cut (m := m + 10) (by omega)) (by omega))
    generalize sumB (B.take (m + 10)) = s2 at hS1 HE
    generalize nth B (m + 10) * 256 + nth B (m + 11) = s1 at va HE
    generalize nth B (m + 10) = xa at *
    generalize nth B (m + 11) = xb at *
    have z1 : ((m : Int) + 12 - 2) = ((m + 10 : Nat) : Int) := by omega
    have z2 : ((m : Int) + 12 - 1) = ((m + 11 : Nat) : Int) := by omega
    have z3 : (m : Int) + 10 < (m : Int) + 12 := by omega
    have z4 : (m : Int) + 11 < (m : Int) + 12 := by omega
    have z5 : ((m : Int) + 10).toNat = m + 10 := by omega
    have z6 : ((m : Int) + 11).toNat = m + 11 := by omega
    have z7 : IntKind.i64.wrap ((m : Int) + 12 - 2) = ((m + 10 : Nat) : Int) := by rw [z1]; exact wrap_i64_in _ (by omega) (by omega)
    have z8 : IntKind.i64.wrap ((m : Int) + 12 - 1) = ((m + 11 : Nat) : Int) := by rw [z2]; exact wrap_i64_in _ (by omega) (by omega)
    have m1 : 1 ≤ m := by omega
    have m2 : m ≤ 2036 := by omega
    clear hc hs hs1 hs2
    by_cases hss : s1 = s2
    · have hne : (((s2 : Int) != (s1 : Int)) : Bool) = false := by simp [hss]
      rw [if_pos hss] at HE
      clear hss
      go_enter Try.func19, Try.ntmps19
      go_wp2
      go_quiet (first | (go_at_call 14; with_reducible exact hS1 _))
      generalize hdr : w0.drewN nq = w1
      have g1 := grown_drewN w0 nq none
      rw [hdr] at g1
      have b1 := b0.keep g1 (by simp)
      have hR1 := hR0.keep g1
      clear hdr hS1 ca cb va z1 z2 z3 z4 z5 z6 z7 z8
      obtain ⟨_, _, e, hbw1, hc⟩ := hR1.at' (by omega)
      cases e
      have c0 := hc 0 (by omega)
      rw [Nat.add_zero] at c0
      have c1 := hc 1 (by omega); have c2 := hc 2 (by omega); have c3 := hc 3 (by omega); have c4 := hc 4 (by omega); have c5 := hc 5 (by omega)
      have k0 := hR.byte.nth 0; have k1 := hR.byte.nth 1; have k2 := hR.byte.nth 2; have k3 := hR.byte.nth 3; have k4 := hR.byte.nth 4; have k5 := hR.byte.nth 5
      have HX : Hid (unN B = nth B 0 * 256 + nth B 1 ∧ unF B = nth B 4 * 256 + nth B 5) := ⟨rfl, rfl⟩
      have va : bits .or .i64 ((nth B 0 : Int) * 256) (nth B 1 : Int) = ((nth B 0 * 256 + nth B 1 : Nat) : Int) := by
        have := or_put (nth B 0) (nth B 1) 8 (by omega) (by omega) (by omega)
        simpa using this
      have vb : bits .or .i64 ((nth B 4 : Int) * 256) (nth B 5 : Int) = ((nth B 4 * 256 + nth B 5 : Nat) : Int) := by
        have := or_put (nth B 4) (nth B 5) 8 (by omega) (by omega) (by omega)
        simpa using this
      generalize nth B 0 = x0 at *
      generalize nth B 1 = x1 at *
      generalize hq2 : nth B 2 = x2 at *
      generalize hq3 : nth B 3 = x3 at *
      have HQ2 : Hid _ := hq2
      have HQ3 : Hid _ := hq3
      clear hq2 hq3
      generalize nth B 4 = x4 at *
      generalize nth B 5 = x5 at *
      have hx : x0 * 256 + x1 < 65536 := by omega
      have hy : x4 * 256 + x5 < 65536 := by omega
      have HX := HX.out
      have HO : Hid (unOk B ↔ unN B / 16384 = 0 ∧ unN B % 2 = 1 ∧ unF B / 2048 = 3) := show _ ↔ _ from Iff.rfl
      rw [HX.1, HX.2] at HO
      have HX1 : Hid _ := HX.1
      have HX2 : Hid _ := HX.2
      clear HX
      generalize x0 * 256 + x1 = x at *
      generalize x4 * 256 + x5 = y at *
      have HC : Hid (∀ i, i < m + 12 → w1.cell? ⟨b, off + i, none⟩ = some (.int .u8 (nth B i : Nat))) := hc
      clear hc
      have i0 : (0 : Int) < (m : Int) + 12 := by omega
      have i1 : (1 : Int) < (m : Int) + 12 := by omega
      have i4 : (4 : Int) < (m : Int) + 12 := by omega
      have i5' : (5 : Int) < (m : Int) + 12 := by omega
      have j0 : 0 < m + 12 := by omega
      have j1 : 1 < m + 12 := by omega
      have j4 : 4 < m + 12 := by omega
      have j5 : 5 < m + 12 := by omega
      go_wp2
      go_quiet (fail)
      generalize hdr : w1.drewN nq = w2
      have g2 := grown_drewN w1 nq none
      rw [hdr] at g2
      clear hdr
      have c4 := cell_grown c4 g2 hbw1 (by simp)
      have c5 := cell_grown c5 g2 hbw1 (by simp)
      clear va
      go_wp2
      go_quiet (fail)
      generalize hdr : w2.drewN nq = w3
      have g3 := grown_drewN w2 nq none
      rw [hdr] at g3
      clear hdr
      have g13 := grown_trans g2 g3
      have c2 := cell_grown c2 g13 hbw1 (by simp)
      have c3 := cell_grown c3 g13 hbw1 (by simp)
      have b3 := b1.keep g13 (by simp)
      have hR3 := hR1.keep g13
      have hbw3 : b < w3.heap.size := Nat.lt_of_lt_of_le hbw1 g13.size
      have G3 := grown_trans (grown_trans g0 g1) g13
      clear vb c0 c1 c4 c5 hR1 b1 b0 hR0 g0 g1 g2 g3 g13 i0 i1 i4 i5' j0 j1 j4 j5 hw0 HC hbw1
      have vl : bits .and .i64 (x : Int) 1 = ((x % 2 : Nat) : Int) := low_and x 1 (by omega) (by decide)
      by_cases ho : unOk B
      · have ho' := HO.out.1 ho
        rw [if_pos ho] at HE
        have w1' : (((x : Int) / 16384 != 0) : Bool) = false := by
          have : (x : Int) / 16384 = 0 := by omega
          simp [this]
        have vl' : bits .and .i64 (x : Int) 1 = 1 := by rw [vl]; omega
        have w3' : (((y : Int) / 2048 != 3) : Bool) = false := by
          have : (y : Int) / 2048 = 3 := by omega
          simp [this]
        have u1 : bits .and .i64 ((x : Int) / 16) 1023 = ((x / 16 : Nat) : Int) := by
          have := low_and (x / 16) 10 (by omega) (by decide)
          rw [show x / 16 % 2 ^ 10 = x / 16 by omega] at this
          simpa using this
        have u2 : bits .and .i64 ((x : Int) / 2) 7 = ((x / 2 % 8 : Nat) : Int) := by
          have := low_and (x / 2) 3 (by omega) (by decide)
          simpa using this
        have u3 : bits .and .i64 (y : Int) 2047 = ((y % 2048 : Nat) : Int) := low_and y 11 (by omega) (by decide)
        have HV : Hid (unV B = heA (x / 16 : Nat) (x / 2 % 8 : Nat) (nth B 2 : Nat) (nth B 3 : Nat) (y % 2048 : Nat)) := by show _ = _; unfold unV; rw [HE.out, if_pos rfl, HX1.out, HX2.out]
        rw [HQ2.out, HQ3.out] at HV
        have HD : Hid (unD B = (B.drop 6).take m) := by show _ = _; unfold unD; rw [HE.out, if_pos rfl, HL.out]; rfl
        have HS : Hid (unS B = numB ((B.drop (m + 6)).take 4)) := by show _ = _; unfold unS; rw [HE.out, if_pos rfl, HL.out]; rfl
        have r2 : IntKind.i64.wrap (x2 : Int) = x2 := wrap_i64_in _ (by omega) (by omega)
        have r3 : IntKind.i64.wrap (x3 : Int) = x3 := wrap_i64_in _ (by omega) (by omega)
        have i2 : (2 : Int) < (m : Int) + 12 := by omega
        have i3 : (3 : Int) < (m : Int) + 12 := by omega
        have j2 : 2 < m + 12 := by omega
        have j3 : 3 < m + 12 := by omega
        clear vl ho' ho HO
        generalize x / 16 = p0 at *
        generalize x / 2 % 8 = p1 at *
        generalize y % 2048 = p4 at *
        go_wp2
        have KP : Hid (Rd w3 (some ⟨b, off, none⟩) (m + 12) cap B ∧ m + 12 ≤ cap ∧ b < w3.heap.size ∧ b ≠ w.heap.size) := ⟨hR3, hle, hbw3, by omega⟩
        have KB : Hid _ := b3
        have KG : Hid _ := G3
        clear hR3 hle hbw3 b3 G3 hR hmx hcap hbw0 hbw w1' vl' w3' i5
        go_region_held3 (fun w' => w'.cell? ⟨b, off + 2, none⟩ = some (.int .u8 (x2 : Int)) ∧ w'.cell? ⟨b, off + 3, none⟩ = some (.int .u8 (x3 : Int))) (go_keep) (fail)
        obtain ⟨hR3, hle, hbw3, hbm⟩ := KP.out
        have i5 := Try.info_hd
        have q3 := BxS.new w3 28 #[.int .i64 (p0 : Int), .int .i64 (p1 : Int), .int .i64 (x2 : Int), .int .i64 (x3 : Int), .int .i64 (p4 : Int)]
        have g4 := grown_trans (World.grownBy_alloc w3 (.cells #[.int .i64 (p0 : Int), .int .i64 (p1 : Int), .int .i64 (x2 : Int), .int .i64 (x3 : Int), .int .i64 (p4 : Int)] 28) none) (grown_drew _ none)
        have q4 := q3.keep (grown_drew _ none) (by simp)
        generalize (w3.alloc (.cells #[.int .i64 (p0 : Int), .int .i64 (p1 : Int), .int .i64 (x2 : Int), .int .i64 (x3 : Int), .int .i64 (p4 : Int)] 28)).drew = w4 at q4 g4 ⊢
        clear q3 u1 u2 u3 r2 r3 i2 i3 j2 j3 c2 c3
        have hR4 := hR3.keep g4
        have b4 := BxS.keep KB.out g4 (by simp)
        have G4 := grown_trans KG.out g4
        have hbw4 : b < w4.heap.size := Nat.lt_of_lt_of_le hbw3 g4.size
        have hgp : w.heap.size < w3.heap.size := BxS.lt KB.out
        have hby := hR4.byte
        obtain ⟨_, _, e, _, hc⟩ := hR4.at' (by omega)
        cases e
        have c0 := hc (m + 6) (by omega)
        have c1 := hc (m + 6 + 1) (by omega)
        have c2 := hc (m + 6 + 2) (by omega)
        have c3 := hc (m + 6 + 3) (by omega)
        rw [← Nat.add_assoc off (m + 6) _] at c1 c2 c3
        have HS := HS.out
        rw [num_four B (m + 6) (by rw [HL.out]; omega)] at HS
        have k0 := hby.nth (m + 6); have k1 := hby.nth (m + 6 + 1); have k2 := hby.nth (m + 6 + 2); have k3 := hby.nth (m + 6 + 3)
        generalize nth B (m + 6) = v0 at *
        generalize nth B (m + 6 + 1) = v1 at *
        generalize nth B (m + 6 + 2) = v2 at *
        generalize nth B (m + 6 + 3) = v3 at *
        have vf := or_four v0 v1 v2 v3 k0 k1 k2 k3
        have HS : Hid _ := HS
        generalize v0 * 16777216 + v1 * 65536 + v2 * 256 + v3 = st at *
        have z1 : ((m : Int) + 12 - 6) = ((m + 6 : Nat) : Int) := by omega
        have z2 : (m : Int) + 6 ≤ (m : Int) + 12 := by omega
        have z3 : (0 : Int) ≤ (m : Int) + 6 := by omega
        have z5 : ((m : Int) + 6).toNat = m + 6 := by omega
        have z6 : ¬ cap = m + 6 := by omega
        have z7 : m + 12 - (m + 6) = 6 := by omega
        clear hc hR3
        go_wp2
        go_quiet (fail)
        generalize hdr : w4.drewN nq = w5
        have g5 := grown_drewN w4 nq none
        rw [hdr] at g5
        clear hdr c0 c1 c2 c3 vf
        have hR5 := hR4.keep g5
        have b5 := b4.keep g5 (by simp)
        have q5 := q4.keep g5 (by simp)
        have G5 := grown_trans G4 g5
        have gD := grown_drew w5 none
        have qD := q5.keep gD (by simp)
        have bD := b5.keep gD (by simp)
        have hCl := (hR5.keep gD).part 6 m (by omega)
        obtain ⟨c0, c1, c2, c3, c4⟩ := q5.cell5
        obtain ⟨d0, d1, d2, d3, d4⟩ := b5.cell5
        have f0 := b5.free 0; have f1 := b5.free 1; have f2 := b5.free 2; have f3 := b5.free 3; have f4 := b5.free 4
        have y1 : (6 : Int) ≤ (m : Int) + 6 := by omega
        have y2 : (m : Int) + 6 ≤ (cap : Int) := by omega
        have y3 : m + 6 ≤ cap := by omega
        have q6 : ¬ cap = 6 := by omega
        have z8 : IntKind.i64.wrap ((m : Int) + 12 - 6) = ((m + 6 : Nat) : Int) := by rw [z1]; exact wrap_i64_in _ (by omega) (by omega)
        have z9 : IntKind.i64.wrap ((m : Int) + 6) = (m : Int) + 6 := wrap_i64_in _ (by omega) (by omega)
        clear hR4 b4 q4 G4 hR5 hbw4
        go_wp2
        go_region_law (first
          | (refine step_join w5 w5.drew rfl _ _ rfl none 0 0 w5.heap.size none _ rfl (ans_nil _ _) gD (fun q h => by simp [Value.ownBlock] at h) (Nat.le_refl _) _ m (cap - 6) _ rfl hCl (by omega) (by omega) ?_; intro gx cx w6 hA6 hG6 hM6; have p6 := q5.keep hG6 (by simp); have b6 := b5.keep hG6 (by simp); obtain ⟨c60, c61, c62, c63, c64⟩ := p6.cell5; obtain ⟨d60, d61, d62, d63, d64⟩ := b6.cell5; have f60 := b6.free 0; have f61 := b6.free 1; have f62 := b6.free 2; have f63 := b6.free 3; have f64 := b6.free 4))
        all_goals
          have b7 := b6.set5 (.int .i64 (p0 : Int)) (.int .i64 (p1 : Int)) (.int .i64 (x2 : Int)) (.int .i64 (x3 : Int)) (.int .i64 (p4 : Int))
          have g7 := set5_grown w6 w.heap.size (.int .i64 (p0 : Int)) (.int .i64 (p1 : Int)) (.int .i64 (x2 : Int)) (.int .i64 (x3 : Int)) (.int .i64 (p4 : Int))
          unfold set5 at b7 g7
          generalize ((((w6.setCell ⟨w.heap.size, 0, none⟩ (.int .i64 (p0 : Int))).setCell ⟨w.heap.size, 1, none⟩ (.int .i64 (p1 : Int))).setCell ⟨w.heap.size, 2, none⟩ (.int .i64 (x2 : Int))).setCell ⟨w.heap.size, 3, none⟩ (.int .i64 (x3 : Int))).setCell ⟨w.heap.size, 4, none⟩ (.int .i64 (p4 : Int)) = w9 at b7 g7 ⊢
          go_wp2
          have hz5 : w5.heap.size ≤ gx := hA6.new gx rfl
          have hz4 := q5.lt
          refine bodyPost_ret (results_cell4 rfl _ _ _ ⟨w.heap.size, 0, none⟩ _ (.slice (some ⟨gx, 0, none⟩) m cx) (.int .i64 (st : Nat)) (.int .i64 0) rfl (BxS.load (t := 28) b7 Try.underlying28 Try.info_hd) rfl rfl rfl) rfl ?_
          rw [Nat.zero_add, List.nil_append] at hA6
          refine ⟨some ⟨gx, 0, none⟩, m, cx, ?_, ?_, ?_⟩
          · rw [HE.out, HV.out, HS.out]; rfl
          · rw [HD.out]
            exact (hA6.kept g7 (.inr (by simp [Value.ownBlock]; omega))).wide (by omega)
          · exact grown_far (grown_trans G5 hG6) g7 (fun q e => by cases e; exact Nat.le_refl _)
      · have ho' : ¬ (x / 16384 = 0 ∧ x % 2 = 1 ∧ y / 2048 = 3) := fun h => ho (HO.out.2 h)
        rw [if_neg ho] at HE
        clear ho HO
        by_cases h1 : x / 16384 = 0
        · have w1' : (((x : Int) / 16384 != 0) : Bool) = false := by
            have : (x : Int) / 16384 = 0 := by omega
            simp [this]
          by_cases h2 : x % 2 = 1
          · have vl' : bits .and .i64 (x : Int) 1 = 1 := by rw [vl]; omega
            have w3' : (((y : Int) / 2048 != 3) : Bool) = true := by
              have : (y : Int) / 2048 ≠ 3 := by omega
              simpa using this
            clear vl h1 h2 ho'
            have t4 : True := trivial
            go_wp2_with (have _t := t4; refine wpList_stX _ rfl _ (.tmp 2) (.tmp 75) rfl w.heap.size _ _ rfl rfl b3 i5 rfl (by simp [Value.oneCell']) ?_; clear t4; intro w9 b9 g9)
            refine bodyPost_ret (results_cell4 rfl _ _ _ ⟨w.heap.size, 0, none⟩ _ (.slice none 0 0) (.int .i64 0) (.int .i64 8) rfl (BxS.load (t := 28) b9 Try.underlying28 Try.info_hd) rfl rfl rfl) rfl ?_
            obtain ⟨a', n', c', e, hA⟩ := un_no B 8 HE.out (by decide) w9 w.heap.size
            exact ⟨a', n', c', congrArg Ending.returned e, hA, grown_far (G3) g9 (fun q e => by cases e; exact Nat.le_refl _)⟩
          · have vl' : ((bits .and .i64 (x : Int) 1 != 1) : Bool) = true := by
              rw [vl]
              have : ((x % 2 : Nat) : Int) ≠ 1 := by omega
              simpa using this
            clear vl h1 h2 ho'
            have t4 : True := trivial
            go_wp2_with (have _t := t4; refine wpList_stX _ rfl _ (.tmp 2) (.tmp 75) rfl w.heap.size _ _ rfl rfl b3 i5 rfl (by simp [Value.oneCell']) ?_; clear t4; intro w9 b9 g9)
            refine bodyPost_ret (results_cell4 rfl _ _ _ ⟨w.heap.size, 0, none⟩ _ (.slice none 0 0) (.int .i64 0) (.int .i64 8) rfl (BxS.load (t := 28) b9 Try.underlying28 Try.info_hd) rfl rfl rfl) rfl ?_
            obtain ⟨a', n', c', e, hA⟩ := un_no B 8 HE.out (by decide) w9 w.heap.size
            exact ⟨a', n', c', congrArg Ending.returned e, hA, grown_far (G3) g9 (fun q e => by cases e; exact Nat.le_refl _)⟩
        · have w1' : (((x : Int) / 16384 != 0) : Bool) = true := by
            have : (x : Int) / 16384 ≠ 0 := by omega
            simpa using this
          clear vl h1 ho'
          have t4 : True := trivial
          go_wp2_with (have _t := t4; refine wpList_stX _ rfl _ (.tmp 2) (.tmp 75) rfl w.heap.size _ _ rfl rfl b3 i5 rfl (by simp [Value.oneCell']) ?_; clear t4; intro w9 b9 g9)
          refine bodyPost_ret (results_cell4 rfl _ _ _ ⟨w.heap.size, 0, none⟩ _ (.slice none 0 0) (.int .i64 0) (.int .i64 8) rfl (BxS.load (t := 28) b9 Try.underlying28 Try.info_hd) rfl rfl rfl) rfl ?_
          obtain ⟨a', n', c', e, hA⟩ := un_no B 8 HE.out (by decide) w9 w.heap.size
          exact ⟨a', n', c', congrArg Ending.returned e, hA, grown_far (G3) g9 (fun q e => by cases e; exact Nat.le_refl _)⟩
    · have hne : (((s2 : Int) != (s1 : Int)) : Bool) = true := by simp; omega
      rw [if_neg hss] at HE
      clear hss
      go_enter Try.func19, Try.ntmps19
      go_wp2
      go_quiet (first | (go_at_call 14; with_reducible exact hS1 _))
      generalize hdr : w0.drewN nq = w1
      have g1 := grown_drewN w0 nq none
      rw [hdr] at g1
      have b1 := b0.keep g1 (by simp)
      clear hdr hS1 ca cb va z1 z2 z3 z4 z5 z6 z7 z8
      have t4 : True := trivial
      go_wp2_with (have _t := t4; refine wpList_stX _ rfl _ (.tmp 2) (.tmp 41) rfl w.heap.size _ _ rfl rfl b1 i5 rfl (by simp [Value.oneCell']) ?_; clear t4; intro w9 b9 g9)
      refine bodyPost_ret (results_cell4 rfl _ _ _ ⟨w.heap.size, 0, none⟩ _ (.slice none 0 0) (.int .i64 0) (.int .i64 9) rfl (BxS.load (t := 28) b9 Try.underlying28 Try.info_hd) rfl rfl rfl) rfl ?_
      obtain ⟨a', n', c', e, hA⟩ := un_no B 9 HE.out (by decide) w9 w.heap.size
      exact ⟨a', n', c', congrArg Ending.returned e, hA, grown_far (grown_trans g0 g1) g9 (fun q e => by cases e; exact Nat.le_refl _)⟩
  · have HE : Hid (unE B = 1) := by show _ = _; unfold unE; rw [HL.out, if_neg hs]
    have hs' : ¬ (13 ≤ (n : Int) ∧ (n : Int) ≤ 2048) := fun h => hs (decide_eq_true h)
    clear hs
    by_cases h1 : n < 13
    · clear hs'
      go_enter Try.func19, Try.ntmps19
      have t4 : True := trivial
      go_wp2_with (have _t := t4; refine wpList_stX _ rfl _ (.tmp 2) (.tmp 20) rfl w.heap.size _ _ rfl rfl b0 i5 rfl (by simp [Value.oneCell']) ?_; clear t4; intro w9 b9 g9)
      refine bodyPost_ret (results_cell4 rfl _ _ _ ⟨w.heap.size, 0, none⟩ _ (.slice none 0 0) (.int .i64 0) (.int .i64 1) rfl (BxS.load (t := 28) b9 Try.underlying28 Try.info_hd) rfl rfl rfl) rfl ?_
      obtain ⟨a', n', c', e, hA⟩ := un_no B 1 HE.out (by decide) w9 w.heap.size
      exact ⟨a', n', c', congrArg Ending.returned e, hA, grown_far (g0) g9 (fun q e => by cases e; exact Nat.le_refl _)⟩
    · have h2 : 2048 < n := by omega
      clear hs'
      go_enter Try.func19, Try.ntmps19
      have t4 : True := trivial
      go_wp2_with (have _t := t4; refine wpList_stX _ rfl _ (.tmp 2) (.tmp 20) rfl w.heap.size _ _ rfl rfl b0 i5 rfl (by simp [Value.oneCell']) ?_; clear t4; intro w9 b9 g9)
      refine bodyPost_ret (results_cell4 rfl _ _ _ ⟨w.heap.size, 0, none⟩ _ (.slice none 0 0) (.int .i64 0) (.int .i64 1) rfl (BxS.load (t := 28) b9 Try.underlying28 Try.info_hd) rfl rfl rfl) rfl ?_
      obtain ⟨a', n', c', e, hA⟩ := un_no B 1 HE.out (by decide) w9 w.heap.size
      exact ⟨a', n', c', congrArg Ending.returned e, hA, grown_far (g0) g9 (fun q e => by cases e; exact Nat.le_refl _)⟩
end Go.Proofs.Ytlmddjkplnbadaa
