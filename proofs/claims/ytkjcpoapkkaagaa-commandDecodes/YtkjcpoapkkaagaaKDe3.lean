import Derived.Test.YtkjcpoapkkaagaaKDe2
import Derived.Deep.RegionHeld3
namespace Go.Proofs.Ytkjcpoapkkaagaa
open Go.RowKit
set_option maxRecDepth 100000
set_option linter.unusedVariables false
set_option linter.unusedSimpArgs false

set_option maxHeartbeats 1000000 in
theorem ksum_same (a : Option Addr) (n cap : Nat) (L : List Nat) (w : World) (h : Rd w a n cap L) (hn8 : n ≤ 1152921504606846975) :
    Calls Try.prog 48 #[.slice a n cap] w fun e w' => e = .returned (.int .i64 (sumB L : Nat)) ∧ w' = w := by
  have hn := h.max
  unfold maxLen at hn
  have hle := h.le
  go_enter Try.func48, Try.ntmps48
  go_wp2
  go_loop [3, 4] (fun s i => ∃ k : Nat, k ≤ 8 * n ∧ i = .int .i64 k ∧ s = .int .i64 (crN L k : Nat)) (fun _ i => 8 * n - (intOf i).toNat)
  case atStart => exact ⟨0, by omega, rfl, rfl⟩
  case round =>
    obtain ⟨k, hk, rfl, rfl⟩ := hrel
    have hS := crN_lt L k
    by_cases hlt : k < 8 * n
    · obtain ⟨c, q, hkq, hq⟩ : ∃ c q : Nat, k = 8 * c + q ∧ q < 8 := ⟨k / 8, k % 8, by omega, by omega⟩
      obtain ⟨p, hpj⟩ : ∃ p : Nat, p + q = 7 := ⟨7 - q, by omega⟩
      have hkn : c < n := by omega
      obtain ⟨b, off, rfl, hbw, hcc⟩ := h.at' (by omega)
      have hlk := hcc c hkn
      have hB : nth L c < 256 := h.byte.nth _
      have HB : Hid (crB L k = nth L c / 2 ^ p % 2) := by
        show _ = _
        unfold crB
        rw [show k / 8 = c from by omega, show k % 8 = q from by omega, show 7 - q = p from by omega]
      have HN : Hid (crN L (k + 1) = crS (crN L k) (crB L k)) := show _ = _ from rfl
      have hd1 : (k : Int) / 8 = (c : Int) := by omega
      have hd2 : (k : Int).tdiv 8 = (c : Int) := by rw [Int.tdiv_eq_ediv_of_nonneg (by omega)]; omega
      have hm1 : (k : Int) % 8 = (q : Int) := by omega
      have hm2 : (k : Int).tmod 8 = (q : Int) := by rw [Int.tmod_eq_emod_of_nonneg (by omega)]; omega
      have hs : (7 : Int) - (q : Int) = (p : Int) := by omega
      have hb : bits .and .i64 ((nth L c : Int) / (2 : Int) ^ p) 1 = ((nth L c / 2 ^ p % 2 : Nat) : Int) := by
        have e : ((nth L c : Int) / (2 : Int) ^ p) = ((nth L c / 2 ^ p : Nat) : Int) := by simp
        have hl : nth L c / 2 ^ p < 2 ^ 63 := Nat.lt_of_le_of_lt (Nat.div_le_self _ _) (by omega)
        have := i64_and_nat (nth L c / 2 ^ p) 1 hl (by decide)
        rw [e]; simp only [Int.natCast_one] at this; rw [this, Nat.and_one_is_mod]
      have hw : wrap64 ((nth L c : Int) / (2 : Int) ^ p) = (nth L c : Int) / (2 : Int) ^ p := by
        have e : ((nth L c : Int) / (2 : Int) ^ p) = ((nth L c / 2 ^ p : Nat) : Int) := by simp
        have hl : nth L c / 2 ^ p < 256 := Nat.lt_of_le_of_lt (Nat.div_le_self _ _) hB
        rw [e]; generalize nth L c / 2 ^ p = z at *
        unfold wrap64; omega
      have hv2 : nth L c / 2 ^ p % 2 < 2 := Nat.mod_lt _ (by decide)
      have hp8 : p < 8 := by omega
      generalize nth L c / 2 ^ p % 2 = v at *
      generalize crN L k = s at *
      have hx2 := xor_bit hv2 (show s / 32768 < 2 by omega)
      have hx : bits .xor .i64 (v : Int) ((s : Int) / 32768) = ((v ^^^ s / 32768 : Nat) : Int) := by
        rw [show ((s : Int) / 32768) = ((s / 32768 : Nat) : Int) by omega]
        exact i64_xor_nat _ _ (by omega) (by omega)
      have ha : bits .and .i64 ((s : Int) * 2) 65535 = ((s * 2 % 65536 : Nat) : Int) := by
        have := i64_and_nat (s * 2) 65535 (by omega) (by decide)
        rw [show ((s : Int) * 2) = ((s * 2 : Nat) : Int) by omega]
        refine this.trans ?_
        rw [show (65535 : Nat) = 2 ^ 16 - 1 from rfl, Nat.and_two_pow_sub_one_eq_mod]
      have hc : bits .xor .i64 ((s * 2 % 65536 : Nat) : Int) 4129 = ((s * 2 % 65536 ^^^ 4129 : Nat) : Int) := i64_xor_nat (s * 2 % 65536) 4129 (by omega) (by decide)
      have HC : Hid (crS s v = (s * 2 % 65536) ^^^ ((v ^^^ s / 32768) * 4129)) := show _ = _ from rfl
      generalize v ^^^ s / 32768 = x at *
      have hm : s * 2 % 65536 < 65536 := Nat.mod_lt _ (by decide)
      generalize s * 2 % 65536 = t at *
      clear hcc h hkq hpj
      obtain (rfl | rfl) : x = 0 ∨ x = 1 := by omega
      · have hx' : bits .xor .i64 (v : Int) ((s : Int) / 32768) = 0 := hx
        clear hx
        go_wp2
        go_round
        case rel => exact ⟨k + 1, by omega, by go_num, val_int (by rw [HN.out, HB.out, HC.out]; simp)⟩
        case measure => simp [intOf]; omega
      · have hx' : bits .xor .i64 (v : Int) ((s : Int) / 32768) = 1 := hx
        clear hx
        go_wp2
        go_round
        case rel => exact ⟨k + 1, by omega, by go_num, val_int (by rw [HN.out, HB.out, HC.out])⟩
        case measure => simp [intOf]; omega
    · obtain rfl : k = 8 * n := by omega
      have HE : Hid (sumB L = crN L (8 * n)) := by show _ = _; unfold sumB; rw [h.len]
      go_wp2
      go_ret
      exact ⟨by rw [HE.out]; rfl, rfl⟩
theorem ofInt_u8 (a : Nat) (ha : a < 256) : (BitVec.ofInt 8 (a : Int)).toNat = a := by
  rw [BitVec.toNat_ofInt]; omega
theorem u8_low (a k : Nat) (ha : a < 256) (hk : k ≤ 7) : bits .and .u8 (a : Int) ((2 ^ k - 1 : Nat) : Int) = ((a % 2 ^ k : Nat) : Int) := by
  have hp : 2 ^ k ≤ 128 := Nat.pow_le_pow_right (n := 2) (by decide) hk
  show IntKind.u8.wrap ((BitVec.ofInt 8 (a : Int) &&& BitVec.ofInt 8 ((2 ^ k - 1 : Nat) : Int)).toNat : Int) = _
  rw [BitVec.toNat_and, ofInt_u8 a ha, ofInt_u8 _ (by omega), Nat.and_two_pow_sub_one_eq_mod, IntKind.wrap_u8']
  have h1 : a % 2 ^ k < 2 ^ k := Nat.mod_lt _ (Nat.two_pow_pos k)
  generalize a % 2 ^ k = x at h1
  omega
set_option maxHeartbeats 32000000 in
theorem rdec_any (a : Option Addr) (n c : Nat) (B : List Nat) (w : World) (hR : Rd w a n c B) :
    Calls Try.prog 18 #[.slice a n c] w fun e w' => ∃ a' n' c', e = .returned (.tuple #[.agg (deA B a' n' c'), .int .i64 (deE B : Nat)]) ∧ Ans w' w.heap.size a' n' c' (deD B) ∧ w.grownBy w' none := by
  have HL : Hid (B.length = n) := hR.len
  have hle := hR.le
  have hmx := hR.max
  unfold maxLen at hmx
  have B0 := BxS.new w 24 (orA 0 false false 0 none 0 0)
  have g0 := World.grownBy_alloc w (.cells (orA 0 false false 0 none 0 0) 24) none
  unfold orA at B0 g0
  generalize hw0 : w.alloc (.cells #[.int .i64 0, .bool false, .bool false, .int .i64 0, .slice none 0 0] 24) = w0 at B0 g0
  have hR0 := hR.keep g0
  have i5 := Try.info_or
  have t2 : True := trivial
  by_cases k0 : n < 8
  · have hE : deE B = 1 := by unfold deE; rw [if_neg]; intro h; have h2 : 8 ≤ B.length ∧ B.length ≤ 1024 ∧ toN B = B.length := of_decide_eq_true h; rw [HL.out] at h2; omega
    obtain ⟨e1, e2⟩ := de_no hE (by decide)
    have HE : Hid (deE B = 1) := hE
    have HD : Hid (deD B = []) := e1
    have HA : Hid (deA B none 0 0 = orA 0 false false 0 none 0 0) := e2
    clear e1 e2 hE
    have l0 : decide ((n : Int) < 8) = true := decide_eq_true (by omega)
    go_enter Try.func18, Try.ntmps18
    go_wp2
    go_quiet (fail)
    have q1 := grown_drewN w0 nq none
    have B1 := B0.keep q1 (by simp)
    have hR1 := hR0.keep q1
    generalize w0.drewN nq = w1 at q1 B1 hR1 ⊢
    go_wp2_with (first
      | (have _t := t2; refine wpList_stX _ rfl _ (.tmp 2) (.tmp 31) rfl w.heap.size _ _ rfl rfl B1 i5 rfl (by simp [Value.oneCell']) ?_; clear t2; intro w9 b9 g9))
    refine bodyPost_ret (results_cell1t rfl _ _ _ ⟨w.heap.size, 0, none⟩ _ (.int .i64 1) rfl (BxS.load (t := 24) b9 Try.underlying24 Try.info_or) rfl) rfl ?_
    exact ⟨none, 0, 0, by rw [HA.out, HE.out]; rfl, by rw [HD.out]; exact ans_nil _ _, grown_far (grown_trans g0 q1) g9 (fun q e => by cases e; exact Nat.le_refl _)⟩
  have l0 : decide ((n : Int) < 8) = false := decide_eq_false (by omega)
  by_cases k1 : 1024 < n
  · have hE : deE B = 1 := by unfold deE; rw [if_neg]; intro h; have h2 : 8 ≤ B.length ∧ B.length ≤ 1024 ∧ toN B = B.length := of_decide_eq_true h; rw [HL.out] at h2; omega
    obtain ⟨e1, e2⟩ := de_no hE (by decide)
    have HE : Hid (deE B = 1) := hE
    have HD : Hid (deD B = []) := e1
    have HA : Hid (deA B none 0 0 = orA 0 false false 0 none 0 0) := e2
    clear e1 e2 hE
    have l1 : decide ((1024 : Int) < (n : Int)) = true := decide_eq_true (by omega)
    go_enter Try.func18, Try.ntmps18
    go_wp2
    go_quiet (fail)
    have q1 := grown_drewN w0 nq none
    have B1 := B0.keep q1 (by simp)
    have hR1 := hR0.keep q1
    generalize w0.drewN nq = w1 at q1 B1 hR1 ⊢
    go_wp2_with (first
      | (have _t := t2; refine wpList_stX _ rfl _ (.tmp 2) (.tmp 31) rfl w.heap.size _ _ rfl rfl B1 i5 rfl (by simp [Value.oneCell']) ?_; clear t2; intro w9 b9 g9))
    refine bodyPost_ret (results_cell1t rfl _ _ _ ⟨w.heap.size, 0, none⟩ _ (.int .i64 1) rfl (BxS.load (t := 24) b9 Try.underlying24 Try.info_or) rfl) rfl ?_
    exact ⟨none, 0, 0, by rw [HA.out, HE.out]; rfl, by rw [HD.out]; exact ans_nil _ _, grown_far (grown_trans g0 q1) g9 (fun q e => by cases e; exact Nat.le_refl _)⟩
  have l1 : decide ((1024 : Int) < (n : Int)) = false := decide_eq_false (by omega)
  obtain ⟨m, rfl⟩ : ∃ m, n = m + 2 := ⟨n - 2, by omega⟩
  have l0 : decide ((m : Int) + 2 < 8) = false := decide_eq_false (by omega)
  have l1 : decide (1024 < (m : Int) + 2) = false := decide_eq_false (by omega)
  obtain ⟨b, off, rfl, hbw', hcc'⟩ := hR.at' (by omega)
  obtain ⟨b_, off_, hbe, hbw, hcc⟩ := hR0.at' (by omega)
  obtain ⟨rfl, rfl⟩ : b = b_ ∧ off = off_ := by cases hbe; exact ⟨rfl, rfl⟩
  clear hcc' hbe
  have X : ∀ wz : World, w0.grownBy wz none → wz.cell? ⟨b, off + m, none⟩ = some (.int .u8 (nth B m : Nat)) ∧ wz.cell? ⟨b, off + (m + 1), none⟩ = some (.int .u8 (nth B (m + 1) : Nat)) := fun wz hz => ⟨cell_grown (hcc m (by omega)) hz hbw (by simp), cell_grown (hcc (m + 1) (by omega)) hz hbw (by simp)⟩
  have Y : ∀ wz : World, w0.grownBy wz none → wz.cell? ⟨b, off, none⟩ = some (.int .u8 (nth B 0 : Nat)) ∧ wz.cell? ⟨b, off + 1, none⟩ = some (.int .u8 (nth B 1 : Nat)) ∧ wz.cell? ⟨b, off + 2, none⟩ = some (.int .u8 (nth B 2 : Nat)) ∧ wz.cell? ⟨b, off + 3, none⟩ = some (.int .u8 (nth B 3 : Nat)) ∧ wz.cell? ⟨b, off + 4, none⟩ = some (.int .u8 (nth B 4 : Nat)) := fun wz hz => ⟨cell_grown (hcc 0 (by omega)) hz hbw (by simp), cell_grown (hcc 1 (by omega)) hz hbw (by simp), cell_grown (hcc 2 (by omega)) hz hbw (by simp), cell_grown (hcc 3 (by omega)) hz hbw (by simp), cell_grown (hcc 4 (by omega)) hz hbw (by simp)⟩
  clear hcc
  have b0 := hR.byte.nth 0
  have b1 := hR.byte.nth 1
  have b2 := hR.byte.nth 2
  have b3 := hR.byte.nth 3
  have b4 := hR.byte.nth 4
  have bm := hR.byte.nth m
  have bm1 := hR.byte.nth (m + 1)
  have v2 : bits .and .u8 (nth B 2 : Int) 3 = ((nth B 2 % 4 : Nat) : Int) := u8_low (nth B 2) 2 b2 (by decide)
  have v23 : bits .or .i64 (((nth B 2 % 4 : Nat) : Int) * 256) (nth B 3 : Int) = ((toN B - 1 : Nat) : Int) := by
    rw [show (((nth B 2 % 4 : Nat) : Int) * 256) = ((nth B 2 % 4 * 2 ^ 8 : Nat) : Int) by omega, or_put _ _ 8 (by omega) (by omega) (by omega)]
    unfold toN
    omega
  have hT1 : toN B ≤ 1024 := by unfold toN; omega
  have hT2 : 1 ≤ toN B := by unfold toN; omega
  obtain ⟨T, hT⟩ : ∃ T, toN B = T + 1 := ⟨toN B - 1, by omega⟩
  rw [hT, Nat.add_sub_cancel] at v23
  have hx24 : nth B 2 % 4 < 4 := Nat.mod_lt _ (by decide)
  have hm1 : (m : Int) + 2 - 1 = (m : Int) + 1 := by omega
  have hm2 : (m : Int) + 2 - 2 = (m : Int) := by omega
  obtain ⟨y0, y1, y2, y3, y4⟩ := Y w0 (World.grownBy.refl _ _)
  by_cases kT : T = m + 1
  case neg =>
    have hE : deE B = 1 := by unfold deE; rw [if_neg]; intro h; have h2 : 8 ≤ B.length ∧ B.length ≤ 1024 ∧ toN B = B.length := of_decide_eq_true h; rw [HL.out] at h2; omega
    obtain ⟨e1, e2⟩ := de_no hE (by decide)
    have HE : Hid (deE B = 1) := hE
    have HD : Hid (deD B = []) := e1
    have HA : Hid (deA B none 0 0 = orA 0 false false 0 none 0 0) := e2
    clear e1 e2 hE
    have l2 : (((T : Int) != (m : Int) + 1) : Bool) = true := by simp; omega
    generalize nth B 2 % 4 = p at v2 v23 hx24
    generalize nth B 2 = x2 at *
    generalize nth B 3 = x3 at *
    clear X Y kT
    go_enter Try.func18, Try.ntmps18
    go_wp2
    go_quiet (fail)
    have q1 := grown_drewN w0 nq none
    have B1 := B0.keep q1 (by simp)
    have hR1 := hR0.keep q1
    generalize w0.drewN nq = w1 at q1 B1 hR1 ⊢
    go_wp2_with (first
      | (have _t := t2; refine wpList_stX _ rfl _ (.tmp 2) (.tmp 31) rfl w.heap.size _ _ rfl rfl B1 i5 rfl (by simp [Value.oneCell']) ?_; clear t2; intro w9 b9 g9))
    refine bodyPost_ret (results_cell1t rfl _ _ _ ⟨w.heap.size, 0, none⟩ _ (.int .i64 1) rfl (BxS.load (t := 24) b9 Try.underlying24 Try.info_or) rfl) rfl ?_
    exact ⟨none, 0, 0, by rw [HA.out, HE.out]; rfl, by rw [HD.out]; exact ans_nil _ _, grown_far (grown_trans g0 q1) g9 (fun q e => by cases e; exact Nat.le_refl _)⟩
  subst kT
  have hs : deS B = true := decide_eq_true (by rw [HL.out]; exact ⟨by omega, by omega, hT⟩)
  have HM : Hid (deM B = decide (sumB (B.take m) = nth B m * 256 + nth B (m + 1))) := by show _ = _; unfold deM; rw [HL.out]; rfl
  have hSu := fun wz (hz : Rd wz (some ⟨b, off, none⟩) (m + 2) c B) => ksum_same (some ⟨b, off, none⟩) m c (B.take m) wz (hz.cut (by omega)) (by omega)
  have hsl := sumB_lt (B.take m)
  have va : bits .or .i64 ((nth B m : Int) * 256) (nth B (m + 1) : Int) = ((nth B m * 256 + nth B (m + 1) : Nat) : Int) := by
    rw [show ((nth B m : Int) * 256) = ((nth B m * 2 ^ 8 : Nat) : Int) by omega, or_put _ _ 8 (by omega) (by omega) (by omega)]
  generalize sumB (B.take m) = S at hSu HM hsl
  have hNl : nth B m * 256 + nth B (m + 1) < 65536 := by omega
  generalize nth B m * 256 + nth B (m + 1) = N at va HM hNl
  generalize nth B m = xm at X va bm
  generalize nth B (m + 1) = xm1 at X va bm1
  have hp := hx24
  generalize hpp : nth B 2 % 4 = p at v2 v23 hx24 hp
  have hpp : Hid (nth B 2 % 4 = p) := hpp
  by_cases hM : S = N
  case neg =>
    have hE : deE B = 9 := by unfold deE; rw [if_pos hs, HM.out, decide_eq_false hM, if_neg (by decide)]
    obtain ⟨e1, e2⟩ := de_no hE (by decide)
    have HE : Hid (deE B = 9) := hE
    have HD : Hid (deD B = []) := e1
    have HA : Hid (deA B none 0 0 = orA 0 false false 0 none 0 0) := e2
    clear e1 e2 hE
    have lM : (((S : Int) != (N : Int)) : Bool) = true := by simp; omega
    clear hM HM
    go_enter Try.func18, Try.ntmps18
    go_wp2
    go_quiet (fail)
    have q1 := grown_drewN w0 nq none
    have B1 := B0.keep q1 (by simp)
    have hR1 := hR0.keep q1
    generalize w0.drewN nq = w1 at q1 B1 hR1 ⊢
    have hS1 := fun q => Calls.quiet_of_same (n := q) (hSu (w1.drewN q) (hR1.keep (grown_drewN w1 q none)))
    obtain ⟨xa, xb⟩ := X w1 q1
    go_wp2
    go_quiet (first | (go_at_call 48; with_reducible exact hS1 _))
    have q2 := grown_drewN w1 nq none
    have B2 := B1.keep q2 (by simp)
    have q12 := grown_trans q1 q2
    generalize w1.drewN nq = w2 at q2 B2 q12 ⊢
    clear hS1 xa xb
    go_wp2_with (first
      | (have _t := t2; refine wpList_stX _ rfl _ (.tmp 2) (.tmp 52) rfl w.heap.size _ _ rfl rfl B2 i5 rfl (by simp [Value.oneCell']) ?_; clear t2; intro w9 b9 g9))
    refine bodyPost_ret (results_cell1t rfl _ _ _ ⟨w.heap.size, 0, none⟩ _ (.int .i64 9) rfl (BxS.load (t := 24) b9 Try.underlying24 Try.info_or) rfl) rfl ?_
    exact ⟨none, 0, 0, by rw [HA.out, HE.out]; rfl, by rw [HD.out]; exact ans_nil _ _, grown_far (grown_trans g0 q12) g9 (fun q e => by cases e; exact Nat.le_refl _)⟩
  have hMt : deM B = true := by rw [HM.out]; exact decide_eq_true hM
  subst hM
  clear HM
  have hE : deE B = if fmB B && !(coB B && !bpB B) then 0 else 8 := by unfold deE; rw [if_pos hs, if_pos hMt]
  have u5 : (bits .and .u8 ((nth B 0 : Int) / 32) 1 == 1) = bpB B := by
    rw [show ((nth B 0 : Int) / 32) = ((nth B 0 / 32 : Nat) : Int) by omega, show bits .and .u8 ((nth B 0 / 32 : Nat) : Int) 1 = ((nth B 0 / 32 % 2 : Nat) : Int) from u8_low (nth B 0 / 32) 1 (by omega) (by decide)]
    unfold bpB nmN
    rw [show (nth B 0 * 256 + nth B 1) / 8192 = nth B 0 / 32 by omega]
    rcases (show nth B 0 / 32 % 2 = 0 ∨ nth B 0 / 32 % 2 = 1 by omega) with e | e <;> rw [e] <;> rfl
  have u4 : (bits .and .u8 ((nth B 0 : Int) / 16) 1 == 1) = coB B := by
    rw [show ((nth B 0 : Int) / 16) = ((nth B 0 / 16 : Nat) : Int) by omega, show bits .and .u8 ((nth B 0 / 16 : Nat) : Int) 1 = ((nth B 0 / 16 % 2 : Nat) : Int) from u8_low (nth B 0 / 16) 1 (by omega) (by decide)]
    unfold coB nmN
    rw [show (nth B 0 * 256 + nth B 1) / 4096 = nth B 0 / 16 by omega]
    rcases (show nth B 0 / 16 % 2 = 0 ∨ nth B 0 / 16 % 2 = 1 by omega) with e | e <;> rw [e] <;> rfl
  have u2 : bits .and .u8 ((nth B 0 : Int) / 4) 3 = ((nth B 0 / 4 % 4 : Nat) : Int) := by
    rw [show ((nth B 0 : Int) / 4) = ((nth B 0 / 4 : Nat) : Int) by omega]
    exact u8_low (nth B 0 / 4) 2 (by omega) (by decide)
  generalize hbpv : bpB B = BP at u5 hE
  generalize hcov : coB B = CO at u4 hE
  have hbpv : Hid (bpB B = BP) := hbpv
  have hcov : Hid (coB B = CO) := hcov
  have lS : (((S : Int) != (S : Int)) : Bool) = false := by simp
  by_cases f1 : nth B 0 / 64 = 0
  case neg =>
    have hE : deE B = 8 := by rw [hE, show fmB B = false from decide_eq_false (fun h => f1 h.1)]; rfl
    obtain ⟨e1, e2⟩ := de_no hE (by decide)
    have HE : Hid (deE B = 8) := hE
    have HD : Hid (deD B = []) := e1
    have HA : Hid (deA B none 0 0 = orA 0 false false 0 none 0 0) := e2
    clear e1 e2 hE
    have lF : (((nth B 0 : Int) / 64 != 0) : Bool) = true := bne_iff_ne.2 (by omega)
    clear f1
    go_enter Try.func18, Try.ntmps18
    go_wp2
    go_quiet (fail)
    have q1 := grown_drewN w0 nq none
    have B1 := B0.keep q1 (by simp)
    have hR1 := hR0.keep q1
    generalize w0.drewN nq = w1 at q1 B1 hR1 ⊢
    have hS1 := fun q => Calls.quiet_of_same (n := q) (hSu (w1.drewN q) (hR1.keep (grown_drewN w1 q none)))
    obtain ⟨xa, xb⟩ := X w1 q1
    go_wp2
    go_quiet (first | (go_at_call 48; with_reducible exact hS1 _))
    have q2 := grown_drewN w1 nq none
    have B2 := B1.keep q2 (by simp)
    have q12 := grown_trans q1 q2
    generalize w1.drewN nq = w2 at q2 B2 q12 ⊢
    clear hS1 xa xb
    obtain ⟨y0, y1, y2, y3, y4⟩ := Y w2 q12
    go_wp2
    go_quiet (fail)
    have q3 := grown_drewN w2 nq none
    have B3 := B2.keep q3 (by simp)
    have q13 := grown_trans q12 q3
    generalize w2.drewN nq = w3 at q3 B3 q13 ⊢
    clear y0 y1 y2 y3 y4
    obtain ⟨y0, y1, y2, y3, y4⟩ := Y w3 q13
    go_wp2_with (first
      | (have _t := t2; refine wpList_stX _ rfl _ (.tmp 2) (.tmp 92) rfl w.heap.size _ _ rfl rfl B3 i5 rfl (by simp [Value.oneCell']) ?_; clear t2; intro w9 b9 g9))
    refine bodyPost_ret (results_cell1t rfl _ _ _ ⟨w.heap.size, 0, none⟩ _ (.int .i64 8) rfl (BxS.load (t := 24) b9 Try.underlying24 Try.info_or) rfl) rfl ?_
    exact ⟨none, 0, 0, by rw [HA.out, HE.out]; rfl, by rw [HD.out]; exact ans_nil _ _, grown_far (grown_trans g0 q13) g9 (fun q e => by cases e; exact Nat.le_refl _)⟩
  have lF1 : (((nth B 0 : Int) / 64 != 0) : Bool) = false := by rw [show (nth B 0 : Int) / 64 = 0 by omega]; rfl
  by_cases f2 : nth B 0 / 4 % 4 = 0
  case neg =>
    have hE : deE B = 8 := by rw [hE, show fmB B = false from decide_eq_false (fun h => f2 h.2.1)]; rfl
    obtain ⟨e1, e2⟩ := de_no hE (by decide)
    have HE : Hid (deE B = 8) := hE
    have HD : Hid (deD B = []) := e1
    have HA : Hid (deA B none 0 0 = orA 0 false false 0 none 0 0) := e2
    clear e1 e2 hE
    generalize nth B 0 / 4 % 4 = r at u2 f2
    have lF : (((r : Int) != 0) : Bool) = true := by simp; omega
    clear f2
    go_enter Try.func18, Try.ntmps18
    go_wp2
    go_quiet (fail)
    have q1 := grown_drewN w0 nq none
    have B1 := B0.keep q1 (by simp)
    have hR1 := hR0.keep q1
    generalize w0.drewN nq = w1 at q1 B1 hR1 ⊢
    have hS1 := fun q => Calls.quiet_of_same (n := q) (hSu (w1.drewN q) (hR1.keep (grown_drewN w1 q none)))
    obtain ⟨xa, xb⟩ := X w1 q1
    go_wp2
    go_quiet (first | (go_at_call 48; with_reducible exact hS1 _))
    have q2 := grown_drewN w1 nq none
    have B2 := B1.keep q2 (by simp)
    have q12 := grown_trans q1 q2
    generalize w1.drewN nq = w2 at q2 B2 q12 ⊢
    clear hS1 xa xb
    obtain ⟨y0, y1, y2, y3, y4⟩ := Y w2 q12
    go_wp2
    go_quiet (fail)
    have q3 := grown_drewN w2 nq none
    have B3 := B2.keep q3 (by simp)
    have q13 := grown_trans q12 q3
    generalize w2.drewN nq = w3 at q3 B3 q13 ⊢
    clear y0 y1 y2 y3 y4
    obtain ⟨y0, y1, y2, y3, y4⟩ := Y w3 q13
    go_wp2_with (first
      | (have _t := t2; refine wpList_stX _ rfl _ (.tmp 2) (.tmp 92) rfl w.heap.size _ _ rfl rfl B3 i5 rfl (by simp [Value.oneCell']) ?_; clear t2; intro w9 b9 g9))
    refine bodyPost_ret (results_cell1t rfl _ _ _ ⟨w.heap.size, 0, none⟩ _ (.int .i64 8) rfl (BxS.load (t := 24) b9 Try.underlying24 Try.info_or) rfl) rfl ?_
    exact ⟨none, 0, 0, by rw [HA.out, HE.out]; rfl, by rw [HD.out]; exact ans_nil _ _, grown_far (grown_trans g0 q13) g9 (fun q e => by cases e; exact Nat.le_refl _)⟩
  rw [f2] at u2
  have u2 : bits .and .u8 ((nth B 0 : Int) / 4) 3 = 0 := u2
  by_cases f3 : nth B 2 / 4 = 0
  case neg =>
    have hE : deE B = 8 := by rw [hE, show fmB B = false from decide_eq_false (fun h => f3 h.2.2)]; rfl
    obtain ⟨e1, e2⟩ := de_no hE (by decide)
    have HE : Hid (deE B = 8) := hE
    have HD : Hid (deD B = []) := e1
    have HA : Hid (deA B none 0 0 = orA 0 false false 0 none 0 0) := e2
    clear e1 e2 hE
    have lF : (((nth B 2 : Int) / 4 != 0) : Bool) = true := bne_iff_ne.2 (by omega)
    clear f3
    go_enter Try.func18, Try.ntmps18
    go_wp2
    go_quiet (fail)
    have q1 := grown_drewN w0 nq none
    have B1 := B0.keep q1 (by simp)
    have hR1 := hR0.keep q1
    generalize w0.drewN nq = w1 at q1 B1 hR1 ⊢
    have hS1 := fun q => Calls.quiet_of_same (n := q) (hSu (w1.drewN q) (hR1.keep (grown_drewN w1 q none)))
    obtain ⟨xa, xb⟩ := X w1 q1
    go_wp2
    go_quiet (first | (go_at_call 48; with_reducible exact hS1 _))
    have q2 := grown_drewN w1 nq none
    have B2 := B1.keep q2 (by simp)
    have q12 := grown_trans q1 q2
    generalize w1.drewN nq = w2 at q2 B2 q12 ⊢
    clear hS1 xa xb
    obtain ⟨y0, y1, y2, y3, y4⟩ := Y w2 q12
    go_wp2
    go_quiet (fail)
    have q3 := grown_drewN w2 nq none
    have B3 := B2.keep q3 (by simp)
    have q13 := grown_trans q12 q3
    generalize w2.drewN nq = w3 at q3 B3 q13 ⊢
    clear y0 y1 y2 y3 y4
    obtain ⟨y0, y1, y2, y3, y4⟩ := Y w3 q13
    go_wp2_with (first
      | (have _t := t2; refine wpList_stX _ rfl _ (.tmp 2) (.tmp 92) rfl w.heap.size _ _ rfl rfl B3 i5 rfl (by simp [Value.oneCell']) ?_; clear t2; intro w9 b9 g9))
    refine bodyPost_ret (results_cell1t rfl _ _ _ ⟨w.heap.size, 0, none⟩ _ (.int .i64 8) rfl (BxS.load (t := 24) b9 Try.underlying24 Try.info_or) rfl) rfl ?_
    exact ⟨none, 0, 0, by rw [HA.out, HE.out]; rfl, by rw [HD.out]; exact ans_nil _ _, grown_far (grown_trans g0 q13) g9 (fun q e => by cases e; exact Nat.le_refl _)⟩
  have lF3 : (((nth B 2 : Int) / 4 != 0) : Bool) = false := by rw [show (nth B 2 : Int) / 4 = 0 by omega]; rfl
  have hE : deE B = if !(CO && !BP) then 0 else 8 := by rw [hE, show fmB B = true from decide_eq_true ⟨f1, f2, f3⟩, Bool.true_and]
  by_cases hk : (CO && !BP) = true
  · have hE : deE B = 8 := by rw [hE, hk]; rfl
    obtain ⟨rfl, hb⟩ := Bool.and_eq_true_iff.1 hk
    obtain rfl : BP = false := by cases BP; rfl; cases hb
    obtain ⟨e1, e2⟩ := de_no hE (by decide)
    have HE : Hid (deE B = 8) := hE
    have HD : Hid (deD B = []) := e1
    have HA : Hid (deA B none 0 0 = orA 0 false false 0 none 0 0) := e2
    clear e1 e2 hE
    go_enter Try.func18, Try.ntmps18
    go_wp2
    go_quiet (fail)
    have q1 := grown_drewN w0 nq none
    have B1 := B0.keep q1 (by simp)
    have hR1 := hR0.keep q1
    generalize w0.drewN nq = w1 at q1 B1 hR1 ⊢
    have hS1 := fun q => Calls.quiet_of_same (n := q) (hSu (w1.drewN q) (hR1.keep (grown_drewN w1 q none)))
    obtain ⟨xa, xb⟩ := X w1 q1
    go_wp2
    go_quiet (first | (go_at_call 48; with_reducible exact hS1 _))
    have q2 := grown_drewN w1 nq none
    have B2 := B1.keep q2 (by simp)
    have q12 := grown_trans q1 q2
    generalize w1.drewN nq = w2 at q2 B2 q12 ⊢
    clear hS1 xa xb
    obtain ⟨y0, y1, y2, y3, y4⟩ := Y w2 q12
    go_wp2
    go_quiet (fail)
    have q3 := grown_drewN w2 nq none
    have B3 := B2.keep q3 (by simp)
    have q13 := grown_trans q12 q3
    generalize w2.drewN nq = w3 at q3 B3 q13 ⊢
    clear y0 y1 y2 y3 y4
    obtain ⟨y0, y1, y2, y3, y4⟩ := Y w3 q13
    go_wp2_with (first
      | (have _t := t2; refine wpList_stX _ rfl _ (.tmp 2) (.tmp 92) rfl w.heap.size _ _ rfl rfl B3 i5 rfl (by simp [Value.oneCell']) ?_; clear t2; intro w9 b9 g9))
    refine bodyPost_ret (results_cell1t rfl _ _ _ ⟨w.heap.size, 0, none⟩ _ (.int .i64 8) rfl (BxS.load (t := 24) b9 Try.underlying24 Try.info_or) rfl) rfl ?_
    exact ⟨none, 0, 0, by rw [HA.out, HE.out]; rfl, by rw [HD.out]; exact ans_nil _ _, grown_far (grown_trans g0 q13) g9 (fun q e => by cases e; exact Nat.le_refl _)⟩
  have HE : Hid (deE B = 0) := by show _ = _; rw [hE, Bool.eq_false_iff.2 hk]; rfl
  have HD : Hid (deD B = (B.drop 5).take (m - 5)) := by show _ = _; unfold deD; rw [HE.out, if_pos rfl, HL.out]; rfl
  have hcrl : nmN B % 1024 < 1024 := Nat.mod_lt _ (by decide)
  have u0 : bits .and .u8 (nth B 0 : Int) 3 = ((nth B 0 % 4 : Nat) : Int) := u8_low (nth B 0) 2 b0 (by decide)
  have u01 : bits .or .i64 (((nth B 0 % 4 : Nat) : Int) * 256) (nth B 1 : Int) = ((nmN B % 1024 : Nat) : Int) := by
    rw [show (((nth B 0 % 4 : Nat) : Int) * 256) = ((nth B 0 % 4 * 2 ^ 8 : Nat) : Int) by omega, or_put _ _ 8 (by omega) (by omega) (by omega)]
    unfold nmN
    omega
  generalize hcrv : nmN B % 1024 = CR at u01 hcrl
  have hcrv : Hid (nmN B % 1024 = CR) := hcrv
  have hq4 : nth B 0 % 4 < 4 := Nat.mod_lt _ (by decide)
  generalize nth B 0 % 4 = q4 at u0 u01 hq4
  have HA : ∀ a' n' c', Hid (deA B a' n' c' = orA (CR : Int) BP CO (nth B 4 : Int) a' n' c') := fun a' n' c' => by show _ = _; unfold deA; rw [HE.out, if_pos rfl, if_pos rfl, hcrv.out, hbpv.out, hcov.out]; rfl
  have hP := fun wz (hz : Rd wz (some ⟨b, off, none⟩) (m + 2) c B) => hz.part 5 (m - 5) (by omega)
  clear hE f1 f2 f3
  have hm6 : 6 ≤ m := by omega
  cases BP <;> cases CO
  case false.true => exact absurd rfl hk
  case false.false =>
    go_enter Try.func18, Try.ntmps18
    go_wp2
    go_quiet (fail)
    have q1 := grown_drewN w0 nq none
    have B1 := B0.keep q1 (by simp)
    have hR1 := hR0.keep q1
    generalize w0.drewN nq = w1 at q1 B1 hR1 ⊢
    have hS1 := fun q => Calls.quiet_of_same (n := q) (hSu (w1.drewN q) (hR1.keep (grown_drewN w1 q none)))
    obtain ⟨xa, xb⟩ := X w1 q1
    go_wp2
    go_quiet (first | (go_at_call 48; with_reducible exact hS1 _))
    have q2 := grown_drewN w1 nq none
    have B2 := B1.keep q2 (by simp)
    have q12 := grown_trans q1 q2
    generalize w1.drewN nq = w2 at q2 B2 q12 ⊢
    clear hS1 xa xb
    obtain ⟨y0, y1, y2, y3, y4⟩ := Y w2 q12
    go_wp2
    go_quiet (fail)
    have q3 := grown_drewN w2 nq none
    have B3 := B2.keep q3 (by simp)
    have q13 := grown_trans q12 q3
    generalize w2.drewN nq = w3 at q3 B3 q13 ⊢
    clear y0 y1 y2 y3 y4
    obtain ⟨y0, y1, y2, y3, y4⟩ := Y w3 q13
    have hR3 := (hR1.keep q2).keep q3
    have gD := grown_drew w3 none
    have hCl := hP w3.drew (hR3.keep gD)
    have j0 : (0 : Int) < (m : Int) + 2 := by omega
    have j1 : (1 : Int) < (m : Int) + 2 := by omega
    have j4 : (4 : Int) < (m : Int) + 2 := by omega
    have j5 : (5 : Int) ≤ (m : Int) := by omega
    have j6 : (m : Int) ≤ (m : Int) + 2 := by omega
    have j7 : (m : Int) ≤ (c : Int) := by omega
    have z1 : IntKind.i64.wrap (m : Int) = (m : Int) := wrap_i64_in _ (by omega) (by omega)
    have z2 : ¬ c = 5 := by omega
    have z3 : max (m : Int) 0 = (m : Int) := by omega
    have z4 : (0 : Int) ≤ (m : Int) := by omega
    have k1' : IntKind.i64.wrap (q4 : Int) = (q4 : Int) := wrap_i64_in _ (by omega) (by omega)
    have k2' : IntKind.i64.wrap ((q4 : Int) * 256) = (q4 : Int) * 256 := wrap_i64_in _ (by omega) (by omega)
    have k3' : IntKind.i64.wrap (nth B 1 : Int) = (nth B 1 : Int) := wrap_i64_in _ (by omega) (by omega)
    have k4' : IntKind.i64.wrap (nth B 4 : Int) = (nth B 4 : Int) := wrap_i64_in _ (by omega) (by omega)
    have hbne : ¬ b = w.heap.size := by omega
    have hbne' : ¬ w.heap.size = b := by omega
    go_wp2
    go_region_held3 (fun w' => w'.cell? ⟨b, off, none⟩ = some (.int .u8 (nth B 0 : Int)) ∧ w'.cell? ⟨b, off + 1, none⟩ = some (.int .u8 (nth B 1 : Int)) ∧ w'.cell? ⟨b, off + 4, none⟩ = some (.int .u8 (nth B 4 : Int))) (go_keep) (first
      | (refine step_join w3 w3.drew rfl _ _ rfl none 0 0 w3.heap.size none _ rfl (ans_nil _ _) gD (fun q h => by simp [Value.ownBlock] at h) (Nat.le_refl _) _ (m - 5) (c - 5) _ rfl hCl (by omega) (by omega) ?_; intro gx cx w6 hA6 hG6 hM6; have b6 := B3.keep hG6 (by simp); obtain ⟨d60, d61, d62, d63, d64⟩ := b6.cell5; have f60 := b6.free 0; have f61 := b6.free 1; have f62 := b6.free 2; have f63 := b6.free 3; have f64 := b6.free 4; obtain ⟨u60, u61, u62, u63, u64⟩ := Y w6 (grown_trans q13 hG6)))
    all_goals
      have b7 := b6.set5 (.int .i64 (CR : Int)) (.bool false) (.bool false) (.int .i64 (nth B 4 : Int)) (.slice (some ⟨gx, 0, none⟩) (m - 5) cx)
      have g7 := set5_grown w6 w.heap.size (.int .i64 (CR : Int)) (.bool false) (.bool false) (.int .i64 (nth B 4 : Int)) (.slice (some ⟨gx, 0, none⟩) (m - 5) cx)
      unfold set5 at b7 g7
      generalize ((((w6.setCell ⟨w.heap.size, 0, none⟩ (.int .i64 (CR : Int))).setCell ⟨w.heap.size, 1, none⟩ (.bool false)).setCell ⟨w.heap.size, 2, none⟩ (.bool false)).setCell ⟨w.heap.size, 3, none⟩ (.int .i64 (nth B 4 : Int))).setCell ⟨w.heap.size, 4, none⟩ (.slice (some ⟨gx, 0, none⟩) (m - 5) cx) = w9 at b7 g7 ⊢
      go_wp2
      have hz5 : w3.heap.size ≤ gx := hA6.new gx rfl
      have hz4 := B3.lt
      refine bodyPost_ret (results_cell1t rfl _ _ _ ⟨w.heap.size, 0, none⟩ _ (.int .i64 0) rfl (BxS.load (t := 24) b7 Try.underlying24 Try.info_or) rfl) rfl ?_
      rw [Nat.zero_add, List.nil_append] at hA6
      exact ⟨some ⟨gx, 0, none⟩, m - 5, cx, by rw [(HA _ _ _).out, HE.out]; rfl, by rw [HD.out]; exact (hA6.kept g7 (.inr (by simp [Value.ownBlock]; omega))).wide (by omega), grown_far (grown_trans (grown_trans g0 q13) hG6) g7 (fun q e => by cases e; exact Nat.le_refl _)⟩
  case true.false =>
    go_enter Try.func18, Try.ntmps18
    go_wp2
    go_quiet (fail)
    have q1 := grown_drewN w0 nq none
    have B1 := B0.keep q1 (by simp)
    have hR1 := hR0.keep q1
    generalize w0.drewN nq = w1 at q1 B1 hR1 ⊢
    have hS1 := fun q => Calls.quiet_of_same (n := q) (hSu (w1.drewN q) (hR1.keep (grown_drewN w1 q none)))
    obtain ⟨xa, xb⟩ := X w1 q1
    go_wp2
    go_quiet (first | (go_at_call 48; with_reducible exact hS1 _))
    have q2 := grown_drewN w1 nq none
    have B2 := B1.keep q2 (by simp)
    have q12 := grown_trans q1 q2
    generalize w1.drewN nq = w2 at q2 B2 q12 ⊢
    clear hS1 xa xb
    obtain ⟨y0, y1, y2, y3, y4⟩ := Y w2 q12
    go_wp2
    go_quiet (fail)
    have q3 := grown_drewN w2 nq none
    have B3 := B2.keep q3 (by simp)
    have q13 := grown_trans q12 q3
    generalize w2.drewN nq = w3 at q3 B3 q13 ⊢
    clear y0 y1 y2 y3 y4
    obtain ⟨y0, y1, y2, y3, y4⟩ := Y w3 q13
    have hR3 := (hR1.keep q2).keep q3
    have gD := grown_drew w3 none
    have hCl := hP w3.drew (hR3.keep gD)
    have j0 : (0 : Int) < (m : Int) + 2 := by omega
    have j1 : (1 : Int) < (m : Int) + 2 := by omega
    have j4 : (4 : Int) < (m : Int) + 2 := by omega
    have j5 : (5 : Int) ≤ (m : Int) := by omega
    have j6 : (m : Int) ≤ (m : Int) + 2 := by omega
    have j7 : (m : Int) ≤ (c : Int) := by omega
    have z1 : IntKind.i64.wrap (m : Int) = (m : Int) := wrap_i64_in _ (by omega) (by omega)
    have z2 : ¬ c = 5 := by omega
    have z3 : max (m : Int) 0 = (m : Int) := by omega
    have z4 : (0 : Int) ≤ (m : Int) := by omega
    have k1' : IntKind.i64.wrap (q4 : Int) = (q4 : Int) := wrap_i64_in _ (by omega) (by omega)
    have k2' : IntKind.i64.wrap ((q4 : Int) * 256) = (q4 : Int) * 256 := wrap_i64_in _ (by omega) (by omega)
    have k3' : IntKind.i64.wrap (nth B 1 : Int) = (nth B 1 : Int) := wrap_i64_in _ (by omega) (by omega)
    have k4' : IntKind.i64.wrap (nth B 4 : Int) = (nth B 4 : Int) := wrap_i64_in _ (by omega) (by omega)
    have hbne : ¬ b = w.heap.size := by omega
    have hbne' : ¬ w.heap.size = b := by omega
    go_wp2
    go_region_held3 (fun w' => w'.cell? ⟨b, off, none⟩ = some (.int .u8 (nth B 0 : Int)) ∧ w'.cell? ⟨b, off + 1, none⟩ = some (.int .u8 (nth B 1 : Int)) ∧ w'.cell? ⟨b, off + 4, none⟩ = some (.int .u8 (nth B 4 : Int))) (go_keep) (first
      | (refine step_join w3 w3.drew rfl _ _ rfl none 0 0 w3.heap.size none _ rfl (ans_nil _ _) gD (fun q h => by simp [Value.ownBlock] at h) (Nat.le_refl _) _ (m - 5) (c - 5) _ rfl hCl (by omega) (by omega) ?_; intro gx cx w6 hA6 hG6 hM6; have b6 := B3.keep hG6 (by simp); obtain ⟨d60, d61, d62, d63, d64⟩ := b6.cell5; have f60 := b6.free 0; have f61 := b6.free 1; have f62 := b6.free 2; have f63 := b6.free 3; have f64 := b6.free 4; obtain ⟨u60, u61, u62, u63, u64⟩ := Y w6 (grown_trans q13 hG6)))
    all_goals
      have b7 := b6.set5 (.int .i64 (CR : Int)) (.bool true) (.bool false) (.int .i64 (nth B 4 : Int)) (.slice (some ⟨gx, 0, none⟩) (m - 5) cx)
      have g7 := set5_grown w6 w.heap.size (.int .i64 (CR : Int)) (.bool true) (.bool false) (.int .i64 (nth B 4 : Int)) (.slice (some ⟨gx, 0, none⟩) (m - 5) cx)
      unfold set5 at b7 g7
      generalize ((((w6.setCell ⟨w.heap.size, 0, none⟩ (.int .i64 (CR : Int))).setCell ⟨w.heap.size, 1, none⟩ (.bool true)).setCell ⟨w.heap.size, 2, none⟩ (.bool false)).setCell ⟨w.heap.size, 3, none⟩ (.int .i64 (nth B 4 : Int))).setCell ⟨w.heap.size, 4, none⟩ (.slice (some ⟨gx, 0, none⟩) (m - 5) cx) = w9 at b7 g7 ⊢
      go_wp2
      have hz5 : w3.heap.size ≤ gx := hA6.new gx rfl
      have hz4 := B3.lt
      refine bodyPost_ret (results_cell1t rfl _ _ _ ⟨w.heap.size, 0, none⟩ _ (.int .i64 0) rfl (BxS.load (t := 24) b7 Try.underlying24 Try.info_or) rfl) rfl ?_
      rw [Nat.zero_add, List.nil_append] at hA6
      exact ⟨some ⟨gx, 0, none⟩, m - 5, cx, by rw [(HA _ _ _).out, HE.out]; rfl, by rw [HD.out]; exact (hA6.kept g7 (.inr (by simp [Value.ownBlock]; omega))).wide (by omega), grown_far (grown_trans (grown_trans g0 q13) hG6) g7 (fun q e => by cases e; exact Nat.le_refl _)⟩
  case true.true =>
    go_enter Try.func18, Try.ntmps18
    go_wp2
    go_quiet (fail)
    have q1 := grown_drewN w0 nq none
    have B1 := B0.keep q1 (by simp)
    have hR1 := hR0.keep q1
    generalize w0.drewN nq = w1 at q1 B1 hR1 ⊢
    have hS1 := fun q => Calls.quiet_of_same (n := q) (hSu (w1.drewN q) (hR1.keep (grown_drewN w1 q none)))
    obtain ⟨xa, xb⟩ := X w1 q1
    go_wp2
    go_quiet (first | (go_at_call 48; with_reducible exact hS1 _))
    have q2 := grown_drewN w1 nq none
    have B2 := B1.keep q2 (by simp)
    have q12 := grown_trans q1 q2
    generalize w1.drewN nq = w2 at q2 B2 q12 ⊢
    clear hS1 xa xb
    obtain ⟨y0, y1, y2, y3, y4⟩ := Y w2 q12
    go_wp2
    go_quiet (fail)
    have q3 := grown_drewN w2 nq none
    have B3 := B2.keep q3 (by simp)
    have q13 := grown_trans q12 q3
    generalize w2.drewN nq = w3 at q3 B3 q13 ⊢
    clear y0 y1 y2 y3 y4
    obtain ⟨y0, y1, y2, y3, y4⟩ := Y w3 q13
    have hR3 := (hR1.keep q2).keep q3
    have gD := grown_drew w3 none
    have hCl := hP w3.drew (hR3.keep gD)
    have j0 : (0 : Int) < (m : Int) + 2 := by omega
    have j1 : (1 : Int) < (m : Int) + 2 := by omega
    have j4 : (4 : Int) < (m : Int) + 2 := by omega
    have j5 : (5 : Int) ≤ (m : Int) := by omega
    have j6 : (m : Int) ≤ (m : Int) + 2 := by omega
    have j7 : (m : Int) ≤ (c : Int) := by omega
    have z1 : IntKind.i64.wrap (m : Int) = (m : Int) := wrap_i64_in _ (by omega) (by omega)
    have z2 : ¬ c = 5 := by omega
    have z3 : max (m : Int) 0 = (m : Int) := by omega
    have z4 : (0 : Int) ≤ (m : Int) := by omega
    have k1' : IntKind.i64.wrap (q4 : Int) = (q4 : Int) := wrap_i64_in _ (by omega) (by omega)
    have k2' : IntKind.i64.wrap ((q4 : Int) * 256) = (q4 : Int) * 256 := wrap_i64_in _ (by omega) (by omega)
    have k3' : IntKind.i64.wrap (nth B 1 : Int) = (nth B 1 : Int) := wrap_i64_in _ (by omega) (by omega)
    have k4' : IntKind.i64.wrap (nth B 4 : Int) = (nth B 4 : Int) := wrap_i64_in _ (by omega) (by omega)
    have hbne : ¬ b = w.heap.size := by omega
    have hbne' : ¬ w.heap.size = b := by omega
    go_wp2
    go_region_held3 (fun w' => w'.cell? ⟨b, off, none⟩ = some (.int .u8 (nth B 0 : Int)) ∧ w'.cell? ⟨b, off + 1, none⟩ = some (.int .u8 (nth B 1 : Int)) ∧ w'.cell? ⟨b, off + 4, none⟩ = some (.int .u8 (nth B 4 : Int))) (go_keep) (first
      | (refine step_join w3 w3.drew rfl _ _ rfl none 0 0 w3.heap.size none _ rfl (ans_nil _ _) gD (fun q h => by simp [Value.ownBlock] at h) (Nat.le_refl _) _ (m - 5) (c - 5) _ rfl hCl (by omega) (by omega) ?_; intro gx cx w6 hA6 hG6 hM6; have b6 := B3.keep hG6 (by simp); obtain ⟨d60, d61, d62, d63, d64⟩ := b6.cell5; have f60 := b6.free 0; have f61 := b6.free 1; have f62 := b6.free 2; have f63 := b6.free 3; have f64 := b6.free 4; obtain ⟨u60, u61, u62, u63, u64⟩ := Y w6 (grown_trans q13 hG6)))
    all_goals
      have b7 := b6.set5 (.int .i64 (CR : Int)) (.bool true) (.bool true) (.int .i64 (nth B 4 : Int)) (.slice (some ⟨gx, 0, none⟩) (m - 5) cx)
      have g7 := set5_grown w6 w.heap.size (.int .i64 (CR : Int)) (.bool true) (.bool true) (.int .i64 (nth B 4 : Int)) (.slice (some ⟨gx, 0, none⟩) (m - 5) cx)
      unfold set5 at b7 g7
      generalize ((((w6.setCell ⟨w.heap.size, 0, none⟩ (.int .i64 (CR : Int))).setCell ⟨w.heap.size, 1, none⟩ (.bool true)).setCell ⟨w.heap.size, 2, none⟩ (.bool true)).setCell ⟨w.heap.size, 3, none⟩ (.int .i64 (nth B 4 : Int))).setCell ⟨w.heap.size, 4, none⟩ (.slice (some ⟨gx, 0, none⟩) (m - 5) cx) = w9 at b7 g7 ⊢
      go_wp2
      have hz5 : w3.heap.size ≤ gx := hA6.new gx rfl
      have hz4 := B3.lt
      refine bodyPost_ret (results_cell1t rfl _ _ _ ⟨w.heap.size, 0, none⟩ _ (.int .i64 0) rfl (BxS.load (t := 24) b7 Try.underlying24 Try.info_or) rfl) rfl ?_
      rw [Nat.zero_add, List.nil_append] at hA6
      exact ⟨some ⟨gx, 0, none⟩, m - 5, cx, by rw [(HA _ _ _).out, HE.out]; rfl, by rw [HD.out]; exact (hA6.kept g7 (.inr (by simp [Value.ownBlock]; omega))).wide (by omega), grown_far (grown_trans (grown_trans g0 q13) hG6) g7 (fun q e => by cases e; exact Nat.le_refl _)⟩
end Go.Proofs.Ytkjcpoapkkaagaa
