import Derived.Test.YtlfacjpehhcdiaaOn11
import Derived.Test.YtlfacjpehhcdiaaOn10
import Derived.Test.YtlfacjpehhcdiaaOn1
import Derived.Test.YtlfacjpehhcdiaaOn5
import Derived.Test.YtlfacjpehhcdiaaOn3
namespace Go.Proofs.Ytlfacjpehhcdiaa
open Go.RowKit
set_option maxRecDepth 100000
set_option linter.unusedVariables false
set_option linter.unusedSimpArgs false

section
theorem arr5_u8 (x0 x1 x2 x3 x4 y0 y1 y2 y3 y4 : Nat) (w : World) : (Op.equalIn 10000 78 (.agg #[.int .u8 x0, .int .u8 x1, .int .u8 x2, .int .u8 x3, .int .u8 x4]) (.agg #[.int .u8 y0, .int .u8 y1, .int .u8 y2, .int .u8 y3, .int .u8 y4])).run Try.prog w = .ok (decide ([x0, x1, x2, x3, x4] = [y0, y1, y2, y3, y4])) w :=
  (arr_u8 Try.underlying78 [x0, x1, x2, x3, x4] [y0, y1, y2, y3, y4] rfl rfl w).trans (by congr 1; rw [Bool.eq_iff_iff]; simp [List.range_succ, Int.natCast_inj, and_assoc])
/-- the head's bits that are always 0 -/
def fmB (B : List Nat) : Bool := decide (nth B 0 / 64 = 0 ∧ nth B 0 / 4 % 4 = 0 ∧ nth B 2 / 4 = 0)
def bpB (B : List Nat) : Bool := decide (nmN B / 8192 % 2 = 1)
def coB (B : List Nat) : Bool := decide (nmN B / 4096 % 2 = 1)
theorem toNat_dec (x : Nat) : (decide (x % 2 = 1)).toNat = x % 2 := by
  rcases (show x % 2 = 0 ∨ x % 2 = 1 by omega) with e | e <;> rw [e] <;> rfl
theorem form_eq (B : List Nat) (hB : IsB B) (n : Nat) (hn : toN B = n) : decide ([nth B 0, nth B 1, nth B 2, nth B 3, nth B 4] = hoL (nmN B % 1024) (bpB B) (coB B) n (nth B 4)) = fmB B := by
  have b0 := hB.nth 0
  have b1 := hB.nth 1
  have b2 := hB.nth 2
  have b3 := hB.nth 3
  unfold toN at hn
  unfold hoL naN bpB coB fmB
  rw [toNat_dec, toNat_dec]
  unfold nmN
  generalize nth B 0 = x0 at *
  generalize nth B 1 = x1 at *
  generalize nth B 2 = x2 at *
  generalize nth B 3 = x3 at *
  have h1 : ([x0, x1, x2, x3, nth B 4] = [((x0 * 256 + x1) / 8192 % 2 * 8192 + (x0 * 256 + x1) / 4096 % 2 * 4096 + (x0 * 256 + x1) % 1024) / 256, ((x0 * 256 + x1) / 8192 % 2 * 8192 + (x0 * 256 + x1) / 4096 % 2 * 4096 + (x0 * 256 + x1) % 1024) % 256, (n - 1) / 256, (n - 1) % 256, nth B 4]) ↔ (x0 / 64 = 0 ∧ x0 / 4 % 4 = 0 ∧ x2 / 4 = 0) := by
    simp only [List.cons.injEq, and_true]
    constructor
    · rintro ⟨h, _, h2, h3⟩
      refine ⟨by omega, by omega, by omega⟩
    · rintro ⟨h, h2, h3⟩
      refine ⟨by omega, by omega, by omega, by omega⟩
  exact decide_eq_decide.2 h1
/-- why bytes are no order (0: they are) -/
def deS (B : List Nat) : Bool := decide (8 ≤ B.length ∧ B.length ≤ 1024 ∧ toN B = B.length)
def deM (B : List Nat) : Bool := decide (sumB (B.take (B.length - 2)) = nth B (B.length - 2) * 256 + nth B (B.length - 1))
def deE (B : List Nat) : Nat := if deS B = true then (if deM B = true then (if fmB B && !(coB B && !bpB B) then 0 else 8) else 9) else 1
def deD (B : List Nat) : List Nat := if deE B = 0 then (B.drop 5).take (B.length - 7) else []
def deA (B : List Nat) (a : Option Addr) (n c : Nat) : Array Value := orA (if deE B = 0 then (nmN B % 1024 : Nat) else (0 : Int)) (decide (deE B = 0) && bpB B) (decide (deE B = 0) && coB B) (if deE B = 0 then (nth B 4 : Nat) else (0 : Int)) a n c
theorem de_no {B : List Nat} {E : Nat} (h : deE B = E) (h0 : E ≠ 0) : deD B = [] ∧ deA B none 0 0 = orA 0 false false 0 none 0 0 := by
  unfold deD deA
  rw [h, if_neg h0, if_neg h0, if_neg h0, decide_eq_false h0]
  exact ⟨rfl, rfl⟩
set_option maxHeartbeats 16000000 in
theorem kdec_any (a : Option Addr) (n c : Nat) (B : List Nat) (w : World) (hR : Rd w a n c B) :
    Calls Try.prog 22 #[.slice a n c] w fun e w' => ∃ a' n' c', e = .returned (.tuple #[.agg (deA B a' n' c'), .int .i64 (deE B : Nat)]) ∧ Ans w' w.heap.size a' n' c' (deD B) ∧ w.grownBy w' none := by
  have HL : Hid (B.length = n) := hR.len
  have hle := hR.le
  have hmx := hR.max
  unfold maxLen at hmx
  have B0 := BxS.new w 62 (orA 0 false false 0 none 0 0)
  have g0 := World.grownBy_alloc w (.cells (orA 0 false false 0 none 0 0) 62) none
  unfold orA at B0 g0
  generalize hw0 : w.alloc (.cells #[.int .i64 0, .bool false, .bool false, .int .i64 0, .slice none 0 0] 62) = w0 at B0 g0
  have hR0 := hR.keep g0
  have i5 := Try.info_or
  have t1 : True := trivial
  have t2 : True := trivial
  by_cases hs : deS B = true
  case neg =>
    have hE : deE B = 1 := by unfold deE; rw [if_neg hs]
    obtain ⟨e1, e2⟩ := de_no hE (by decide)
    rw [hE, e1]
    suffices h : Calls Try.prog 22 #[.slice a n c] w fun e w' => e = .returned (.tuple #[.agg (orA 0 false false 0 none 0 0), .int .i64 1]) ∧ w.grownBy w' none by
      refine h.mono ?_
      rintro e w' ⟨rfl, hg⟩
      exact ⟨none, 0, 0, by rw [e2]; rfl, ans_nil _ _, hg⟩
    unfold orA
    clear e1 e2 hE
    by_cases k0 : n < 8
    · have l0 : (n : Int) < 8 := by omega
      go_enter Try.func22, Try.ntmps22
      go_wp2_with (first
        | (have _t := t2; refine wpList_stX _ rfl _ (.tmp 2) (.tmp 22) rfl w.heap.size _ _ rfl rfl B0 i5 rfl (by simp [Value.oneCell']) ?_; clear t2; intro w9 b9 g9))
      refine bodyPost_ret (results_cell1t rfl _ _ _ ⟨w.heap.size, 0, none⟩ _ (.int .i64 1) rfl (BxS.load (t := 62) b9 Try.underlying62 Try.info_or) rfl) rfl ?_
      exact ⟨rfl, grown_far g0 g9 (fun q e => by cases e; exact Nat.le_refl _)⟩
    have l0 : ¬ (n : Int) < 8 := by omega
    by_cases k1 : 1024 < n
    · have l1 : (1024 : Int) < (n : Int) := by omega
      go_enter Try.func22, Try.ntmps22
      go_wp2_with (first
        | (have _t := t2; refine wpList_stX _ rfl _ (.tmp 2) (.tmp 22) rfl w.heap.size _ _ rfl rfl B0 i5 rfl (by simp [Value.oneCell']) ?_; clear t2; intro w9 b9 g9))
      refine bodyPost_ret (results_cell1t rfl _ _ _ ⟨w.heap.size, 0, none⟩ _ (.int .i64 1) rfl (BxS.load (t := 62) b9 Try.underlying62 Try.info_or) rfl) rfl ?_
      exact ⟨rfl, grown_far g0 g9 (fun q e => by cases e; exact Nat.le_refl _)⟩
    have l1 : ¬ (1024 : Int) < (n : Int) := by omega
    have hne : toN B ≠ n := fun e => hs (decide_eq_true (by rw [HL.out]; exact ⟨by omega, by omega, e⟩))
    have hT := fun wz hz => told_any a n c B wz hz (by omega)
    generalize toN B = T at hT hne
    have l2 : (((n : Int) != (T : Int)) : Bool) = true := by simp; omega
    clear hs hne
    go_enter Try.func22, Try.ntmps22
    go_wp2_with (first
      | (go_at_call 33; refine (hT w0 hR0).mono ?_; rintro e w1 ⟨rfl, g1⟩; have B1 := B0.keep g1 (by simp))
      | (have _t := t2; refine wpList_stX _ rfl _ (.tmp 2) (.tmp 22) rfl w.heap.size _ _ rfl rfl B1 i5 rfl (by simp [Value.oneCell']) ?_; clear t2; intro w9 b9 g9))
    refine bodyPost_ret (results_cell1t rfl _ _ _ ⟨w.heap.size, 0, none⟩ _ (.int .i64 1) rfl (BxS.load (t := 62) b9 Try.underlying62 Try.info_or) rfl) rfl ?_
    exact ⟨rfl, grown_far (grown_trans g0 g1) g9 (fun q e => by cases e; exact Nat.le_refl _)⟩
  have hs' : 8 ≤ B.length ∧ B.length ≤ 1024 ∧ toN B = B.length := of_decide_eq_true hs
  rw [HL.out] at hs'
  obtain ⟨k0, k1, kT⟩ := hs'
  have hT := fun wz hz => told_any a n c B wz hz k0
  have hH := fun wz hz => rhead_any a n c B wz hz k0
  have HF := form_eq B hR.byte n kT
  rw [kT] at hT
  have l0 : ¬ (n : Int) < 8 := by omega
  have l1 : ¬ (1024 : Int) < (n : Int) := by omega
  obtain ⟨m, rfl⟩ : ∃ m, n = m + 2 := ⟨n - 2, by omega⟩
  obtain ⟨b, off, rfl, hbw, hcc⟩ := hR0.at' (by omega)
  have X : ∀ wz : World, w0.grownBy wz none → wz.cell? ⟨b, off + m, none⟩ = some (.int .u8 (nth B m : Nat)) ∧ wz.cell? ⟨b, off + m + 1, none⟩ = some (.int .u8 (nth B (m + 1) : Nat)) := fun wz hz => ⟨cell_grown (hcc m (by omega)) hz hbw (by simp), cell_grown (by rw [Nat.add_assoc]; exact hcc (m + 1) (by omega)) hz hbw (by simp)⟩
  have Y : ∀ wz : World, w0.grownBy wz none → wz.cell? ⟨b, off, none⟩ = some (.int .u8 (nth B 0 : Nat)) ∧ wz.cell? ⟨b, off + 1, none⟩ = some (.int .u8 (nth B 1 : Nat)) ∧ wz.cell? ⟨b, off + 2, none⟩ = some (.int .u8 (nth B 2 : Nat)) ∧ wz.cell? ⟨b, off + 3, none⟩ = some (.int .u8 (nth B 3 : Nat)) ∧ wz.cell? ⟨b, off + 4, none⟩ = some (.int .u8 (nth B 4 : Nat)) := fun wz hz => ⟨cell_grown (hcc 0 (by omega)) hz hbw (by simp), cell_grown (hcc 1 (by omega)) hz hbw (by simp), cell_grown (hcc 2 (by omega)) hz hbw (by simp), cell_grown (hcc 3 (by omega)) hz hbw (by simp), cell_grown (hcc 4 (by omega)) hz hbw (by simp)⟩
  have bm := hR.byte.nth m
  have bm1 := hR.byte.nth (m + 1)
  have hSu := fun wz (hz : Rd wz (some ⟨b, off, none⟩) (m + 2) c B) => fsum_any (some ⟨b, off, none⟩) m c (B.take m) wz (hz.cut (by omega))
  have HM : Hid (deM B = decide (sumB (B.take m) = nth B m * 256 + nth B (m + 1))) := by show _ = _; unfold deM; rw [HL.out]; rfl
  have hNu := fun wz => knum_any (nth B m) (nth B (m + 1)) wz bm bm1
  have hsl := sumB_lt (B.take m)
  generalize sumB (B.take m) = S at hSu HM hsl
  have hNl : nth B m * 256 + nth B (m + 1) < 65536 := by omega
  generalize nth B m * 256 + nth B (m + 1) = N at hNu HM hNl
  have hm2 : ((m + 2 : Nat) : Int) - 2 = (m : Int) := by omega
  go_enter Try.func22, Try.ntmps22
  go_wp2_with (first
    | (go_at_call 33; refine (hT w0 hR0).mono ?_; rintro e w1 ⟨rfl, g1⟩; have B1 := B0.keep g1 (by simp); have hR1 := hR0.keep g1))
  go_quiet (fail)
  have gq := grown_drewN w1 nq none
  have B2 := B1.keep gq (by simp)
  have hR2 := hR1.keep gq
  have g12 := grown_trans g1 gq
  generalize w1.drewN nq = w2 at gq B2 hR2 g12 ⊢
  obtain ⟨x0, x1⟩ := X w2 g12
  have hS2 := fun q => Calls.quiet_of_same (n := q) (hSu (w2.drewN q) (hR2.keep (grown_drewN w2 q none)))
  go_wp2
  go_quiet (first
    | (go_at_call 34; with_reducible exact hS2 _)
    | (go_at_call 35; exact Calls.quiet_of_same (hNu _)))
  have gq3 := grown_drewN w2 nq none
  have B3 := B2.keep gq3 (by simp)
  have hR3 := hR2.keep gq3
  have g13 := grown_trans g12 gq3
  generalize w2.drewN nq = w3 at gq3 B3 hR3 g13 ⊢
  clear x0 x1 hS2
  by_cases hM : S = N
  case neg =>
    have hE : deE B = 9 := by unfold deE; rw [if_pos hs, HM.out, decide_eq_false hM, if_neg (by decide)]
    obtain ⟨e1, e2⟩ := de_no hE (by decide)
    have HE : Hid (deE B = 9) := hE
    have HD : Hid (deD B = []) := e1
    have HA : Hid (deA B none 0 0 = orA 0 false false 0 none 0 0) := e2
    clear e1 e2
    have lM : (((S : Int) != (N : Int)) : Bool) = true := by simp; omega
    clear hM HM hE HF
    go_wp2_with (first
      | (have _t := t2; refine wpList_stX _ rfl _ (.tmp 2) (.tmp 43) rfl w.heap.size _ _ rfl rfl B3 i5 rfl (by simp [Value.oneCell']) ?_; clear t2; intro w9 b9 g9))
    refine bodyPost_ret (results_cell1t rfl _ _ _ ⟨w.heap.size, 0, none⟩ _ (.int .i64 9) rfl (BxS.load (t := 62) b9 Try.underlying62 Try.info_or) rfl) rfl ?_
    exact ⟨none, 0, 0, by rw [HA.out, HE.out]; rfl, by rw [HD.out]; exact ans_nil _ _, grown_far (grown_trans g0 g13) g9 (fun q e => by cases e; exact Nat.le_refl _)⟩
  have hMt : deM B = true := by rw [HM.out]; exact decide_eq_true hM
  subst hM
  clear HM
  have hcr : nmN B % 1024 < 1024 := Nat.mod_lt _ (by decide)
  have hsq := hR.byte.nth 4
  have hK := fun wz => khead_any (nmN B % 1024) (bpB B) (coB B) (nth B 4) (m + 2) none 0 0 wz hcr hsq (by omega) (by omega)
  have hW := fun wz => wkind_any (nmN B % 1024 : Nat) (bpB B) (coB B) (nth B 4 : Nat) none 0 0 wz
  have hEq := fun wz => arr5_u8 (nth B 0) (nth B 1) (nth B 2) (nth B 3) (nth B 4) (naN (nmN B % 1024) (bpB B) (coB B) / 256) (naN (nmN B % 1024) (bpB B) (coB B) % 256) ((m + 2 - 1) / 256) ((m + 2 - 1) % 256) (nth B 4) wz
  have hAr := fun wz => arr_at (P := Try.prog) (w := wz) 78 _ 5 (some ⟨b, off, none⟩) (m + 2) c Try.underlying78 (by omega)
  rw [show decide ([nth B 0, nth B 1, nth B 2, nth B 3, nth B 4] = [naN (nmN B % 1024) (bpB B) (coB B) / 256, naN (nmN B % 1024) (bpB B) (coB B) % 256, (m + 2 - 1) / 256, (m + 2 - 1) % 256, nth B 4]) = fmB B from HF] at hEq
  have hE : Hid (deE B = if fmB B && !(coB B && !bpB B) then 0 else 8) := by show _ = _; unfold deE; rw [if_pos hs, if_pos hMt]
  clear HF
  have hH : ∀ wz, Rd wz (some ⟨b, off, none⟩) (m + 2) c B → Calls Try.prog 36 #[.slice (some ⟨b, off, none⟩) (m + 2) c] wz fun e w' => e = .returned (.agg (orA (nmN B % 1024 : Nat) (bpB B) (coB B) (nth B 4 : Nat) none 0 0)) ∧ wz.grownBy w' none := hH
  unfold hoA fvA at hK
  unfold orA at hH hK hW
  generalize hcrv : nmN B % 1024 = CR at hH hK hW hEq hcr
  generalize hbpv : bpB B = BP at hH hK hW hEq hE
  generalize hcov : coB B = CO at hH hK hW hEq hE
  generalize hfmv : fmB B = FM at hEq hE
  generalize naN CR BP CO / 256 = p0 at hK hEq
  generalize naN CR BP CO % 256 = p1 at hK hEq
  generalize (m + 2 - 1) / 256 = p2 at hK hEq
  generalize (m + 2 - 1) % 256 = p3 at hK hEq
  have hcrv : Hid (nmN B % 1024 = CR) := hcrv
  have hbpv : Hid (bpB B = BP) := hbpv
  have hcov : Hid (coB B = CO) := hcov
  have t5 : True := trivial
  go_wp2_with (first
    | (go_at_call 36; have _t := t5; clear t5; refine (hH w3 hR3).mono ?_; rintro e w4 ⟨rfl, g4⟩))
  have gA := World.grownBy_alloc w4 (.cells #[.int .i64 (CR : Int), .bool BP, .bool CO, .int .i64 (nth B 4 : Int), .slice none 0 0] 62) none
  have O5 := BxS.new w4 62 #[.int .i64 (CR : Int), .bool BP, .bool CO, .int .i64 (nth B 4 : Int), .slice none 0 0]
  have g15 := grown_trans (grown_trans g13 g4) gA
  have B5 := (B3.keep g4 (by simp)).keep gA (by simp)
  have hR5 := (hR3.keep g4).keep gA
  have hlt5 : w.heap.size < w4.heap.size := Nat.lt_of_lt_of_le B3.lt g4.size
  generalize w4.alloc (.cells #[.int .i64 (CR : Int), .bool BP, .bool CO, .int .i64 (nth B 4 : Int), .slice none 0 0] 62) = w5 at gA O5 g15 B5 hR5 ⊢
  obtain ⟨c0, c1, c2, c3, c4⟩ := O5.cell5
  obtain ⟨y0, y1, y2, y3, y4⟩ := Y w5 g15
  have hm7 : 6 ≤ m := by omega
  cases FM
  case false =>
    have HE : Hid (deE B = 8) := hE.out
    obtain ⟨e1, e2⟩ := de_no HE.out (by decide)
    have HD : Hid (deD B = []) := e1
    have HA : Hid (deA B none 0 0 = orA 0 false false 0 none 0 0) := e2
    clear e1 e2 hE
    go_region_law (first
      | (go_simp; go_at_call 37; refine (hK _).mono ?_; rintro e w6 ⟨rfl, g6⟩; have k6 := grown_trans (grown_drew w5 none) g6; have g16 := grown_trans g15 k6; have B6 := B5.keep k6 (by simp); have hR6 := hR5.keep k6; have O6 := O5.keep k6 (by simp); obtain ⟨u0, u1, u2, u3, u4⟩ := Y w6 g16; obtain ⟨v0, v1, v2, v3, v4⟩ := O6.cell5))
    all_goals
      go_wp2_with (first
        | (have _t := t2; refine wpList_stX _ rfl _ (.tmp 2) (.tmp 58) rfl w.heap.size _ _ rfl rfl B6 i5 rfl (by simp [Value.oneCell']) ?_; clear t2; intro w9 b9 g9))
      refine bodyPost_ret (results_cell1t rfl _ _ _ ⟨w.heap.size, 0, none⟩ _ (.int .i64 8) rfl (BxS.load (t := 62) b9 Try.underlying62 Try.info_or) rfl) rfl ?_
      exact ⟨none, 0, 0, by rw [HA.out, HE.out]; rfl, by rw [HD.out]; exact ans_nil _ _, grown_far (grown_trans g0 g16) g9 (fun q e => by cases e; exact Nat.le_refl _)⟩
  have hE : Hid (deE B = if !(CO && !BP) then 0 else 8) := by show _ = _; have := hE.out; rw [Bool.true_and] at this; exact this
  generalize hkv : (CO && !BP) = KV at hW hE
  have hkv : Hid ((CO && !BP) = KV) := hkv
  cases KV
  case true =>
    have HE : Hid (deE B = 8) := hE.out
    obtain ⟨e1, e2⟩ := de_no HE.out (by decide)
    have HD : Hid (deD B = []) := e1
    have HA : Hid (deA B none 0 0 = orA 0 false false 0 none 0 0) := e2
    clear e1 e2 hE
    go_region_law (first
      | (go_simp; go_at_call 37; refine (hK _).mono ?_; rintro e w6 ⟨rfl, g6⟩; have k6 := grown_trans (grown_drew w5 none) g6; have g16 := grown_trans g15 k6; have B6 := B5.keep k6 (by simp); have hR6 := hR5.keep k6; have O6 := O5.keep k6 (by simp); obtain ⟨u0, u1, u2, u3, u4⟩ := Y w6 g16; obtain ⟨v0, v1, v2, v3, v4⟩ := O6.cell5)
      | (go_simp; go_at_call 38; refine (hW _).mono ?_; rintro e w7 ⟨rfl, g7⟩; have g17 := grown_trans g16 g7; have B7 := B6.keep g7 (by simp); have hR7 := hR6.keep g7; have O7 := O6.keep g7 (by simp)))
    all_goals
      go_wp2_with (first
        | (have _t := t2; refine wpList_stX _ rfl _ (.tmp 2) (.tmp 58) rfl w.heap.size _ _ rfl rfl B7 i5 rfl (by simp [Value.oneCell']) ?_; clear t2; intro w9 b9 g9))
      refine bodyPost_ret (results_cell1t rfl _ _ _ ⟨w.heap.size, 0, none⟩ _ (.int .i64 8) rfl (BxS.load (t := 62) b9 Try.underlying62 Try.info_or) rfl) rfl ?_
      exact ⟨none, 0, 0, by rw [HA.out, HE.out]; rfl, by rw [HD.out]; exact ans_nil _ _, grown_far (grown_trans g0 g17) g9 (fun q e => by cases e; exact Nat.le_refl _)⟩
  have HE : Hid (deE B = 0) := hE.out
  have HD : Hid (deD B = (B.drop 5).take (m - 5)) := by show _ = _; unfold deD; rw [HE.out, if_pos rfl, HL.out]; rfl
  have HA : ∀ a' n' c', Hid (deA B a' n' c' = orA (CR : Int) BP CO (nth B 4 : Int) a' n' c') := fun a' n' c' => by show _ = _; unfold deA; rw [HE.out, if_pos rfl, if_pos rfl, hcrv.out, hbpv.out, hcov.out]; rfl
  have hP := fun wz (hz : Rd wz (some ⟨b, off, none⟩) (m + 2) c B) => pclone_any b (off + 5) (m - 5) (c - 5) ((B.drop 5).take (m - 5)) wz (hz.part 5 (m - 5) (by omega)) (by omega) (by omega)
  clear hE
  go_region_law (first
    | (go_simp; go_at_call 37; refine (hK _).mono ?_; rintro e w6 ⟨rfl, g6⟩; have k6 := grown_trans (grown_drew w5 none) g6; have g16 := grown_trans g15 k6; have B6 := B5.keep k6 (by simp); have hR6 := hR5.keep k6; have O6 := O5.keep k6 (by simp); obtain ⟨u0, u1, u2, u3, u4⟩ := Y w6 g16; obtain ⟨v0, v1, v2, v3, v4⟩ := O6.cell5)
    | (go_simp; go_at_call 38; refine (hW _).mono ?_; rintro e w7 ⟨rfl, g7⟩; have g17 := grown_trans g16 g7; have B7 := B6.keep g7 (by simp); have hR7 := hR6.keep g7; have O7 := O6.keep g7 (by simp)))
  all_goals
    have t6 : True := trivial
    clear t2
    go_wp2_with (first
      | (go_at_call 19; refine (hP w7 hR7).mono ?_; rintro e w8 ⟨ga, ca, rfl, hA8, g8⟩; have g18 := grown_trans g17 g8; have B8 := B7.keep g8 (by simp); have O8 := O7.keep g8 (by simp))
      | (have _t := t6; refine wpList_stC _ rfl _ _ _ rfl w4.heap.size 4 62 #[.int .i64 (CR : Int), .bool BP, .bool CO, .int .i64 (nth B 4 : Int), .slice none 0 0] #[.int .i64 (CR : Int), .bool BP, .bool CO, .int .i64 (nth B 4 : Int), .slice (some ⟨ga, 0, none⟩) (m - 5) ca] (.slice (some ⟨ga, 0, none⟩) (m - 5) ca) rfl rfl O8 (stc_sl _ _ _ _ _) (by simp) rfl ?_; clear t6; intro wa Oa ga9; have Ba := B8.keep ga9 (by simp; omega); obtain ⟨z0, z1, z2, z3, z4⟩ := Oa.cell5; have t2 : True := trivial)
      | (have _t := t2; refine wpList_stX _ rfl _ (.tmp 2) (.tmp 63) rfl w.heap.size _ _ rfl rfl Ba i5 rfl (by simp [Value.oneCell']) ?_; clear t2; intro w9 b9 g9))
    refine bodyPost_ret (results_cell1t rfl _ _ _ ⟨w.heap.size, 0, none⟩ _ (.int .i64 0) rfl (BxS.load (t := 62) b9 Try.underlying62 Try.info_or) rfl) rfl ?_
    have hsz8 := g18.size
    have hnew := hA8.new ga rfl
    have hlt8 : w4.heap.size < w7.heap.size := O7.lt
    have hA9 := (hA8.kept ga9 (.inr (by simp [Value.ownBlock]; omega))).kept g9 (.inr (by simp [Value.ownBlock]; omega))
    exact ⟨_, _, _, by rw [(HA _ _ _).out, HE.out]; rfl, by rw [HD.out]; exact hA9.wide (by omega), grown_far (grown_far (grown_trans g0 g18) ga9 (fun q e => by cases e; omega)) g9 (fun q e => by cases e; exact Nat.le_refl _)⟩
end

section
theorem alC_all {F : Nat → Rw} : ∀ n, (∀ k, k < n → 1 ≤ (F k).n ∧ (F k).n ≤ 1017) → alC F n = true := by
  intro n
  induction n with
  | zero => intro _; rfl
  | succ n ih =>
    intro h
    have h1 := h n (by omega)
    show (alC F n && kwB (F n).n 1 1017) = true
    rw [ih (fun k hk => h k (by omega)), kwB_t (by omega)]
    rfl
theorem nuL_at (x n k : Nat) (hk : k < n) : (nuL x n).getD k [] = [x + k] := by
  unfold nuL
  rw [List.getD_eq_getElem?_getD, List.getElem?_map, List.getElem?_range' hk]
  simp
theorem cm_nuL (x n : Nat) (m : Int) (h : (n : Int) ≤ m) : cmB (nuL x n).length (rwD (nuL x n)) m = true := by
  unfold cmB
  rw [nuL_len, decide_eq_true h, alC_all n (fun k hk => by
    show 1 ≤ ((nuL x n).getD k []).length ∧ ((nuL x n).getD k []).length ≤ 1017
    rw [nuL_at x n k hk]
    show 1 ≤ 1 ∧ 1 ≤ 1017
    decide)]
  rfl
/-- such a hand may be -/
theorem hi_may {d : Hd} {s f a : Nat} (h : HI d s f a) : hndB d = true := by
  have h1 := h.sa
  have h2 := h.a1
  have h3 := h.fs
  have h4 := h.ah
  have h5 := h.pa
  have h6 := h.pu
  have h7 := h.ti
  have h8 := h.tr
  have h9 := h.si
  have hc : cmB d.S.length (rwD d.S) d.ah = true := by rw [h.S]; exact cm_nuL _ _ _ h.sl
  have hq : cmB d.Q.length (rwD d.Q) 100 = true := by rw [h.Q]; exact cm_nuL _ _ _ (by omega)
  have hh : hlB d.hl = true := by unfold hlB; rcases h.hl with e | e <;> rw [e] <;> decide
  unfold hndB hnB
  rw [h.cr, h.nx, h.li, hc, hq, hh, kwB_t (n := d.ah) (by omega), kwB_t (n := d.pa) (by omega), kwB_t (n := d.pu) (by omega), kwB_t (n := (s : Int)) (by omega), kwB_t (n := d.ti) (by omega), kwB_t (n := d.tr) (by omega), kwB_t (n := d.si) (by omega)]
  decide
/-- what comes of a command's frame -/
theorem frm_de : ∀ k, k < 100 → deE (frm k) = 0 ∧ deD (frm k) = [k] ∧ nmN (frm k) % 1024 = 3 ∧ bpB (frm k) = false ∧ coB (frm k) = false ∧ nth (frm k) 4 = k := by decide +kernel
theorem frm_a (k : Nat) (hk : k < 100) (a : Option Addr) (n c : Nat) : deA (frm k) a n c = orA 3 false false (k : Int) a n c := by
  obtain ⟨e1, e2, e3, e4, e5, e6⟩ := frm_de k hk
  unfold deA
  rw [e1, e3, e4, e5, e6]
  rfl
theorem gT_may (x : Nat × Bool × Bool) (hx : x.1 ≤ 100) : (gT x).may = true := by
  unfold Gt.may gtB gT
  dsimp only
  rw [kwB_t (n := (x.1 : Int)) (by omega)]
  decide
theorem acc_ga (x : Nat × Bool × Bool) (k : Nat) (room : Bool) (hx : x.1 ≤ 100) (hk : k ≤ 99) :
    ((gT x).acc 3 false false (k : Int) [k] room).1 = gT (ga room x k) ∧ ((gT x).acc 3 false false (k : Int) [k] room).2.1 = decide (k = x.1 ∧ room = true) ∧ (((gT x).acc 3 false false (k : Int) [k] room).2.2 = 0 ∨ ((gT x).acc 3 false false (k : Int) [k] room).2.2 = 12 ∨ ((gT x).acc 3 false false (k : Int) [k] room).2.2 = 7 ∨ ((gT x).acc 3 false false (k : Int) [k] room).2.2 = 13) := by
  obtain ⟨q1, q2, q3⟩ := que_ga x k room hx hk
  have hE : orE 3 false false (k : Int) ([k] : List Nat).length = 0 := by
    unfold orE
    rw [kwB_t (n := (k : Int)) (by omega)]
    show (if (kwB 3 0 1023 && true) = true then (if (false && !false) = true then 6 else if kwB (1 : Int) 1 1017 = true then 0 else 1) else 2) = 0
    decide
  have e : (gT x).acc 3 false false (k : Int) [k] room = (((gT x).que (k : Int) room).1, decide (((gT x).que (k : Int) room).2 = 0), ((gT x).que (k : Int) room).2) := by
    unfold Gt.acc
    rw [if_pos (gT_may x hx), if_pos hE, if_pos (show (3 : Int) = (gT x).cr from rfl)]
    unfold Gt.tak
    rw [if_neg (by simp), if_neg (by simp)]
  rw [e]
  refine ⟨q1, ?_, q2⟩
  show decide (_ = 0) = decide _
  rw [decide_eq_decide]
  exact q3
/-- what it reports -/
theorem rp_gT (x : Nat × Bool × Bool) (hx : x.1 ≤ 100) : rpV 3 (x.1 : Int) 127 false x.2.1 x.2.2 0 = rpN x.1 false x.2.1 x.2.2 0 ∧ rpE 3 (x.1 : Int) 127 0 = 0 := by
  have h := gT_may x hx
  have h : gtB 3 (x.1 : Int) 127 0 = true := h
  unfold rpV rpE
  rw [if_pos h, if_pos h]
  exact ⟨rfl, rfl⟩
end

section
def reB (cr ah pa pu li : Int) : Bool := kwB cr 0 1023 && kwB ah 1 127 && kwB pa 1 1000 && kwB pu 0 1000 && kwB li 1 100
def reX (cr ah pa pu li z : Int) : Int := if reB cr ah pa pu li = true then z else 0
def reE (cr ah pa pu li : Int) : Nat := if reB cr ah pa pu li = true then 0 else 2
def rw0 : Rw := ⟨none, 0, 0, []⟩
theorem rdr_nil (w : World) (F : Nat → Rw) : RdR w none 0 0 F := ⟨Nat.le_refl _, Nat.zero_le _, fun h => absurd h (by decide), fun i h => absurd h (by omega)⟩
theorem hn_re (cr ah pa pu li : Int) : hnB cr 0 ah 0 (fun _ => rw0) 0 (fun _ => rw0) 0 pa 0 li pu pu 0 = reB cr ah pa pu li := by
  unfold hnB reB cmB
  rw [show kwB 0 0 255 = true from rfl, show hlB 0 = true from rfl, show alC (fun _ => rw0) 0 = true from rfl, show decide (((0 : Nat) : Int) ≤ 100) = true from rfl]
  cases e1 : kwB cr 0 1023 <;> simp
  cases e2 : kwB ah 1 127 <;> simp
  cases e3 : kwB pa 1 1000 <;> simp
  cases e4 : kwB pu 0 1000 <;> simp
  cases e5 : kwB li 1 100 <;> simp
  have h2 := kwB_ok e2
  have h3 := kwB_ok e3
  have h4 := kwB_ok e4
  have h5 := kwB_ok e5
  refine ⟨⟨⟨by omega, kwB_t (by omega)⟩, kwB_t (by omega)⟩, kwB_t (by omega)⟩
set_option maxHeartbeats 8000000 in
theorem ready_any (cr ah pa pu li : Int) (w : World) : Calls Try.prog 6 #[.int .i64 cr, .int .i64 ah, .int .i64 pa, .int .i64 pu, .int .i64 li] w fun e w' => e = .returned (.tuple #[.agg (hnA (reX cr ah pa pu li cr) 0 (reX cr ah pa pu li ah) (.slice none 0 0) (.slice none 0 0) 0 (reX cr ah pa pu li pa) 0 (reX cr ah pa pu li li) (reX cr ah pa pu li pu) (reX cr ah pa pu li pu) 0), .int .i64 (reE cr ah pa pu li : Nat)]) ∧ w.grownBy w' none := by
  have h0 := fun wz => hmay_any cr 0 ah none 0 0 (fun _ => rw0) none 0 0 (fun _ => rw0) 0 pa 0 li pu pu 0 wz (rdr_nil _ _) (rdr_nil _ _)
  rw [hn_re] at h0
  have b0 := BxS.new w 26 #[.int .i64 0, .int .i64 0, .int .i64 0, .slice none 0 0, .slice none 0 0, .int .i64 0, .int .i64 0, .int .i64 0, .int .i64 0, .int .i64 0, .int .i64 0, .int .i64 0]
  have g0 := World.grownBy_alloc w (.cells #[.int .i64 0, .int .i64 0, .int .i64 0, .slice none 0 0, .slice none 0 0, .int .i64 0, .int .i64 0, .int .i64 0, .int .i64 0, .int .i64 0, .int .i64 0, .int .i64 0] 26) none
  have i12 := Try.info_hn
  unfold reX reE
  generalize reB cr ah pa pu li = b at h0 ⊢
  unfold hnA at h0 ⊢
  generalize hw0 : w.alloc (.cells #[.int .i64 0, .int .i64 0, .int .i64 0, .slice none 0 0, .slice none 0 0, .int .i64 0, .int .i64 0, .int .i64 0, .int .i64 0, .int .i64 0, .int .i64 0, .int .i64 0] 26) = w0 at b0 g0
  have b1 := BxS.new w0 26 #[.int .i64 cr, .int .i64 0, .int .i64 ah, .slice none 0 0, .slice none 0 0, .int .i64 0, .int .i64 pa, .int .i64 0, .int .i64 li, .int .i64 pu, .int .i64 pu, .int .i64 0]
  have g1 := World.grownBy_alloc w0 (.cells #[.int .i64 cr, .int .i64 0, .int .i64 ah, .slice none 0 0, .slice none 0 0, .int .i64 0, .int .i64 pa, .int .i64 0, .int .i64 li, .int .i64 pu, .int .i64 pu, .int .i64 0] 26) none
  have t1 : True := trivial
  cases b
  · go_enter Try.func6, Try.ntmps6
    go_wp2_with (first
      | (go_at_call 14; have _t := t1; clear t1; refine (h0 _).mono ?_; rintro e w2 ⟨rfl, g2⟩; have b2 := (b0.keep g1 (by simp)).keep g2 (by simp); have t2 : True := trivial)
      | (have _t := t2; refine wpList_stX _ rfl _ (.tmp 10) (.tmp 23) rfl w.heap.size _ _ rfl rfl b2 i12 rfl (by simp [Value.oneCell']) ?_; clear t2; intro w9 b9 g9))
    refine bodyPost_ret (results_cell1t rfl _ _ _ ⟨w.heap.size, 0, none⟩ _ (.int .i64 2) rfl (BxS.load (t := 26) b9 Try.underlying26 Try.info_hn) rfl) rfl ?_
    exact ⟨rfl, grown_far (grown_trans (grown_trans g0 g1) g2) g9 (fun q e => by cases e; exact Nat.le_refl _)⟩
  · go_enter Try.func6, Try.ntmps6
    go_wp2_with (first
      | (go_at_call 14; have _t := t1; clear t1; refine (h0 _).mono ?_; rintro e w2 ⟨rfl, g2⟩; have b2 := (b0.keep g1 (by simp)).keep g2 (by simp); obtain ⟨d0, d1, d2, d3, d4, d5, d6, d7, d8, d9, d10, d11⟩ := (b1.keep g2 (by simp)).cell12; have t2 : True := trivial)
      | (have _t := t2; refine wpList_stX _ rfl _ (.tmp 10) (.tmp 24) rfl w.heap.size _ _ rfl rfl b2 i12 rfl (by simp [Value.oneCell']) ?_; clear t2; intro w9 b9 g9))
    refine bodyPost_ret (results_cell1t rfl _ _ _ ⟨w.heap.size, 0, none⟩ _ (.int .i64 0) rfl (BxS.load (t := 26) b9 Try.underlying26 Try.info_hn) rfl) rfl ?_
    exact ⟨rfl, grown_far (grown_trans (grown_trans g0 g1) g2) g9 (fun q e => by cases e; exact Nat.le_refl _)⟩
end

section
def asV (d : Hd) (D : List Nat) : Hd := if hndB d = true then axV d D else hd0
def asE (d : Hd) (D : List Nat) : Nat := if hndB d = true then axE d D else 11
end

section
/-- a variable that holds bytes, as they are read -/
def VrB (g : Nat) (a : Option Addr) (n c : Nat) (D : List Nat) (w : World) : Prop := BxS w g 29 #[.slice a n c] ∧ Rd w a n c D
theorem VrB.keep {g : Nat} {a : Option Addr} {n c : Nat} {D : List Nat} (x y : World) (h : VrB g a n c D x) (hg : x.grownBy y none) : VrB g a n c D y := ⟨h.1.keep hg (by simp), h.2.keep hg⟩
theorem apart_ask_all (gd : Nat) (a : Option Addr) (n c : Nat) (D : List Nat) (d : Hd) (X : Hx) (w : World) (hv : VrB gd a n c D w) (h : RdHd w X d) :
    Calls Try.prog 16 #[.agg #[.int .i64 d.cr, .int .i64 d.nx, .int .i64 d.ah, .slice X.sa X.sn X.sc, .slice X.qa X.qn X.qc, .int .i64 d.ti, .int .i64 d.pa, .int .i64 d.tr, .int .i64 d.li, .int .i64 d.si, .int .i64 d.pu, .int .i64 d.hl], .func (.func 17) #[] #[.pointer (some ⟨gd, 0, none⟩)]] w fun e w' => ∃ (P1 : Hx) (rs1 qs1 : List Rw) (xa : Option Addr) (xn xc : Nat), e = .returned (.tuple #[.agg #[.int .i64 (asV d D).cr, .int .i64 (asV d D).nx, .int .i64 (asV d D).ah, .slice P1.sa P1.sn P1.sc, .slice P1.qa P1.qn P1.qc, .int .i64 (asV d D).ti, .int .i64 (asV d D).pa, .int .i64 (asV d D).tr, .int .i64 (asV d D).li, .int .i64 (asV d D).si, .int .i64 (asV d D).pu, .int .i64 (asV d D).hl], .slice xa xn xc, .int .i64 (asE d D : Int)]) ∧ OwHd w' w.heap.size P1 rs1 qs1 (asV d D) ∧ w.grownBy w' none := by
  cases hB : hndB d with
  | false =>
    obtain ⟨F, hF1, hF2⟩ := h.s.ex
    obtain ⟨K, hK1, hK2⟩ := h.q.ex
    have hq := hnd_of hF1 hF2 hK1 hK2 h.s.len h.q.len
    rw [hB] at hq
    have e1 : asV d D = hd0 := if_neg (by rw [hB]; simp)
    have e2 : asE d D = 11 := if_neg (by rw [hB]; simp)
    rw [e1, e2]
    refine (apart_bad _ d.cr d.nx d.ah X.sa X.sn X.sc F X.qa X.qn X.qc K d.ti d.pa d.tr d.li d.si d.pu d.hl w hF1 hK1 hq).mono ?_
    rintro e w' ⟨rfl, hg⟩
    exact ⟨hx0, [], [], none, 0, 0, rfl, owHd_nil _ _, hg⟩
  | true =>
    have e1 : asV d D = axV d D := if_pos hB
    have e2 : asE d D = axE d D := if_pos hB
    rw [e1, e2]
    obtain ⟨_, n1, n2, _, _, _, _⟩ := hnd_ok hB
    refine (apart_ask gd d (axV d D) [] (axE d D) X w (VrB gd a n c D) (fun x y hx hg => hx.keep x y hg) hv hB h (fun lo wz g Z rs qs hi hlo hb hO => ask1_any gd a n c D d lo wz g Z rs qs hi.1 hi.2 hlo hb hO (by omega))).mono ?_
    rintro e w' ⟨P1, rs1, qs1, xa, xn, xc, us1, rfl, h1, _, _, hg⟩
    exact ⟨P1, rs1, qs1, xa, xn, xc, rfl, h1, hg⟩
set_option maxHeartbeats 32000000 in
theorem ask2_any (X : Hx) (d : Hd) (a : Option Addr) (n c : Nat) (D : List Nat) (w : World) (h : RdHd w X d) (hR : Rd w a n c D) :
    Calls Try.prog 9 #[.agg #[.int .i64 d.cr, .int .i64 d.nx, .int .i64 d.ah, .slice X.sa X.sn X.sc, .slice X.qa X.qn X.qc, .int .i64 d.ti, .int .i64 d.pa, .int .i64 d.tr, .int .i64 d.li, .int .i64 d.si, .int .i64 d.pu, .int .i64 d.hl], .slice a n c] w fun e w' => ∃ (P1 : Hx) (rs1 qs1 : List Rw), e = .returned (.tuple #[.agg #[.int .i64 (asV d D).cr, .int .i64 (asV d D).nx, .int .i64 (asV d D).ah, .slice P1.sa P1.sn P1.sc, .slice P1.qa P1.qn P1.qc, .int .i64 (asV d D).ti, .int .i64 (asV d D).pa, .int .i64 (asV d D).tr, .int .i64 (asV d D).li, .int .i64 (asV d D).si, .int .i64 (asV d D).pu, .int .i64 (asV d D).hl], .int .i64 (asE d D : Int)]) ∧ OwHd w' w.heap.size P1 rs1 qs1 (asV d D) ∧ w.grownBy w' none := by
  have b0 := BxS.new w 26 #[.int .i64 d.cr, .int .i64 d.nx, .int .i64 d.ah, .slice X.sa X.sn X.sc, .slice X.qa X.qn X.qc, .int .i64 d.ti, .int .i64 d.pa, .int .i64 d.tr, .int .i64 d.li, .int .i64 d.si, .int .i64 d.pu, .int .i64 d.hl]
  have g0 := World.grownBy_alloc w (.cells #[.int .i64 d.cr, .int .i64 d.nx, .int .i64 d.ah, .slice X.sa X.sn X.sc, .slice X.qa X.qn X.qc, .int .i64 d.ti, .int .i64 d.pa, .int .i64 d.tr, .int .i64 d.li, .int .i64 d.si, .int .i64 d.pu, .int .i64 d.hl] 26) none
  generalize hw0 : w.alloc (.cells #[.int .i64 d.cr, .int .i64 d.nx, .int .i64 d.ah, .slice X.sa X.sn X.sc, .slice X.qa X.qn X.qc, .int .i64 d.ti, .int .i64 d.pa, .int .i64 d.tr, .int .i64 d.li, .int .i64 d.si, .int .i64 d.pu, .int .i64 d.hl] 26) = w0 at b0 g0
  have hz0 : w0.heap.size = w.heap.size + 1 := by rw [← hw0]; simp
  have b1 := BxS.new w0 29 #[.slice a n c]
  have g1 := World.grownBy_alloc w0 (.cells #[.slice a n c] 29) none
  generalize hw1 : w0.alloc (.cells #[.slice a n c] 29) = w1 at b1 g1
  have hz1 : w1.heap.size = w.heap.size + 1 + 1 := by rw [← hw1]; simp [hz0]
  rw [hz0] at b1
  have b2 := BxS.new w1 26 #[.int .i64 0, .int .i64 0, .int .i64 0, .slice none 0 0, .slice none 0 0, .int .i64 0, .int .i64 0, .int .i64 0, .int .i64 0, .int .i64 0, .int .i64 0, .int .i64 0]
  have g2 := World.grownBy_alloc w1 (.cells #[.int .i64 0, .int .i64 0, .int .i64 0, .slice none 0 0, .slice none 0 0, .int .i64 0, .int .i64 0, .int .i64 0, .int .i64 0, .int .i64 0, .int .i64 0, .int .i64 0] 26) none
  generalize hw2 : w1.alloc (.cells #[.int .i64 0, .int .i64 0, .int .i64 0, .slice none 0 0, .slice none 0 0, .int .i64 0, .int .i64 0, .int .i64 0, .int .i64 0, .int .i64 0, .int .i64 0, .int .i64 0] 26) = w2 at b2 g2
  rw [hz1] at b2
  have sz2 : w.heap.size + 3 ≤ w2.heap.size := by rw [← hw2]; simp [hz1]
  have p0 := (b0.keep g1 (by simp)).keep g2 (by simp)
  have p1 := b1.keep g2 (by simp)
  have G2 := grown_trans (grown_trans g0 g1) g2
  have kA := apart_ask_all (w.heap.size + 1) a n c D d X w2 ⟨p1, hR.keep G2⟩ (h.keep G2)
  generalize asV d D = W at *
  generalize asE d D = Er at *
  have i12 := Try.info_hn3
  obtain ⟨c0, c1, c2, c3, c4, c5, c6, c7, c8, c9, c10, c11⟩ := p0.cell12
  have s0 : True := trivial
  go_enter Try.func9, Try.ntmps9
  go_wp2_with (first
    | (go_at_call 16; have _t := s0; clear s0; refine kA.mono ?_; rintro e w3 ⟨P1, rs1, qs1, xa, xn, xc, rfl, h3, y3⟩; have p0 := p0.keep y3 (by simp); have p2 := b2.keep y3 (by simp); clear c0 c1 c2 c3 c4 c5 c6 c7 c8 c9 c10 c11; have s1 : True := trivial)
    | (have _t := s1; clear s1; refine wpList_stX _ rfl _ (.tmp 2) (.tmp 12) rfl w.heap.size _ _ rfl rfl p0 i12 rfl (by simp [Value.oneCell']) ?_; intro w4 p4 u4; obtain ⟨c0, c1, c2, c3, c4, c5, c6, c7, c8, c9, c10, c11⟩ := p4.cell12; have p24 := p2.keep u4 (fun e => by have := Option.some.inj e; omega); have s2 : True := trivial)
    | (have _t := s2; clear s2; refine wpList_stX _ rfl _ (.tmp 4) (.tmp 15) rfl (w.heap.size + 1 + 1) _ _ rfl rfl p24 i12 rfl (by simp [Value.oneCell']) ?_; intro w9 b9 g9))
  refine bodyPost_ret (results_cell1t rfl _ _ _ ⟨w.heap.size + 1 + 1, 0, none⟩ _ (.int .i64 (Er : Int)) rfl (BxS.load (t := 26) b9 Try.underlying26 i12) rfl) rfl ?_
  have h4 := h3.fz (fz_of2 u4) (fun x hx e => by have := h3.lo' x hx; have e := Option.some.inj e; omega)
  have h9 := h4.fz (fz_of2 g9) (fun x hx e => by have := h3.lo' x hx; have e := Option.some.inj e; omega)
  exact ⟨P1, rs1, qs1, rfl, ⟨h9.s.wide (by omega), h9.q.wide (by omega), h9.ap⟩, grown_far (grown_far (grown_trans G2 y3) u4 (fun q e => by have e := Option.some.inj e; omega)) g9 (fun q e => by have e := Option.some.inj e; omega)⟩
end
end Go.Proofs.Ytlfacjpehhcdiaa
