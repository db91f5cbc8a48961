import Derived.Test.YtncpignmijgghaaKxO
import Derived.Test.YtncpignmijgghaaNUn2
import Derived.Test.YtncpignmijgghaaKxA
import Derived.Test.YtncpignmijgghaaPDec
namespace Go.Proofs.Ytncpignmijgghaa
open Go.RowKit
set_option maxRecDepth 100000
set_option linter.unusedVariables false
set_option linter.unusedSimpArgs false

/-- what Encode answers -/
def ordB (cr : Int) (bp co : Bool) (sq : Int) (D : List Nat) : List Nat := if orE cr bp co sq D.length = 0 then orL cr.toNat bp co sq.toNat D else []
theorem orL_len (cr : Nat) (bp co : Bool) (sq : Nat) (D : List Nat) : (orL cr bp co sq D).length = D.length + 7 := by
  unfold orL orP hoL
  simp
theorem ordB_len (cr : Int) (bp co : Bool) (sq : Int) (D : List Nat) : (ordB cr bp co sq D).length ≤ 1024 := by
  unfold ordB
  split
  · rename_i h
    have := (orE_ok h).2.2.2
    rw [orL_len]; omega
  · simp
theorem five_new (w : World) (z0 z1 z2 z3 z4 : Int) (x0 x1 x2 x3 x4 : Nat) (e0 : z0 = x0) (e1 : z1 = x1) (e2 : z2 = x2) (e3 : z3 = x3) (e4 : z4 = x4) (h0 : x0 < 256) (h1 : x1 < 256) (h2 : x2 < 256) (h3 : x3 < 256) (h4 : x4 < 256) :
    Ans (w.alloc (.cells #[.int .u8 z0, .int .u8 z1, .int .u8 z2, .int .u8 z3, .int .u8 z4] 5)) w.heap.size (some ⟨w.heap.size, 0, none⟩) 5 5 [x0, x1, x2, x3, x4] := by
  subst e0 e1 e2 e3 e4
  refine ⟨⟨rfl, .inr ⟨w.heap.size, 5, #[.int .u8 x0, .int .u8 x1, .int .u8 x2, .int .u8 x3, .int .u8 x4], rfl, Nat.zero_le _, heap_alloc_new w _, Nat.le_refl _, by decide, rfl, rfl⟩⟩, ?_, fun g hg => ?_⟩
  · intro x hx
    simp at hx
    omega
  · have e : w.heap.size = g := Option.some.inj hg
    omega
set_option maxHeartbeats 8000000 in
theorem robytes_any (cr : Int) (bp co : Bool) (sq : Int) (a : Option Addr) (n c : Nat) (D : List Nat) (w : World) (hR : Rd w a n c D) :
    Calls Try.prog 14 #[.agg (orA cr bp co sq a n c)] w fun e w' => ∃ a' n' c', e = .returned (.tuple #[.slice a' n' c', .int .i64 (orE cr bp co sq n : Nat)]) ∧ Ans w' w.heap.size a' n' c' (ordB cr bp co sq D) ∧ w.grownBy w' none := by
  have HL : Hid (D.length = n) := hR.len
  have hW := fun wz => rorder_any cr bp co sq a n c wz
  have b0 := BxS.new w 40 (orA cr bp co sq a n c)
  have g0 := World.grownBy_alloc w (.cells (orA cr bp co sq a n c) 40) none
  have t1 : True := trivial
  by_cases hE : orE cr bp co sq n = 0
  · obtain ⟨⟨r1, r2⟩, ⟨s1, s2⟩, _, n1, n2⟩ := orE_ok hE
    obtain ⟨cr, rfl⟩ := Int.eq_ofNat_of_zero_le r1
    obtain ⟨sq, rfl⟩ := Int.eq_ofNat_of_zero_le s1
    have HP : Hid (orP cr bp co sq D = [naN cr bp co / 256, naN cr bp co % 256, (n + 6) / 256, (n + 6) % 256, sq] ++ D) := by show _ = _; unfold orP hoL; rw [HL.out]; rfl
    have HO : Hid (ordB (cr : Int) bp co (sq : Int) D = orP cr bp co sq D ++ [sumB (orP cr bp co sq D) / 256, sumB (orP cr bp co sq D) % 256]) := by show _ = _; unfold ordB; rw [HL.out, if_pos hE]; rfl
    rw [hE] at hW ⊢
    have p1 := toNat_le bp
    have p2 := toNat_le co
    have hN : naN cr bp co < 65536 := by unfold naN; omega
    have hA : bits .or .i64 (bits .or .i64 ((bp.toNat : Int) * 8192) ((co.toNat : Int) * 4096)) (cr : Int) = ((naN cr bp co : Nat) : Int) := by
      rw [show ((bp.toNat : Int) * 8192) = ((bp.toNat * 2 ^ 13 : Nat) : Int) by omega, show ((co.toNat : Int) * 4096) = ((co.toNat * 4096 : Nat) : Int) by omega, or_put _ _ 13 (by omega) (by omega) (by omega),
        show bp.toNat * 2 ^ 13 + co.toNat * 4096 = (bp.toNat * 2 + co.toNat) * 2 ^ 12 by omega, or_put _ _ 12 (by omega) (by omega) (by omega)]
      unfold naN
      omega
    generalize naN cr bp co = N at HP hN hA
    generalize ordB (cr : Int) bp co (sq : Int) D = O at HO ⊢
    generalize orP cr bp co sq D = P at HO HP
    have hS := sumB_lt P
    unfold orA at hW b0 g0 ⊢
    generalize hw0 : w.alloc (.cells #[.int .i64 (cr : Int), .bool bp, .bool co, .int .i64 (sq : Int), .slice a n c] 40) = w0 at b0 g0
    obtain ⟨c0, c1, c2, c3, c4⟩ := b0.cell5
    go_enter Try.func14, Try.ntmps14
    go_wp2_with (first
      | (go_at_call 34; refine (hW _).mono ?_; rintro e w1 ⟨rfl, g1⟩; have g01 := grown_trans g0 g1; have b1 := b0.keep g1 (by simp); clear c0 c1 c2 c3 c4; obtain ⟨c0, c1, c2, c3, c4⟩ := b1.cell5))
    go_quiet ((go_at_call 35; exact Calls.quiet_of_same (bit_any _ _)))
    have g2 := grown_drewN w1 nq none
    have b2 := b1.keep g2 (by simp)
    have hR2 := (hR.keep g01).keep g2
    have G2 := grown_trans g01 g2
    generalize w1.drewN nq = w2 at g2 b2 hR2 G2 ⊢
    clear c0 c1 c2 c3 c4
    obtain ⟨c0, c1, c2, c3, c4⟩ := b2.cell5
    have hA5 := five_new w2 ((N : Int) / 256) ((N : Int) % 256) (((n : Int) + 6) / 256) (((n : Int) + 6) % 256) (sq : Int) (N / 256) (N % 256) ((n + 6) / 256) ((n + 6) % 256) sq (by omega) (by omega) (by omega) (by omega) rfl (by omega) (by omega) (by omega) (by omega) (by omega)
    have gA5 := World.grownBy_alloc w2 (.cells #[.int .u8 ((N : Int) / 256), .int .u8 ((N : Int) % 256), .int .u8 (((n : Int) + 6) / 256), .int .u8 (((n : Int) + 6) % 256), .int .u8 (sq : Int)] 5) none
    have hM5 : Mine w2 none (some ⟨w2.heap.size, 0, none⟩) 5 5 := fun g hg => .inr (by have e : w2.heap.size = g := Option.some.inj hg; omega)
    have hR5 := hR2.keep gA5
    have c5a : ∀ o, (w2.alloc o).cell? ⟨w.heap.size, 4, none⟩ = some (.slice a n c) := fun o => (b2.keep (World.grownBy_alloc w2 o none) (by simp)).cell5.2.2.2.2
    have t3 : True := trivial
    go_wp2_with (first
      | (at_builtin; have _t := t3; clear t3; refine wpList_join w2 _ rfl (.tmp 44) (.tmp 46) rfl (some ⟨w2.heap.size, 0, none⟩) 5 5 w2.heap.size none _ rfl hA5 gA5 hM5 (Nat.le_refl _) a n c D rfl hR5 (by omega) (by omega) ?_; intro gx cx w3 hA3 hG3 hM3; rw [← HP.out] at hA3)
      | (go_at_call 36; refine (rsum_any _ _ _ P w3 hA3.rd (by omega)).mono ?_; rintro e w4 ⟨rfl, g4⟩; have hA4 := hA3.keep g4; have hG4 := grown_trans hG3 g4; have gB := fun z0 z1 : Int => World.grownBy_alloc w4 (.cells #[.int .u8 z0, .int .u8 z1] 5) none; have t5 : True := trivial)
      | (at_builtin; have _t := t5; clear t5; refine wpList_join w2 _ rfl (.tmp 50) (.tmp 56) rfl _ _ _ w2.heap.size none P rfl (hA4.keep (gB _ _)) (grown_trans hG4 (gB _ _)) hM3 (Nat.le_refl _) _ 2 2 [sumB P / 256, sumB P % 256] rfl (rd_two w4 _ _ _ _ (by omega) (by omega) (by omega) (by omega)) (by decide) (by omega) ?_; intro gz cz w6 hA6 hG6 hM6))
    go_ret2
    exact ⟨_, _, _, rfl, by rw [HO.out]; exact hA6.wide G2.size, grown_trans G2 hG6⟩
  · have HO : Hid (ordB cr bp co sq D = []) := by show _ = _; unfold ordB; rw [HL.out, if_neg hE]
    generalize orE cr bp co sq n = E at hW hE ⊢
    generalize ordB cr bp co sq D = O at HO ⊢
    unfold orA at hW b0 g0 ⊢
    generalize hw0 : w.alloc (.cells #[.int .i64 cr, .bool bp, .bool co, .int .i64 sq, .slice a n c] 40) = w0 at b0 g0
    obtain ⟨c0, c1, c2, c3, c4⟩ := b0.cell5
    have hne : (((E : Int) != 0) : Bool) = true := by simp; omega
    go_enter Try.func14, Try.ntmps14
    go_wp2_with (first
      | (go_at_call 34; refine (hW _).mono ?_; rintro e w1 ⟨rfl, g1⟩))
    go_ret2
    exact ⟨_, _, _, rfl, by rw [HO.out]; exact ans_nil _ _, grown_trans g0 g1⟩

theorem knum_any (h l : Nat) (w : World) (hh : h < 256) (hl : l < 256) : Calls Try.prog 26 #[.int .u8 h, .int .u8 l] w fun e w' => e = .returned (.int .i64 (h * 256 + l : Nat)) ∧ w' = w := by
  have hA : bits .or .i64 ((h : Int) * 256) (l : Int) = ((h * 256 + l : Nat) : Int) := by
    rw [show ((h : Int) * 256) = ((h * 2 ^ 8 : Nat) : Int) by omega, or_put _ _ 8 (by omega) (by omega) (by omega)]
  generalize h * 256 + l = x at hA ⊢
  go_enter Try.func26, Try.ntmps26
  go_wp2
  go_ret
  exact ⟨rfl, rfl⟩
/-- how many bytes are told -/
def toN (B : List Nat) : Nat := (nth B 2 * 256 + nth B 3) % 1024 + 1
set_option maxHeartbeats 2000000 in
theorem told_any (a : Option Addr) (n c : Nat) (B : List Nat) (w : World) (hR : Rd w a n c B) (hn : 8 ≤ n) : Calls Try.prog 24 #[.slice a n c] w fun e w' => e = .returned (.int .i64 (toN B : Nat)) ∧ w.grownBy w' none := by
  obtain ⟨b, off, rfl, hbw, hcc⟩ := hR.at' (by omega)
  have x2 := hcc 2 (by omega)
  have x3 := hcc 3 (by omega)
  have b2 := hR.byte.nth 2
  have b3 := hR.byte.nth 3
  unfold toN
  have hle := hR.le
  have hmx := hR.max
  unfold maxLen at hmx
  clear hcc hR
  generalize nth B 2 = x at x2 b2 ⊢
  generalize nth B 3 = y at x3 b3 ⊢
  have hN := fun wz => knum_any x y wz b2 b3
  have hl : x * 256 + y < 65536 := by omega
  generalize x * 256 + y = N at hN hl ⊢
  have hA : bits .and .i64 (N : Int) 1023 = ((N % 1024 : Nat) : Int) := i64_low N 10 (by omega) (by decide)
  have hlt : N % 1024 < 1024 := Nat.mod_lt _ (by decide)
  generalize N % 1024 = z at hA hlt ⊢
  have i2 : (2 : Int) < (n : Int) := by omega
  have i3 : (3 : Int) < (n : Int) := by omega
  go_enter Try.func24, Try.ntmps24
  go_wp2
  go_quiet ((go_at_call 26; exact Calls.quiet_of_same (hN _)))
  go_wp2
  go_ret
  exact ⟨rfl, grown_drewN w _ none⟩
/-- the name that is told -/
def nmN (B : List Nat) : Nat := nth B 0 * 256 + nth B 1
set_option maxHeartbeats 4000000 in
theorem rhead_any (a : Option Addr) (n c : Nat) (B : List Nat) (w : World) (hR : Rd w a n c B) (hn : 8 ≤ n) : Calls Try.prog 27 #[.slice a n c] w fun e w' => e = .returned (.agg (orA (nmN B % 1024 : Nat) (decide (nmN B / 8192 % 2 = 1)) (decide (nmN B / 4096 % 2 = 1)) (nth B 4 : Nat) none 0 0)) ∧ w.grownBy w' none := by
  obtain ⟨b, off, rfl, hbw, hcc⟩ := hR.at' (by omega)
  have x0 := hcc 0 (by omega)
  have x1 := hcc 1 (by omega)
  have x4 := hcc 4 (by omega)
  rw [Nat.add_zero] at x0
  have b0 := hR.byte.nth 0
  have b1 := hR.byte.nth 1
  have b4 := hR.byte.nth 4
  unfold nmN
  have hle := hR.le
  have hmx := hR.max
  unfold maxLen at hmx
  clear hcc hR
  generalize nth B 0 = x at x0 b0 ⊢
  generalize nth B 1 = y at x1 b1 ⊢
  generalize nth B 4 = z at x4 b4 ⊢
  have hN := fun wz => knum_any x y wz b0 b1
  have hl : x * 256 + y < 65536 := by omega
  generalize x * 256 + y = N at hN hl ⊢
  have hA : bits .and .i64 (N : Int) 1023 = ((N % 1024 : Nat) : Int) := i64_low N 10 (by omega) (by decide)
  have fb : ∀ k, k < 32 → (bits .and .i64 (N : Int) ((2 ^ k : Nat) : Int) != 0) = decide (N / 2 ^ k % 2 = 1) := fun k hk => by
    rw [i64_and_p2 N k (by omega) (by omega)]
    rcases (show N / 2 ^ k % 2 = 0 ∨ N / 2 ^ k % 2 = 1 by omega) with e | e
    · rw [e, Nat.zero_mul]; rfl
    · rw [e, Nat.one_mul]
      have := Nat.two_pow_pos k
      exact bne_iff_ne.2 (fun h => by have h2 := Int.ofNat_eq_zero.1 h; omega)
  have F13 : Hid ((bits .and .i64 (N : Int) 8192 != 0) = decide (N / 8192 % 2 = 1)) := fb 13 (by decide)
  have F12 : Hid ((bits .and .i64 (N : Int) 4096 != 0) = decide (N / 4096 % 2 = 1)) := fb 12 (by decide)
  clear fb
  have hm : N % 1024 < 1024 := Nat.mod_lt _ (by decide)
  generalize N % 1024 = m at hA hm ⊢
  have B0 := BxS.new w 40 (orA 0 false false 0 none 0 0)
  have g0 := World.grownBy_alloc w (.cells (orA 0 false false 0 none 0 0) 40) none
  unfold orA at B0 g0 ⊢
  have y0 := cell_grown x0 g0 hbw (by simp)
  have y1 := cell_grown x1 g0 hbw (by simp)
  have y4 := cell_grown x4 g0 hbw (by simp)
  generalize hw0 : w.alloc (.cells #[.int .i64 0, .bool false, .bool false, .int .i64 0, .slice none 0 0] 40) = w0 at B0 g0 y0 y1 y4
  have i0 : (0 : Int) < (n : Int) := by omega
  have i1 : (1 : Int) < (n : Int) := by omega
  have i4 : (4 : Int) < (n : Int) := by omega
  have i5 := Try.info_or
  have z4 := cell_grown y4 (grown_drewN w0 0 none) (Nat.lt_of_lt_of_le hbw g0.size) (by simp)
  go_enter Try.func27, Try.ntmps27
  go_wp2
  go_quiet ((go_at_call 26; exact Calls.quiet_of_same (hN _)))
  have g2 := grown_drewN w0 nq none
  have B2 := B0.keep g2 (by simp)
  have u4 := cell_grown y4 g2 (Nat.lt_of_lt_of_le hbw g0.size) (by simp)
  generalize w0.drewN nq = w2 at g2 B2 u4 ⊢
  clear y0 y1 y4 x0 x1 x4 z4
  have t1 : True := trivial
  go_wp2_with (first
    | (have _t := t1; refine wpList_stX _ rfl _ (.tmp 2) (.tmp 23) rfl w.heap.size _ _ rfl rfl B2 i5 rfl (by simp [Value.oneCell']) ?_; clear t1; intro w9 b9 g9))
  refine bodyPost_ret (kres_cell1 rfl _ _ _ ⟨w.heap.size, 0, none⟩ _ rfl (BxS.load (t := 40) b9 Try.underlying40 Try.info_or)) rfl ?_
  exact ⟨by rw [← F13.out, ← F12.out], grown_far (grown_trans g0 g2) g9 (fun q e => by cases e; exact Nat.le_refl _)⟩

theorem arr5_u8 (x0 x1 x2 x3 x4 y0 y1 y2 y3 y4 : Nat) (w : World) : (Op.equalIn 10000 65 (.agg #[.int .u8 x0, .int .u8 x1, .int .u8 x2, .int .u8 x3, .int .u8 x4]) (.agg #[.int .u8 y0, .int .u8 y1, .int .u8 y2, .int .u8 y3, .int .u8 y4])).run Try.prog w = .ok (decide ([x0, x1, x2, x3, x4] = [y0, y1, y2, y3, y4])) w :=
  (arr_u8 Try.underlying65 [x0, x1, x2, x3, x4] [y0, y1, y2, y3, y4] rfl rfl w).trans (by congr 1; rw [Bool.eq_iff_iff]; simp [List.range_succ, Int.natCast_inj, and_assoc])
/-- the head's bits that are always 0 -/
def fmB (B : List Nat) : Bool := decide (nth B 0 / 64 = 0 ∧ nth B 0 / 4 % 4 = 0 ∧ nth B 2 / 4 = 0)
def bpB (B : List Nat) : Bool := decide (nmN B / 8192 % 2 = 1)
def coB (B : List Nat) : Bool := decide (nmN B / 4096 % 2 = 1)
theorem toNat_dec (x : Nat) : (decide (x % 2 = 1)).toNat = x % 2 := by
  rcases (show x % 2 = 0 ∨ x % 2 = 1 by omega) with e | e <;> rw [e] <;> rfl
theorem form_eq (B : List Nat) (hB : IsB B) (n : Nat) (hn : toN B = n) : decide ([nth B 0, nth B 1, nth B 2, nth B 3, nth B 4] = hoL (nmN B % 1024) (bpB B) (coB B) n (nth B 4)) = fmB B := by
  have b0 := hB.nth 0
  have b1 := hB.nth 1
  have b2 := hB.nth 2
  have b3 := hB.nth 3
  unfold toN at hn
  unfold hoL naN bpB coB fmB
  rw [toNat_dec, toNat_dec]
  unfold nmN
  generalize nth B 0 = x0 at *
  generalize nth B 1 = x1 at *
  generalize nth B 2 = x2 at *
  generalize nth B 3 = x3 at *
  have h1 : ([x0, x1, x2, x3, nth B 4] = [((x0 * 256 + x1) / 8192 % 2 * 8192 + (x0 * 256 + x1) / 4096 % 2 * 4096 + (x0 * 256 + x1) % 1024) / 256, ((x0 * 256 + x1) / 8192 % 2 * 8192 + (x0 * 256 + x1) / 4096 % 2 * 4096 + (x0 * 256 + x1) % 1024) % 256, (n - 1) / 256, (n - 1) % 256, nth B 4]) ↔ (x0 / 64 = 0 ∧ x0 / 4 % 4 = 0 ∧ x2 / 4 = 0) := by
    simp only [List.cons.injEq, and_true]
    constructor
    · rintro ⟨h, _, h2, h3⟩
      refine ⟨by omega, by omega, by omega⟩
    · rintro ⟨h, h2, h3⟩
      refine ⟨by omega, by omega, by omega, by omega⟩
  exact decide_eq_decide.2 h1
/-- why bytes are no order (0: they are) -/
def deS (B : List Nat) : Bool := decide (8 ≤ B.length ∧ B.length ≤ 1024 ∧ toN B = B.length)
def deM (B : List Nat) : Bool := decide (sumB (B.take (B.length - 2)) = nth B (B.length - 2) * 256 + nth B (B.length - 1))
def deE (B : List Nat) : Nat := if deS B = true then (if deM B = true then (if fmB B && !(coB B && !bpB B) then 0 else 8) else 9) else 1
def deD (B : List Nat) : List Nat := if deE B = 0 then (B.drop 5).take (B.length - 7) else []
def deA (B : List Nat) (a : Option Addr) (n c : Nat) : Array Value := orA (if deE B = 0 then (nmN B % 1024 : Nat) else (0 : Int)) (decide (deE B = 0) && bpB B) (decide (deE B = 0) && coB B) (if deE B = 0 then (nth B 4 : Nat) else (0 : Int)) a n c
theorem de_no {B : List Nat} {E : Nat} (h : deE B = E) (h0 : E ≠ 0) : deD B = [] ∧ deA B none 0 0 = orA 0 false false 0 none 0 0 := by
  unfold deD deA
  rw [h, if_neg h0, if_neg h0, if_neg h0, decide_eq_false h0]
  exact ⟨rfl, rfl⟩
set_option maxHeartbeats 16000000 in
theorem kdec_any (a : Option Addr) (n c : Nat) (B : List Nat) (w : World) (hR : Rd w a n c B) :
    Calls Try.prog 11 #[.slice a n c] w fun e w' => ∃ a' n' c', e = .returned (.tuple #[.agg (deA B a' n' c'), .int .i64 (deE B : Nat)]) ∧ Ans w' w.heap.size a' n' c' (deD B) ∧ w.grownBy w' none := by
  have HL : Hid (B.length = n) := hR.len
  have hle := hR.le
  have hmx := hR.max
  unfold maxLen at hmx
  have B0 := BxS.new w 40 (orA 0 false false 0 none 0 0)
  have g0 := World.grownBy_alloc w (.cells (orA 0 false false 0 none 0 0) 40) none
  unfold orA at B0 g0
  generalize hw0 : w.alloc (.cells #[.int .i64 0, .bool false, .bool false, .int .i64 0, .slice none 0 0] 40) = w0 at B0 g0
  have hR0 := hR.keep g0
  have i5 := Try.info_or
  have t1 : True := trivial
  have t2 : True := trivial
  by_cases hs : deS B = true
  case neg =>
    have hE : deE B = 1 := by unfold deE; rw [if_neg hs]
    obtain ⟨e1, e2⟩ := de_no hE (by decide)
    rw [hE, e1]
    suffices h : Calls Try.prog 11 #[.slice a n c] w fun e w' => e = .returned (.tuple #[.agg (orA 0 false false 0 none 0 0), .int .i64 1]) ∧ w.grownBy w' none by
      refine h.mono ?_
      rintro e w' ⟨rfl, hg⟩
      exact ⟨none, 0, 0, by rw [e2]; rfl, ans_nil _ _, hg⟩
    unfold orA
    clear e1 e2 hE
    by_cases k0 : n < 8
    · have l0 : (n : Int) < 8 := by omega
      go_enter Try.func11, Try.ntmps11
      go_wp2_with (first
        | (have _t := t2; refine wpList_stX _ rfl _ (.tmp 2) (.tmp 22) rfl w.heap.size _ _ rfl rfl B0 i5 rfl (by simp [Value.oneCell']) ?_; clear t2; intro w9 b9 g9))
      refine bodyPost_ret (results_cell1t rfl _ _ _ ⟨w.heap.size, 0, none⟩ _ (.int .i64 1) rfl (BxS.load (t := 40) b9 Try.underlying40 Try.info_or) rfl) rfl ?_
      exact ⟨rfl, grown_far g0 g9 (fun q e => by cases e; exact Nat.le_refl _)⟩
    have l0 : ¬ (n : Int) < 8 := by omega
    by_cases k1 : 1024 < n
    · have l1 : (1024 : Int) < (n : Int) := by omega
      go_enter Try.func11, Try.ntmps11
      go_wp2_with (first
        | (have _t := t2; refine wpList_stX _ rfl _ (.tmp 2) (.tmp 22) rfl w.heap.size _ _ rfl rfl B0 i5 rfl (by simp [Value.oneCell']) ?_; clear t2; intro w9 b9 g9))
      refine bodyPost_ret (results_cell1t rfl _ _ _ ⟨w.heap.size, 0, none⟩ _ (.int .i64 1) rfl (BxS.load (t := 40) b9 Try.underlying40 Try.info_or) rfl) rfl ?_
      exact ⟨rfl, grown_far g0 g9 (fun q e => by cases e; exact Nat.le_refl _)⟩
    have l1 : ¬ (1024 : Int) < (n : Int) := by omega
    have hne : toN B ≠ n := fun e => hs (decide_eq_true (by rw [HL.out]; exact ⟨by omega, by omega, e⟩))
    have hT := fun wz hz => told_any a n c B wz hz (by omega)
    generalize toN B = T at hT hne
    have l2 : (((n : Int) != (T : Int)) : Bool) = true := by simp; omega
    clear hs hne
    go_enter Try.func11, Try.ntmps11
    go_wp2_with (first
      | (go_at_call 24; refine (hT w0 hR0).mono ?_; rintro e w1 ⟨rfl, g1⟩; have B1 := B0.keep g1 (by simp))
      | (have _t := t2; refine wpList_stX _ rfl _ (.tmp 2) (.tmp 22) rfl w.heap.size _ _ rfl rfl B1 i5 rfl (by simp [Value.oneCell']) ?_; clear t2; intro w9 b9 g9))
    refine bodyPost_ret (results_cell1t rfl _ _ _ ⟨w.heap.size, 0, none⟩ _ (.int .i64 1) rfl (BxS.load (t := 40) b9 Try.underlying40 Try.info_or) rfl) rfl ?_
    exact ⟨rfl, grown_far (grown_trans g0 g1) g9 (fun q e => by cases e; exact Nat.le_refl _)⟩
  have hs' : 8 ≤ B.length ∧ B.length ≤ 1024 ∧ toN B = B.length := of_decide_eq_true hs
  rw [HL.out] at hs'
  obtain ⟨k0, k1, kT⟩ := hs'
  have hT := fun wz hz => told_any a n c B wz hz k0
  have hH := fun wz hz => rhead_any a n c B wz hz k0
  have HF := form_eq B hR.byte n kT
  rw [kT] at hT
  have l0 : ¬ (n : Int) < 8 := by omega
  have l1 : ¬ (1024 : Int) < (n : Int) := by omega
  obtain ⟨m, rfl⟩ : ∃ m, n = m + 2 := ⟨n - 2, by omega⟩
  obtain ⟨b, off, rfl, hbw, hcc⟩ := hR0.at' (by omega)
  have X : ∀ wz : World, w0.grownBy wz none → wz.cell? ⟨b, off + m, none⟩ = some (.int .u8 (nth B m : Nat)) ∧ wz.cell? ⟨b, off + m + 1, none⟩ = some (.int .u8 (nth B (m + 1) : Nat)) := fun wz hz => ⟨cell_grown (hcc m (by omega)) hz hbw (by simp), cell_grown (by rw [Nat.add_assoc]; exact hcc (m + 1) (by omega)) hz hbw (by simp)⟩
  have Y : ∀ wz : World, w0.grownBy wz none → wz.cell? ⟨b, off, none⟩ = some (.int .u8 (nth B 0 : Nat)) ∧ wz.cell? ⟨b, off + 1, none⟩ = some (.int .u8 (nth B 1 : Nat)) ∧ wz.cell? ⟨b, off + 2, none⟩ = some (.int .u8 (nth B 2 : Nat)) ∧ wz.cell? ⟨b, off + 3, none⟩ = some (.int .u8 (nth B 3 : Nat)) ∧ wz.cell? ⟨b, off + 4, none⟩ = some (.int .u8 (nth B 4 : Nat)) := fun wz hz => ⟨cell_grown (hcc 0 (by omega)) hz hbw (by simp), cell_grown (hcc 1 (by omega)) hz hbw (by simp), cell_grown (hcc 2 (by omega)) hz hbw (by simp), cell_grown (hcc 3 (by omega)) hz hbw (by simp), cell_grown (hcc 4 (by omega)) hz hbw (by simp)⟩
  have bm := hR.byte.nth m
  have bm1 := hR.byte.nth (m + 1)
  have hSu := fun wz (hz : Rd wz (some ⟨b, off, none⟩) (m + 2) c B) => fsum_any (some ⟨b, off, none⟩) m c (B.take m) wz (hz.cut (by omega))
  have HM : Hid (deM B = decide (sumB (B.take m) = nth B m * 256 + nth B (m + 1))) := by show _ = _; unfold deM; rw [HL.out]; rfl
  have hNu := fun wz => knum_any (nth B m) (nth B (m + 1)) wz bm bm1
  have hsl := sumB_lt (B.take m)
  generalize sumB (B.take m) = S at hSu HM hsl
  have hNl : nth B m * 256 + nth B (m + 1) < 65536 := by omega
  generalize nth B m * 256 + nth B (m + 1) = N at hNu HM hNl
  have hm2 : ((m + 2 : Nat) : Int) - 2 = (m : Int) := by omega
  go_enter Try.func11, Try.ntmps11
  go_wp2_with (first
    | (go_at_call 24; refine (hT w0 hR0).mono ?_; rintro e w1 ⟨rfl, g1⟩; have B1 := B0.keep g1 (by simp); have hR1 := hR0.keep g1))
  go_quiet (fail)
  have gq := grown_drewN w1 nq none
  have B2 := B1.keep gq (by simp)
  have hR2 := hR1.keep gq
  have g12 := grown_trans g1 gq
  generalize w1.drewN nq = w2 at gq B2 hR2 g12 ⊢
  obtain ⟨x0, x1⟩ := X w2 g12
  have hS2 := fun q => Calls.quiet_of_same (n := q) (hSu (w2.drewN q) (hR2.keep (grown_drewN w2 q none)))
  go_wp2
  go_quiet (first
    | (go_at_call 25; with_reducible exact hS2 _)
    | (go_at_call 26; exact Calls.quiet_of_same (hNu _)))
  have gq3 := grown_drewN w2 nq none
  have B3 := B2.keep gq3 (by simp)
  have hR3 := hR2.keep gq3
  have g13 := grown_trans g12 gq3
  generalize w2.drewN nq = w3 at gq3 B3 hR3 g13 ⊢
  clear x0 x1 hS2
  by_cases hM : S = N
  case neg =>
    have hE : deE B = 9 := by unfold deE; rw [if_pos hs, HM.out, decide_eq_false hM, if_neg (by decide)]
    obtain ⟨e1, e2⟩ := de_no hE (by decide)
    have HE : Hid (deE B = 9) := hE
    have HD : Hid (deD B = []) := e1
    have HA : Hid (deA B none 0 0 = orA 0 false false 0 none 0 0) := e2
    clear e1 e2
    have lM : (((S : Int) != (N : Int)) : Bool) = true := by simp; omega
    clear hM HM hE HF
    go_wp2_with (first
      | (have _t := t2; refine wpList_stX _ rfl _ (.tmp 2) (.tmp 43) rfl w.heap.size _ _ rfl rfl B3 i5 rfl (by simp [Value.oneCell']) ?_; clear t2; intro w9 b9 g9))
    refine bodyPost_ret (results_cell1t rfl _ _ _ ⟨w.heap.size, 0, none⟩ _ (.int .i64 9) rfl (BxS.load (t := 40) b9 Try.underlying40 Try.info_or) rfl) rfl ?_
    exact ⟨none, 0, 0, by rw [HA.out, HE.out]; rfl, by rw [HD.out]; exact ans_nil _ _, grown_far (grown_trans g0 g13) g9 (fun q e => by cases e; exact Nat.le_refl _)⟩
  have hMt : deM B = true := by rw [HM.out]; exact decide_eq_true hM
  subst hM
  clear HM
  have hcr : nmN B % 1024 < 1024 := Nat.mod_lt _ (by decide)
  have hsq := hR.byte.nth 4
  have hK := fun wz => khead_any (nmN B % 1024) (bpB B) (coB B) (nth B 4) (m + 2) none 0 0 wz hcr hsq (by omega) (by omega)
  have hW := fun wz => wkind_any (nmN B % 1024 : Nat) (bpB B) (coB B) (nth B 4 : Nat) none 0 0 wz
  have hEq := fun wz => arr5_u8 (nth B 0) (nth B 1) (nth B 2) (nth B 3) (nth B 4) (naN (nmN B % 1024) (bpB B) (coB B) / 256) (naN (nmN B % 1024) (bpB B) (coB B) % 256) ((m + 2 - 1) / 256) ((m + 2 - 1) % 256) (nth B 4) wz
  have hAr := fun wz => arr_at (P := Try.prog) (w := wz) 65 _ 5 (some ⟨b, off, none⟩) (m + 2) c Try.underlying65 (by omega)
  rw [show decide ([nth B 0, nth B 1, nth B 2, nth B 3, nth B 4] = [naN (nmN B % 1024) (bpB B) (coB B) / 256, naN (nmN B % 1024) (bpB B) (coB B) % 256, (m + 2 - 1) / 256, (m + 2 - 1) % 256, nth B 4]) = fmB B from HF] at hEq
  have hE : Hid (deE B = if fmB B && !(coB B && !bpB B) then 0 else 8) := by show _ = _; unfold deE; rw [if_pos hs, if_pos hMt]
  clear HF
  have hH : ∀ wz, Rd wz (some ⟨b, off, none⟩) (m + 2) c B → Calls Try.prog 27 #[.slice (some ⟨b, off, none⟩) (m + 2) c] wz fun e w' => e = .returned (.agg (orA (nmN B % 1024 : Nat) (bpB B) (coB B) (nth B 4 : Nat) none 0 0)) ∧ wz.grownBy w' none := hH
  unfold hoA fvA at hK
  unfold orA at hH hK hW
  generalize hcrv : nmN B % 1024 = CR at hH hK hW hEq hcr
  generalize hbpv : bpB B = BP at hH hK hW hEq hE
  generalize hcov : coB B = CO at hH hK hW hEq hE
  generalize hfmv : fmB B = FM at hEq hE
  generalize naN CR BP CO / 256 = p0 at hK hEq
  generalize naN CR BP CO % 256 = p1 at hK hEq
  generalize (m + 2 - 1) / 256 = p2 at hK hEq
  generalize (m + 2 - 1) % 256 = p3 at hK hEq
  have hcrv : Hid (nmN B % 1024 = CR) := hcrv
  have hbpv : Hid (bpB B = BP) := hbpv
  have hcov : Hid (coB B = CO) := hcov
  have t5 : True := trivial
  go_wp2_with (first
    | (go_at_call 27; have _t := t5; clear t5; refine (hH w3 hR3).mono ?_; rintro e w4 ⟨rfl, g4⟩))
  have gA := World.grownBy_alloc w4 (.cells #[.int .i64 (CR : Int), .bool BP, .bool CO, .int .i64 (nth B 4 : Int), .slice none 0 0] 40) none
  have O5 := BxS.new w4 40 #[.int .i64 (CR : Int), .bool BP, .bool CO, .int .i64 (nth B 4 : Int), .slice none 0 0]
  have g15 := grown_trans (grown_trans g13 g4) gA
  have B5 := (B3.keep g4 (by simp)).keep gA (by simp)
  have hR5 := (hR3.keep g4).keep gA
  have hlt5 : w.heap.size < w4.heap.size := Nat.lt_of_lt_of_le B3.lt g4.size
  generalize w4.alloc (.cells #[.int .i64 (CR : Int), .bool BP, .bool CO, .int .i64 (nth B 4 : Int), .slice none 0 0] 40) = w5 at gA O5 g15 B5 hR5 ⊢
  obtain ⟨c0, c1, c2, c3, c4⟩ := O5.cell5
  obtain ⟨y0, y1, y2, y3, y4⟩ := Y w5 g15
  have hm7 : 6 ≤ m := by omega
  cases FM
  case false =>
    have HE : Hid (deE B = 8) := hE.out
    obtain ⟨e1, e2⟩ := de_no HE.out (by decide)
    have HD : Hid (deD B = []) := e1
    have HA : Hid (deA B none 0 0 = orA 0 false false 0 none 0 0) := e2
    clear e1 e2 hE
    go_region_law (first
      | (go_simp; go_at_call 28; refine (hK _).mono ?_; rintro e w6 ⟨rfl, g6⟩; have k6 := grown_trans (grown_drew w5 none) g6; have g16 := grown_trans g15 k6; have B6 := B5.keep k6 (by simp); have hR6 := hR5.keep k6; have O6 := O5.keep k6 (by simp); obtain ⟨u0, u1, u2, u3, u4⟩ := Y w6 g16; obtain ⟨v0, v1, v2, v3, v4⟩ := O6.cell5))
    all_goals
      go_wp2_with (first
        | (have _t := t2; refine wpList_stX _ rfl _ (.tmp 2) (.tmp 58) rfl w.heap.size _ _ rfl rfl B6 i5 rfl (by simp [Value.oneCell']) ?_; clear t2; intro w9 b9 g9))
      refine bodyPost_ret (results_cell1t rfl _ _ _ ⟨w.heap.size, 0, none⟩ _ (.int .i64 8) rfl (BxS.load (t := 40) b9 Try.underlying40 Try.info_or) rfl) rfl ?_
      exact ⟨none, 0, 0, by rw [HA.out, HE.out]; rfl, by rw [HD.out]; exact ans_nil _ _, grown_far (grown_trans g0 g16) g9 (fun q e => by cases e; exact Nat.le_refl _)⟩
  have hE : Hid (deE B = if !(CO && !BP) then 0 else 8) := by show _ = _; have := hE.out; rw [Bool.true_and] at this; exact this
  generalize hkv : (CO && !BP) = KV at hW hE
  have hkv : Hid ((CO && !BP) = KV) := hkv
  cases KV
  case true =>
    have HE : Hid (deE B = 8) := hE.out
    obtain ⟨e1, e2⟩ := de_no HE.out (by decide)
    have HD : Hid (deD B = []) := e1
    have HA : Hid (deA B none 0 0 = orA 0 false false 0 none 0 0) := e2
    clear e1 e2 hE
    go_region_law (first
      | (go_simp; go_at_call 28; refine (hK _).mono ?_; rintro e w6 ⟨rfl, g6⟩; have k6 := grown_trans (grown_drew w5 none) g6; have g16 := grown_trans g15 k6; have B6 := B5.keep k6 (by simp); have hR6 := hR5.keep k6; have O6 := O5.keep k6 (by simp); obtain ⟨u0, u1, u2, u3, u4⟩ := Y w6 g16; obtain ⟨v0, v1, v2, v3, v4⟩ := O6.cell5)
      | (go_simp; go_at_call 29; refine (hW _).mono ?_; rintro e w7 ⟨rfl, g7⟩; have g17 := grown_trans g16 g7; have B7 := B6.keep g7 (by simp); have hR7 := hR6.keep g7; have O7 := O6.keep g7 (by simp)))
    all_goals
      go_wp2_with (first
        | (have _t := t2; refine wpList_stX _ rfl _ (.tmp 2) (.tmp 58) rfl w.heap.size _ _ rfl rfl B7 i5 rfl (by simp [Value.oneCell']) ?_; clear t2; intro w9 b9 g9))
      refine bodyPost_ret (results_cell1t rfl _ _ _ ⟨w.heap.size, 0, none⟩ _ (.int .i64 8) rfl (BxS.load (t := 40) b9 Try.underlying40 Try.info_or) rfl) rfl ?_
      exact ⟨none, 0, 0, by rw [HA.out, HE.out]; rfl, by rw [HD.out]; exact ans_nil _ _, grown_far (grown_trans g0 g17) g9 (fun q e => by cases e; exact Nat.le_refl _)⟩
  have HE : Hid (deE B = 0) := hE.out
  have HD : Hid (deD B = (B.drop 5).take (m - 5)) := by show _ = _; unfold deD; rw [HE.out, if_pos rfl, HL.out]; rfl
  have HA : ∀ a' n' c', Hid (deA B a' n' c' = orA (CR : Int) BP CO (nth B 4 : Int) a' n' c') := fun a' n' c' => by show _ = _; unfold deA; rw [HE.out, if_pos rfl, if_pos rfl, hcrv.out, hbpv.out, hcov.out]; rfl
  have hP := fun wz (hz : Rd wz (some ⟨b, off, none⟩) (m + 2) c B) => pclone_any b (off + 5) (m - 5) (c - 5) ((B.drop 5).take (m - 5)) wz (hz.part 5 (m - 5) (by omega)) (by omega) (by omega)
  clear hE
  go_region_law (first
    | (go_simp; go_at_call 28; refine (hK _).mono ?_; rintro e w6 ⟨rfl, g6⟩; have k6 := grown_trans (grown_drew w5 none) g6; have g16 := grown_trans g15 k6; have B6 := B5.keep k6 (by simp); have hR6 := hR5.keep k6; have O6 := O5.keep k6 (by simp); obtain ⟨u0, u1, u2, u3, u4⟩ := Y w6 g16; obtain ⟨v0, v1, v2, v3, v4⟩ := O6.cell5)
    | (go_simp; go_at_call 29; refine (hW _).mono ?_; rintro e w7 ⟨rfl, g7⟩; have g17 := grown_trans g16 g7; have B7 := B6.keep g7 (by simp); have hR7 := hR6.keep g7; have O7 := O6.keep g7 (by simp)))
  all_goals
    have t6 : True := trivial
    clear t2
    go_wp2_with (first
      | (go_at_call 30; refine (hP w7 hR7).mono ?_; rintro e w8 ⟨ga, ca, rfl, hA8, g8⟩; have g18 := grown_trans g17 g8; have B8 := B7.keep g8 (by simp); have O8 := O7.keep g8 (by simp))
      | (have _t := t6; refine wpList_stC _ rfl _ _ _ rfl w4.heap.size 4 40 #[.int .i64 (CR : Int), .bool BP, .bool CO, .int .i64 (nth B 4 : Int), .slice none 0 0] #[.int .i64 (CR : Int), .bool BP, .bool CO, .int .i64 (nth B 4 : Int), .slice (some ⟨ga, 0, none⟩) (m - 5) ca] (.slice (some ⟨ga, 0, none⟩) (m - 5) ca) rfl rfl O8 (stc_sl _ _ _ _ _) (by simp) rfl ?_; clear t6; intro wa Oa ga9; have Ba := B8.keep ga9 (by simp; omega); obtain ⟨z0, z1, z2, z3, z4⟩ := Oa.cell5; have t2 : True := trivial)
      | (have _t := t2; refine wpList_stX _ rfl _ (.tmp 2) (.tmp 63) rfl w.heap.size _ _ rfl rfl Ba i5 rfl (by simp [Value.oneCell']) ?_; clear t2; intro w9 b9 g9))
    refine bodyPost_ret (results_cell1t rfl _ _ _ ⟨w.heap.size, 0, none⟩ _ (.int .i64 0) rfl (BxS.load (t := 40) b9 Try.underlying40 Try.info_or) rfl) rfl ?_
    have hsz8 := g18.size
    have hnew := hA8.new ga rfl
    have hlt8 : w4.heap.size < w7.heap.size := O7.lt
    have hA9 := (hA8.kept ga9 (.inr (by simp [Value.ownBlock]; omega))).kept g9 (.inr (by simp [Value.ownBlock]; omega))
    exact ⟨_, _, _, by rw [(HA _ _ _).out, HE.out]; rfl, by rw [HD.out]; exact hA9.wide (by omega), grown_far (grown_far (grown_trans g0 g18) ga9 (fun q e => by cases e; omega)) g9 (fun q e => by cases e; exact Nat.le_refl _)⟩
end Go.Proofs.Ytncpignmijgghaa
