import Derived.Test.YtlmddjkplnbadaaNUn2
import Derived.Test.YtlmddjkplnbadaaKxNs
namespace Go.Proofs.Ytlmddjkplnbadaa
open Go.RowKit
set_option maxRecDepth 100000
set_option linter.unusedVariables false
set_option linter.unusedSimpArgs false

/-- why bytes are no frame (0: they are) -/
def unE (B : List Nat) : Nat := if siB (B.length : Int) = true then (if numB (B.drop (B.length - 2)) = sumB (B.take (B.length - 2)) then (if unOk B then 0 else 8) else 9) else 1
def unV (B : List Nat) : Array Value := if unE B = 0 then heA (unN B / 16 : Nat) (unN B / 2 % 8 : Nat) (nth B 2 : Nat) (nth B 3 : Nat) (unF B % 2048 : Nat) else heA 0 0 0 0 0
def unD (B : List Nat) : List Nat := if unE B = 0 then (B.drop 6).take (B.length - 12) else []
def unS (B : List Nat) : Nat := if unE B = 0 then numB ((B.drop (B.length - 6)).take 4) else 0
theorem un_no (B : List Nat) (E : Nat) (h : unE B = E) (h0 : 0 < E) (w : World) (lo : Nat) :
    ∃ a' n' c', (Value.tuple #[.agg (heA 0 0 0 0 0), .slice none 0 0, .int .i64 0, .int .i64 (E : Int)]) = .tuple #[.agg (unV B), .slice a' n' c', .int .i64 (unS B : Nat), .int .i64 (unE B : Nat)] ∧ Ans w lo a' n' c' (unD B) := by
  have hn : ¬ unE B = 0 := by omega
  refine ⟨none, 0, 0, ?_, ?_⟩
  · unfold unV unS
    rw [if_neg hn, if_neg hn, h]
    rfl
  · unfold unD
    rw [if_neg hn]
    exact ans_nil w lo
theorem nth_take (B : List Nat) (m i : Nat) (h : i < m) : nth (B.take m) i = nth B i := by
  unfold nth
  rw [List.getD_eq_getElem?_getD, List.getElem?_take, if_pos h, ← List.getD_eq_getElem?_getD]
theorem unOk_take (B : List Nat) : unOk (B.take 6) ↔ unOk B := by
  unfold unOk unN unF
  rw [nth_take _ _ _ (by decide), nth_take _ _ _ (by decide), nth_take _ _ _ (by decide), nth_take _ _ _ (by decide)]
theorem unN_take (B : List Nat) : unN (B.take 6) = unN B := by unfold unN; rw [nth_take _ _ _ (by decide), nth_take _ _ _ (by decide)]
theorem unF_take (B : List Nat) : unF (B.take 6) = unF B := by unfold unF; rw [nth_take _ _ _ (by decide), nth_take _ _ _ (by decide)]
set_option maxHeartbeats 8000000 in
theorem unpack_any (a : Option Addr) (n cap : Nat) (B : List Nat) (w : World) (hR : Rd w a n cap B) :
    Calls Try.prog 20 #[.slice a n cap] w fun e w' => ∃ a' n' c', e = .returned (.tuple #[.agg (unV B), .slice a' n' c', .int .i64 (unS B : Nat), .int .i64 (unE B : Nat)]) ∧ Ans w' w.heap.size a' n' c' (unD B) ∧ w.grownBy w' none := by
  have HL : Hid (B.length = n) := hR.len
  have hle := hR.le
  have hmx := hR.max
  unfold maxLen at hmx
  have i5 := Try.info_hd
  have b0 := BxS.new w 28 (heA 0 0 0 0 0)
  have g0 := World.grownBy_alloc w (.cells (heA 0 0 0 0 0) 28) none
  have h2 := fun wz => fsize_any (n : Int) wz
  have t1 : True := trivial
  by_cases hs : siB (n : Int) = true
  · rw [hs] at h2
    have hs' : 13 ≤ (n : Int) ∧ (n : Int) ≤ 2048 := of_decide_eq_true hs
    obtain ⟨m, rfl⟩ : ∃ m, n = m + 12 := ⟨n - 12, by omega⟩
    obtain ⟨b, off, rfl, hbw, _⟩ := hR.at' (by omega)
    unfold heA at b0 g0
    generalize hw0 : w.alloc (.cells #[.int .i64 0, .int .i64 0, .int .i64 0, .int .i64 0, .int .i64 0] 28) = w0 at b0 g0
    have z1 : ((m : Int) + 12 - 2) = ((m + 10 : Nat) : Int) := by omega
    have z2 : ((m : Int) + 12 - 2).toNat = m + 10 := by omega
    have z3 : IntKind.i64.wrap ((m : Int) + 12 - 2) = ((m + 10 : Nat) : Int) := by rw [z1]; exact wrap_i64_in _ (by omega) (by omega)
    go_enter Try.func20, Try.ntmps20
    go_wp2_with (first
      | (go_at_call 44; have _t := t1; clear t1; refine (h2 _).mono ?_; rintro e wx ⟨rfl, hw⟩; have hw := hw.symm; subst hw))
    go_quiet (fail)
    rw [show m + 12 - (m + 10) = 2 by omega]
    generalize hdr : w0.drewN nq = w1
    have g1 := grown_drewN w0 nq none
    rw [hdr] at g1
    have b1 := b0.keep g1 (by simp)
    have hR1 := (hR.keep g0).keep g1
    have hSu := hR1.part (m + 10) 2 (by omega)
    have hAh := hR1.cut (m := m + 10) (by omega)
    have hHd := hR1.cut (m := 6) (by omega)
    have hnu := number_any _ _ _ _ w1 hSu (by decide)
    have hfs := fsum_any _ _ _ _ w1 hAh
    have hrh := readHead2_any b off cap (B.take 6) w1 hHd
    have HE : Hid (unE B = if numB ((B.drop (m + 10)).take 2) = sumB (B.take (m + 10)) then (if unOk B then 0 else 8) else 9) := by
      show _ = _
      unfold unE
      rw [HL.out, if_pos hs, show m + 12 - 2 = m + 10 by omega, List.take_of_length_le (l := B.drop (m + 10)) (by rw [List.length_drop, HL.out]; omega)]
    generalize numB ((B.drop (m + 10)).take 2) = s1 at hnu HE
    generalize sumB (B.take (m + 10)) = s2 at hfs HE
    have t1 : True := trivial
    clear hs h2 hdr
    by_cases hss : s1 = s2
    · have hne : (((s1 : Int) != (s2 : Int)) : Bool) = false := by simp [hss]
      rw [if_pos hss] at HE
      clear hss
      by_cases ho : unOk B
      · rw [if_pos ((unOk_take B).2 ho), unN_take, unF_take, nth_take _ _ _ (by decide), nth_take _ _ _ (by decide)] at hrh
        rw [if_pos ho] at HE
        unfold heA at hrh
        have kx : unN B / 16 < 4096 := by have h0 := hR.byte.nth 0; have h1 := hR.byte.nth 1; unfold unN; omega
        have ky : unN B / 2 % 8 < 8 := Nat.mod_lt _ (by decide)
        have kz : unF B % 2048 < 2048 := Nat.mod_lt _ (by decide)
        have HV : Hid (unV B = heA (unN B / 16 : Nat) (unN B / 2 % 8 : Nat) (nth B 2 : Nat) (nth B 3 : Nat) (unF B % 2048 : Nat)) := by show _ = _; unfold unV; rw [HE.out, if_pos rfl]
        have HD : Hid (unD B = (B.drop 6).take m) := by show _ = _; unfold unD; rw [HE.out, if_pos rfl, HL.out]; rfl
        have HS : Hid (unS B = numB ((B.drop (m + 6)).take 4)) := by show _ = _; unfold unS; rw [HE.out, if_pos rfl, HL.out]; rfl
        have z4 : ((m : Int) + 10 - 4) = ((m + 6 : Nat) : Int) := by omega
        generalize unN B / 16 = x0 at *
        generalize unN B / 2 % 8 = x1 at *
        generalize nth B 2 = x2 at *
        generalize nth B 3 = x3 at *
        generalize unF B % 2048 = x4 at *
        go_wp2_with (first
          | (go_at_call 47; have _t := t1; clear t1; refine hnu.mono ?_; rintro e wx ⟨rfl, hw⟩; have hw := hw.symm; subst hw; have t2 : True := trivial)
          | (go_at_call 13; have _t := t2; clear t2; refine hfs.mono ?_; rintro e wx ⟨rfl, hw⟩; have hw := hw.symm; subst hw; have t3 : True := trivial)
          | (go_at_call 48; have _t := t3; clear t3; refine hrh.mono ?_; rintro e w2 ⟨rfl, g2⟩))
        have p3 := BxS.new w2 28 #[.int .i64 (x0 : Int), .int .i64 (x1 : Int), .int .i64 (x2 : Int), .int .i64 (x3 : Int), .int .i64 (x4 : Int)]
        have g3 := World.grownBy_alloc w2 (.cells #[.int .i64 (x0 : Int), .int .i64 (x1 : Int), .int .i64 (x2 : Int), .int .i64 (x3 : Int), .int .i64 (x4 : Int)] 28) none
        generalize w2.alloc (.cells #[.int .i64 (x0 : Int), .int .i64 (x1 : Int), .int .i64 (x2 : Int), .int .i64 (x3 : Int), .int .i64 (x4 : Int)] 28) = w3 at p3 g3 ⊢
        have g13 := grown_trans g2 g3
        have G3 := grown_trans (grown_trans g0 g1) g13
        have b3 := b1.keep g13 (by simp)
        have hgp : w.heap.size < w2.heap.size := Nat.lt_of_lt_of_le b1.lt g2.size
        have hR3 := hR1.keep g13
        have gD := grown_drew w3 none
        have pD := p3.keep gD (by simp)
        have bD := b3.keep gD (by simp)
        have hRD := hR3.keep gD
        have hCl := hRD.part 6 m (by omega)
        have hSt := hRD.part (m + 6) 4 (by omega)
        obtain ⟨c0, c1, c2, c3, c4⟩ := p3.cell5
        obtain ⟨d0, d1, d2, d3, d4⟩ := b3.cell5
        have f0 := b3.free 0; have f1 := b3.free 1; have f2 := b3.free 2; have f3 := b3.free 3; have f4 := b3.free 4
        have y1 : ((m : Int) + 6).toNat = m + 6 := by omega
        have y2 : (6 : Int) ≤ (m : Int) + 6 := by omega
        have y3 : (m : Int) + 6 ≤ (m : Int) + 10 := by omega
        have y4 : m + 6 ≤ cap := by omega
        have y5 : (m : Int) + 6 ≤ (cap : Int) := by omega
        have y6 : m + 6 ≤ m + 10 := by omega
        have y0 : (0 : Int) ≤ (m : Int) + 6 := by omega
        have q6 : ¬ cap = 6 := by omega
        have q7 : ¬ cap = m + 6 := by omega
        clear hAh hHd hSu hR hR1 hR3 hw0 b0 b1 g0 g1 g2 hrh hfs hnu z1 z2 z3
        go_region_law (first
          | (go_simp; go_at_call 49; refine (pclone_any b (off + 6) m (cap - 6) _ _ hCl (by omega) (by omega)).mono ?_; rintro e w4 ⟨gc, cc, rfl, hA4, g4⟩; have p4 := pD.keep g4 (by simp); have b4 := bD.keep g4 (by simp); have hSt4 := hSt.keep g4; obtain ⟨c40, c41, c42, c43, c44⟩ := p4.cell5; obtain ⟨d40, d41, d42, d43, d44⟩ := b4.cell5; have f40 := b4.free 0; have f41 := b4.free 1; have f42 := b4.free 2; have f43 := b4.free 3; have f44 := b4.free 4)
          | (go_simp; go_at_call 47; refine (number_any _ _ _ _ _ hSt (by omega)).mono ?_; rintro e wx ⟨rfl, hw⟩; have hw := hw.symm; subst hw)
          | (go_simp; go_at_call 47; refine (number_any _ _ _ _ _ hSt4 (by omega)).mono ?_; rintro e wx ⟨rfl, hw⟩; have hw := hw.symm; subst hw))
        all_goals
          have b5 := b4.set5 (.int .i64 (x0 : Int)) (.int .i64 (x1 : Int)) (.int .i64 (x2 : Int)) (.int .i64 (x3 : Int)) (.int .i64 (x4 : Int))
          have g5 := set5_grown w4 w.heap.size (.int .i64 (x0 : Int)) (.int .i64 (x1 : Int)) (.int .i64 (x2 : Int)) (.int .i64 (x3 : Int)) (.int .i64 (x4 : Int))
          unfold set5 at b5 g5
          generalize ((((w4.setCell ⟨w.heap.size, 0, none⟩ (.int .i64 (x0 : Int))).setCell ⟨w.heap.size, 1, none⟩ (.int .i64 (x1 : Int))).setCell ⟨w.heap.size, 2, none⟩ (.int .i64 (x2 : Int))).setCell ⟨w.heap.size, 3, none⟩ (.int .i64 (x3 : Int))).setCell ⟨w.heap.size, 4, none⟩ (.int .i64 (x4 : Int)) = w9 at b5 g5 ⊢
          go_wp2
          have hz3 : w3.heap.size ≤ gc := hA4.new gc rfl
          have hz4 := p3.lt
          refine bodyPost_ret (results_cell4 rfl _ _ _ ⟨w.heap.size, 0, none⟩ _ (.slice (some ⟨gc, 0, none⟩) m cc) (.int .i64 (numB ((B.drop (m + 6)).take 4) : Nat)) (.int .i64 0) rfl (BxS.load (t := 28) b5 Try.underlying28 Try.info_hd) rfl rfl rfl) rfl ?_
          refine ⟨some ⟨gc, 0, none⟩, m, cc, ?_, ?_, ?_⟩
          · rw [HE.out, HV.out, HS.out]; rfl
          · rw [HD.out]
            exact (hA4.kept g5 (.inr (by simp [Value.ownBlock]; omega))).wide (by show w.heap.size ≤ w3.heap.size; omega)
          · exact grown_far (grown_trans (grown_trans G3 gD) g4) g5 (fun q e => by cases e; exact Nat.le_refl _)
      · rw [if_neg (fun h => ho ((unOk_take B).1 h))] at hrh
        rw [if_neg ho] at HE
        unfold heA at hrh
        go_wp2_with (first
          | (go_at_call 47; have _t := t1; clear t1; refine hnu.mono ?_; rintro e wx ⟨rfl, hw⟩; have hw := hw.symm; subst hw; have t2 : True := trivial)
          | (go_at_call 13; have _t := t2; clear t2; refine hfs.mono ?_; rintro e wx ⟨rfl, hw⟩; have hw := hw.symm; subst hw; have t3 : True := trivial)
          | (go_at_call 48; have _t := t3; clear t3; refine hrh.mono ?_; rintro e w2 ⟨rfl, g2⟩; have gA := World.grownBy_alloc w2 (.cells #[.int .i64 0, .int .i64 0, .int .i64 0, .int .i64 0, .int .i64 0] 28) none; have b2 := b1.keep (grown_trans g2 gA) (by simp); have t4 : True := trivial)
          | (have _t := t4; refine wpList_stX _ rfl _ (.tmp 2) (.tmp 40) rfl w.heap.size _ _ rfl rfl b2 i5 rfl (by simp [Value.oneCell']) ?_; clear t4; intro w9 b9 g9))
        refine bodyPost_ret (results_cell4 rfl _ _ _ ⟨w.heap.size, 0, none⟩ _ (.slice none 0 0) (.int .i64 0) (.int .i64 8) rfl (BxS.load (t := 28) b9 Try.underlying28 Try.info_hd) rfl rfl rfl) rfl ?_
        obtain ⟨a', n', c', e, hA⟩ := un_no B 8 HE.out (by decide) w9 w.heap.size
        exact ⟨a', n', c', congrArg Ending.returned e, hA, grown_far (grown_trans (grown_trans g0 g1) (grown_trans g2 gA)) g9 (fun q e => by cases e; exact Nat.le_refl _)⟩
    · have hne : (((s1 : Int) != (s2 : Int)) : Bool) = true := by simp; omega
      rw [if_neg hss] at HE
      clear hss
      go_wp2_with (first
        | (go_at_call 47; have _t := t1; clear t1; refine hnu.mono ?_; rintro e wx ⟨rfl, hw⟩; have hw := hw.symm; subst hw; have t2 : True := trivial)
        | (go_at_call 13; have _t := t2; clear t2; refine hfs.mono ?_; rintro e wx ⟨rfl, hw⟩; have hw := hw.symm; subst hw; have t4 : True := trivial)
        | (have _t := t4; refine wpList_stX _ rfl _ (.tmp 2) (.tmp 31) rfl w.heap.size _ _ rfl rfl b1 i5 rfl (by simp [Value.oneCell']) ?_; clear t4; intro w9 b9 g9))
      refine bodyPost_ret (results_cell4 rfl _ _ _ ⟨w.heap.size, 0, none⟩ _ (.slice none 0 0) (.int .i64 0) (.int .i64 9) rfl (BxS.load (t := 28) b9 Try.underlying28 Try.info_hd) rfl rfl rfl) rfl ?_
      obtain ⟨a', n', c', e, hA⟩ := un_no B 9 HE.out (by decide) w9 w.heap.size
      exact ⟨a', n', c', congrArg Ending.returned e, hA, grown_far (grown_trans g0 g1) g9 (fun q e => by cases e; exact Nat.le_refl _)⟩
  · have HE : Hid (unE B = 1) := by show _ = _; unfold unE; rw [HL.out, if_neg hs]
    rw [Bool.not_eq_true] at hs
    rw [hs] at h2
    unfold heA at b0 g0
    generalize hw0 : w.alloc (.cells #[.int .i64 0, .int .i64 0, .int .i64 0, .int .i64 0, .int .i64 0] 28) = w0 at b0 g0
    clear hs
    go_enter Try.func20, Try.ntmps20
    go_wp2_with (first
      | (go_at_call 44; have _t := t1; clear t1; refine (h2 _).mono ?_; rintro e wx ⟨rfl, hw⟩; have hw := hw.symm; subst hw; have t4 : True := trivial)
      | (have _t := t4; refine wpList_stX _ rfl _ (.tmp 2) (.tmp 15) rfl w.heap.size _ _ rfl rfl b0 i5 rfl (by simp [Value.oneCell']) ?_; clear t4; intro w9 b9 g9))
    refine bodyPost_ret (results_cell4 rfl _ _ _ ⟨w.heap.size, 0, none⟩ _ (.slice none 0 0) (.int .i64 0) (.int .i64 1) rfl (BxS.load (t := 28) b9 Try.underlying28 Try.info_hd) rfl rfl rfl) rfl ?_
    obtain ⟨a', n', c', e, hA⟩ := un_no B 1 HE.out (by decide) w9 w.heap.size
    exact ⟨a', n', c', congrArg Ending.returned e, hA, grown_far (g0) g9 (fun q e => by cases e; exact Nat.le_refl _)⟩
end Go.Proofs.Ytlmddjkplnbadaa
