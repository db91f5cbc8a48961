import Derived.Test.YtbgbohddkfaacaaCSpr
namespace Go.Proofs.Ytbgbohddkfaacaa
open Go.RowKit
set_option maxRecDepth 100000
set_option linter.unusedVariables false
set_option linter.unusedSimpArgs false

theorem kept_bad (z : Int) (hz : ¬ (1 ≤ z ∧ z ≤ 5)) (w : World) : Calls Try.prog 38 #[.int .i64 z] w fun e w' => e = .returned (patV 0) ∧ w.grownBy w' none := by
  have e1 : (z == 1) = false := by simp; omega
  have e2 : (z == 2) = false := by simp; omega
  have e3 : (z == 3) = false := by simp; omega
  have e4 : (z == 4) = false := by simp; omega
  have e5 : (z == 5) = false := by simp; omega
  clear hz
  go_enter Try.func38, Try.ntmps38
  go_wp2
  refine bodyPost_ret (v := patV _) (by simp [results, Try.results38, go_sem, patV, pF, pS]) rfl ⟨rfl, World.grownBy_alloc _ _ _⟩
/-- are they all bits? -/
def bitsOk (B : List Nat) : Bool := B.all fun x => decide (x < 2)
theorem bits_of (B : List Nat) (h : bitsOk B = true) : IsBit B := by
  intro i
  by_cases hi : i < B.length
  · have := List.all_eq_true.1 h (B[i]) (List.getElem_mem hi)
    unfold nth; rw [List.getD_eq_getElem?_getD, List.getElem?_eq_getElem hi]
    simpa using this
  · rw [nth_out B i (by omega)]; decide
theorem of_bits (B : List Nat) (h : ∀ i, i < B.length → nth B i < 2) : bitsOk B = true := by
  refine List.all_eq_true.2 fun x hx => ?_
  obtain ⟨i, hi, rfl⟩ := List.mem_iff_getElem.1 hx
  have := h i hi
  unfold nth at this; rw [List.getD_eq_getElem?_getD, List.getElem?_eq_getElem hi] at this
  simpa using this
abbrev rateOk (z : Int) : Prop := 1 ≤ z ∧ z ≤ 5
/-- what Spread answers, whatever came in -/
def sprE (B : List Nat) (z : Int) : Int := if rateOk z then (if B.length ≤ 16384 then (if bitsOk B = true then 0 else 2) else 1) else 6
def sprL (B : List Nat) (z : Int) : List Nat := if sprE B z = 0 then outN z.toNat B (B.length + 6) else []
theorem sprL_le (B : List Nat) (z : Int) : (sprL B z).length ≤ 40000 := by
  unfold sprL
  split
  · next h =>
    have : B.length ≤ 16384 := by
      unfold sprE at h
      split at h
      · split at h
        · assumption
        · cases h
      · cases h
    have h2 := cntN_le z.toNat (B.length + 6)
    rw [outN_len]; omega
  · simp
theorem alloc2 (w : World) (o : Obj) : w.grownBy (w.alloc o) none := World.grownBy_alloc w o none
set_option maxHeartbeats 2000000 in
theorem Spread_all (a : Option Addr) (n cap : Nat) (z : Int) (B : List Nat) (w : World) (hp : Rd w a n cap B) :
    Calls Try.prog 17 #[.slice a n cap, .int .i64 z] w fun e w' => ∃ a' n' c', e = .returned (.tuple #[.slice a' n' c', .int .i64 (sprE B z)]) ∧ Ans w' w.heap.size a' n' c' (sprL B z) ∧ w.grownBy w' none := by
  have hm1 := hp.le; have hm2 := hp.max
  unfold maxLen at hm2
  by_cases hz : rateOk z
  · obtain ⟨r, rfl⟩ := Int.eq_ofNat_of_zero_le (a := z) (by have := hz.1; omega)
    have h1 : 1 ≤ r := by have := hz.1; omega
    have h2 : r ≤ 5 := by have := hz.2; omega
    have HK := fun w' => kept_any r h2 w'
    have HS := fun w' hp' hn hb => spread_any a n cap r B w' hp' hn hb h1 h2
    unfold patV at HK HS
    have hq : ((pF r).toList == []) = false := by
      rcases (by omega : r = 1 ∨ r = 2 ∨ r = 3 ∨ r = 4 ∨ r = 5) with rfl | rfl | rfl | rfl | rfl <;> decide +kernel
    go_enter Try.func17, Try.ntmps17
    by_cases hn : n ≤ 16384
    · go_wp2_with (go_at_call 38; refine (HK _).mono ?_; rintro e w1 ⟨rfl, g1⟩)
      have hb1 := box_new w1 r
      have hgb := grown_trans g1 (World.grownBy_alloc w1 (.cells #[.string (pF r), .string (pS r)] 60) none)
      generalize hwb : w1.alloc (.cells #[.string (pF r), .string (pS r)] 60) = wb at *
      have c0 := hb1.c0
      have c1 := hb1.c1
      have hp1 := hp.keep hgb
      have HLn : Hid (B.length = n) := hp.len
      go_loop [19] (fun i => ∃ k : Nat, k ≤ n ∧ i = .int .i64 k ∧ ∀ j, j < k → nth B j < 2) (fun i => n - (intOf i).toNat)
      case atStart => exact ⟨0, by omega, rfl, fun j hj => by omega⟩
      case round =>
        obtain ⟨k, hk, rfl, hbk⟩ := hrel
        have HBK : Hid (∀ j, j < k → nth B j < 2) := hbk
        clear hbk
        by_cases hlt : k < n
        · obtain ⟨bb, off, rfl, hbw, hcc⟩ := hp1.at' (by omega)
          have hck := hcc k hlt
          clear hcc
          by_cases hx : nth B k < 2
          · go_wp2
            go_round
            case rel => exact ⟨k + 1, by omega, by go_num, fun j hj => by
              by_cases e : j = k
              · rw [e]; exact hx
              · exact HBK.out j (by omega)⟩
            case measure => simp [intOf]; omega
          · have HE : Hid (sprE B (r : Int) = 2) := by
              show _ = _
              unfold sprE
              rw [if_pos hz, if_pos (by rw [HLn.out]; exact hn), if_neg (fun h => hx (bits_of B h k))]
            have HL : Hid (sprL B (r : Int) = []) := by show _ = _; unfold sprL; rw [HE.out, if_neg (by decide)]
            go_wp2
            go_ret2
            exact ⟨none, 0, 0, by rw [HE.out]; rfl, by rw [HL.out]; exact ans_nil _ _, hgb⟩
        · obtain rfl : k = n := by omega
          have hbo := of_bits B (fun i hi => HBK.out i (by rw [← HLn.out]; exact hi))
          have HE : Hid (sprE B (r : Int) = 0) := by
            show _ = _
            unfold sprE
            rw [if_pos hz, if_pos (by rw [HLn.out]; exact hn), if_pos hbo]
          have HL : Hid (sprL B (r : Int) = outN r B (k + 6)) := by show _ = _; unfold sprL; rw [HE.out, if_pos rfl, HLn.out, Int.toNat_natCast]
          have HSP := HS wb hp1 hn (bits_of B hbo)
          clear HS hbo
          go_wp2_with (go_at_call 39; refine HSP.mono ?_; rintro e w2 ⟨a2, c2, rfl, hA2, g2⟩)
          go_ret2
          exact ⟨a2, _, c2, by rw [HE.out]; rfl, by rw [HL.out]; exact hA2.wide hgb.size, grown_trans hgb g2⟩
    · have HE : Hid (sprE B (r : Int) = 1) := by show _ = _; unfold sprE; rw [if_pos hz, if_neg (by rw [hp.len]; exact hn)]
      have HL : Hid (sprL B (r : Int) = []) := by show _ = _; unfold sprL; rw [HE.out, if_neg (by decide)]
      go_wp2_with (go_at_call 38; refine (HK _).mono ?_; rintro e w1 ⟨rfl, g1⟩)
      go_ret2
      exact ⟨none, 0, 0, by rw [HE.out]; rfl, by rw [HL.out]; exact ans_nil _ _, grown_trans g1 (World.grownBy_alloc _ _ _)⟩
  · have HE : Hid (sprE B z = 6) := by show _ = _; unfold sprE; rw [if_neg hz]
    have HL : Hid (sprL B z = []) := by show _ = _; unfold sprL; rw [HE.out, if_neg (by decide)]
    have HK := fun w' => kept_bad z hz w'
    unfold patV pF pS at HK
    simp only [OfNat.ofNat, Nat.reduceEqDiff, if_false] at HK
    clear hz
    go_enter Try.func17, Try.ntmps17
    go_wp2_with (go_at_call 38; refine (HK _).mono ?_; rintro e w1 ⟨rfl, g1⟩)
    go_ret2
    exact ⟨none, 0, 0, by rw [HE.out]; rfl, by rw [HL.out]; exact ans_nil _ _, grown_trans g1 (World.grownBy_alloc _ _ _)⟩
end Go.Proofs.Ytbgbohddkfaacaa
