import Derived.Test.YtpenggkefbbopaaDoorSShort
namespace Go.Proofs.YtpenggkefbbopaaDoor
open Go.RowKit
set_option maxRecDepth 100000
set_option linter.unusedVariables false
set_option linter.unusedSimpArgs false

/-! lists of bools -/
def bat (H : List Bool) (k : Nat) : Bool := H.getD k false
structure RdB (w : World) (a : Option Addr) (n cap : Nat) (H : List Bool) : Prop where
  len : H.length = n
  le : n ≤ cap
  max : cap ≤ maxLen
  at' : 0 < n → ∃ b off, a = some ⟨b, off, none⟩ ∧ b < w.heap.size ∧ ∀ i, i < n → w.cell? ⟨b, off + i, none⟩ = some (.bool (bat H i))
theorem RdB.keep {w w' : World} {a : Option Addr} {n cap : Nat} {H : List Bool} (h : RdB w a n cap H) (hg : w.grownBy w' none) : RdB w' a n cap H := by
  refine ⟨h.len, h.le, h.max, fun h0 => ?_⟩
  obtain ⟨b, off, rfl, hb, hc⟩ := h.at' h0
  refine ⟨b, off, rfl, Nat.lt_of_lt_of_le hb hg.size, fun i hi => ?_⟩
  exact (World.cell?_of_block (w := w) (hg.block b hb (by simp))).trans (hc i hi)
/-- how many of the first k are true -/
def cntB (H : List Bool) : Nat → Nat
  | 0 => 0
  | k + 1 => if bat H k then cntB H k + 1 else cntB H k
theorem cntB_le (H : List Bool) (k : Nat) : cntB H k ≤ k := by
  induction k with
  | zero => exact Nat.le_refl _
  | succ k ih => unfold cntB; split <;> omega
theorem count_any (a : Option Addr) (n cap : Nat) (H : List Bool) (w : World) (hp : RdB w a n cap H) (hn : n ≤ 100000) :
    Calls Tryd.prog 16 #[.slice a n cap] w fun e w' => e = .returned (.int .i64 (cntB H n : Nat)) ∧ w' = w := by
  go_enter Tryd.func16, Tryd.ntmps16
  go_wp2
  go_loop [3, 8] (fun s i => ∃ k : Nat, k ≤ n ∧ i = .int .i64 k ∧ s = .int .i64 (cntB H k : Nat)) (fun _ i => n - (intOf i).toNat)
  case atStart => exact ⟨0, by omega, rfl, rfl⟩
  case round =>
    obtain ⟨k, hk, rfl, rfl⟩ := hrel
    have hle := cntB_le H k
    by_cases hlt : k < n
    · obtain ⟨b, off, rfl, hbw, hc⟩ := hp.at' (by omega)
      have hck := hc k hlt
      by_cases hb : bat H k = true
      · rw [hb] at hck
        have HC : Hid (cntB H (k + 1) = cntB H k + 1) := by show _ = _; simp only [cntB, hb, if_true]
        clear hc hb
        go_wp2
        go_round
        case rel => exact ⟨k + 1, by omega, by go_num, val_int (by rw [HC.out]; omega)⟩
        case measure => simp [intOf]; omega
      · have hb' : bat H k = false := by simpa using hb
        rw [hb'] at hck
        have HC : Hid (cntB H (k + 1) = cntB H k) := by show _ = _; simp only [cntB, hb']; rfl
        clear hc hb hb'
        go_wp2
        go_round
        case rel => exact ⟨k + 1, by omega, by go_num, val_int (by rw [HC.out])⟩
        case measure => simp [intOf]; omega
    · obtain rfl : k = n := by omega
      go_wp2
      go_ret
      exact ⟨rfl, rfl⟩

/-- nought at 1 over the weight of each hole -/
def holN (H : List Bool) (n : Nat) : Nat → List Nat
  | 0 => [1]
  | k + 1 => if bat H k then timR (holN H n k) [1, pow2 ((n : Int) - 1 - k)] else holN H n k
def accM (K : List Nat) (c : Nat) (H : List Bool) : List Nat := trimL ((timR K (holN H H.length H.length)).take c)
def accS (K : List Nat) (c : Nat) (H : List Bool) : List Nat × List Nat := shoL (accM K c H) c (cntB H H.length)
/-- the polynomial that accuses, and the one that tells the sizes -/
def accA (K : List Nat) (c : Nat) (H : List Bool) : List Nat := timR (accS K c H).1 (holN H H.length H.length)
theorem pair_rd1 (w : World) (a : Nat) (ha : a < 256) : Rd (w.alloc (.cells #[.int .u8 1, .int .u8 (a : Int)] 5)) (some ⟨w.heap.size, 0, none⟩) 2 2 [1, a] := by
  have hB : Blk (w.alloc (.cells #[.int .u8 1, .int .u8 (a : Int)] 5)) w.heap.size [1, a] := heap_alloc_new w _
  exact hB.rd (isB_pair 1 a (by decide) ha) rfl (by unfold maxLen; omega)
theorem Rd.trim {w : World} {a : Option Addr} {n cap : Nat} {L : List Nat} (h : Rd w a n cap L) : Rd w a (trimL L).length cap (trimL L) := by
  have h1 := h.cut (m := trimN L L.length) (by rw [h.len]; exact trimN_le L n)
  rw [trimL_len]
  exact h1
theorem acc_trim {w : World} {lo : Nat} {a : Option Addr} {n cap : Nat} {L : List Nat} (h : Ans w lo a n cap L) (q c : Nat) (hq : q ≤ n) (he : L.take q = L.take c) :
    Calls Tryd.prog 29 #[.slice a q cap] w fun e w' => e = .returned (.slice a (trimL (L.take c)).length cap) ∧ w' = w := by
  have h1 := h.rd.cut hq
  refine (strim_any a q cap (L.take q) w h1).mono ?_
  rintro e w' ⟨rfl, rfl⟩
  rw [← he, trimL_len, h1.len]
  exact ⟨rfl, rfl⟩
theorem acc_rd {w : World} {lo : Nat} {a : Option Addr} {n cap : Nat} {L : List Nat} (h : Ans w lo a n cap L) (c : Nat) : Rd w a (trimL (L.take c)).length cap (trimL (L.take c)) := by
  by_cases hc : c ≤ n
  · exact (h.rd.cut hc).trim
  · rw [List.take_of_length_le (by rw [h.len]; omega)]
    exact h.rd.trim
set_option maxHeartbeats 2000000 in
theorem accuse_any (a ab : Option Addr) (m cap n capb c : Nat) (K : List Nat) (H : List Bool) (w : World) (hp : Rd w a m cap K) (hb : RdB w ab n capb H) (hm : m ≤ c) (hn : n ≤ 255) (hc : c ≤ 64) (hh : cntB H n ≤ c) :
    Calls Tryd.prog 18 #[.slice a m cap, .int .i64 c, .int .i64 (cntB H n : Nat), .slice ab n capb] w fun e w' => ∃ a1 n1 c1 a2 n2 c2, e = .returned (.tuple #[.slice a1 n1 c1, .slice a2 n2 c2]) ∧
      Rd w' a1 n1 c1 (accA K c H) ∧ Rd w' a2 n2 c2 (accS K c H).2 ∧ w.grownBy w' none ∧ New w.heap.size a1 ∧ New w.heap.size a2 := by
  have HHl : Hid (H.length = n) := hb.len
  have h1 := one_ans w w.heap.size (Nat.le_refl _)
  have g1 := World.grownBy_alloc w (.cells #[.int .u8 1] 5) none
  go_enter Tryd.func18, Tryd.ntmps18
  go_wp2
  go_loopw [10, 23] (fun p i wr => ∃ (k : Nat) (ag : Option Addr) (ng cg : Nat), k ≤ n ∧ i = .int .i64 k ∧ p = .slice ag ng cg ∧ w.grownBy wr none ∧ Ans wr w.heap.size ag ng cg (holN H n k)) (fun _ i _ => n - (intOf i).toNat)
  case atStart => exact ⟨0, _, 1, 1, by omega, rfl, rfl, g1, h1⟩
  case round =>
    obtain ⟨k, ag, ng, cg, hk, rfl, rfl, hgr, hA⟩ := hrel
    by_cases hlt : k < n
    · obtain ⟨b, off, rfl, hbw, hcc⟩ := (hb.keep hgr).at' (by omega)
      have hck := hcc k hlt
      by_cases hbt : bat H k = true
      · rw [hbt] at hck
        have HC : Hid (timR (holN H n k) [1, pow2 ((n : Int) - 1 - k)] = holN H n (k + 1)) := by show _ = _; simp only [holN, hbt, if_true]
        have hpw := pow2_lt ((n : Int) - 1 - k)
        have hpr := pair_rd1 wr (pow2 ((n : Int) - 1 - k)) hpw
        have gA := World.grownBy_alloc wr (.cells #[.int .u8 1, .int .u8 (pow2 ((n : Int) - 1 - k) : Nat)] 5) none
        have hAr := hA.rd.keep gA
        clear hcc hbt
        go_wp2_with (first
          | (go_at_call 27; refine (power_any ((n : Int) - 1 - k) wr (by omega) (by omega)).mono ?_; rintro e w' ⟨rfl, hw⟩; have hw := hw.symm; subst hw)
          | (go_at_call 26; refine (times_all ag _ ng 2 cg 2 (holN H n k) [1, pow2 ((n : Int) - 1 - k)] _ hAr hpr).mono ?_; rintro e w2 ⟨a2, n2, c2, rfl, h2, g2⟩))
        rw [HC.out] at h2
        go_roundw
        case rel => exact ⟨k + 1, a2, n2, c2, by omega, by go_num, rfl, grown_trans hgr (grown_trans gA g2), h2.wide (Nat.le_trans hgr.size gA.size)⟩
        case measure => simp [intOf]; omega
      · have hb' : bat H k = false := by simpa using hbt
        rw [hb'] at hck
        have HC : Hid (holN H n (k + 1) = holN H n k) := by show _ = _; simp only [holN, hb']; rfl
        clear hcc hbt hb'
        go_wp2
        go_roundw
        case rel => exact ⟨k + 1, ag, ng, cg, by omega, by go_num, rfl, hgr, by rw [HC.out]; exact hA⟩
        case measure => simp [intOf]; omega
    · obtain rfl : k = n := by omega
      have hp0 := hp.keep hgr
      obtain ⟨G, hG⟩ : ∃ G, G = holN H k k := ⟨_, rfl⟩
      rw [← hG] at hA
      have HG : Hid (G = holN H H.length H.length) := by show _ = _; rw [hG, HHl.out]
      clear hG h1
      have tle := timR_le K G
      have t1 : True := trivial
      have hMl : (trimL ((timR K G).take c)).length ≤ c := by
        have h3 := trimL_le ((timR K G).take c)
        rw [List.length_take] at h3
        omega
      have HM : Hid (trimL ((timR K G).take c) = accM K c H) := by show _ = _; rw [HG.out]; rfl
      have HS : Hid (shoL (accM K c H) c (cntB H k) = accS K c H) := by show _ = _; unfold accS; rw [HHl.out]
      have HA : Hid (timR (accS K c H).1 G = accA K c H) := by show _ = _; rw [HG.out]; rfl
      go_wp2_with (first
        | (go_at_call 26; have _t := t1; clear t1; refine (times_all a ag m ng cap cg K G wr hp0 hA.rd).mono ?_; rintro e w2 ⟨a2, n2, c2, rfl, h2, g2⟩; have hn2 := h2.len; have hcap := h2.max.1; have hrd2 := acc_rd h2 c; have hA2 := hA.keep g2; have t2 : True := trivial)
        | (go_at_call 29; refine (acc_trim h2 c c (by omega) rfl).mono ?_; rintro e w' ⟨rfl, hw⟩; have hw := hw.symm; subst hw; rw [HM.out] at hrd2 hMl)
        | (go_at_call 29; refine (acc_trim h2 n2 c (Nat.le_refl _) (by rw [List.take_of_length_le (by omega), List.take_of_length_le (by omega)])).mono ?_; rintro e w' ⟨rfl, hw⟩; have hw := hw.symm; subst hw; rw [HM.out] at hrd2 hMl))
      all_goals
        rw [HM.out]
        go_wp2_with (first
          | (go_at_call 30; refine (shortest_any a2 _ c2 c (cntB H k) w.heap.size (accM K c H) w2 hrd2 (h2.isNew hgr.size) (Nat.le_trans hgr.size g2.size) (trim_top _) hMl hc hh).mono ?_; rintro e w3 ⟨a3, n3, c3, a4, n4, c4, rfl, h3, h4, g3, hN3, hN4⟩; rw [HS.out] at h3 h4)
          | (go_at_call 26; have _t := t2; clear t2; refine (times_all a3 ag n3 ng c3 cg (accS K c H).1 G w3 h3 (hA2.keep g3).rd).mono ?_; rintro e w5 ⟨a5, n5, c5, rfl, h5, g5⟩; rw [HA.out] at h5))
        go_ret2
        exact ⟨_, _, _, _, _, _, rfl, h5.rd, h4.keep g5, grown_trans hgr (grown_trans g2 (grown_trans g3 g5)), h5.isNew (grown_trans hgr (grown_trans g2 g3)).size, hN4⟩
end Go.Proofs.YtpenggkefbbopaaDoor
