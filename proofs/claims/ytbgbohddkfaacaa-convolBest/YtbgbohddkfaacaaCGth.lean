import Derived.Test.YtbgbohddkfaacaaCPrr
import Derived.Test.YtbgbohddkfaacaaCGat
namespace Go.Proofs.Ytbgbohddkfaacaa
open Go.RowKit
set_option maxRecDepth 100000
set_option linter.unusedVariables false
set_option linter.unusedSimpArgs false

/-- what Gather answers, whatever came in -/
def softOk (S : List Int) : Bool := S.all fun x => decide (-7 ≤ x ∧ x ≤ 7)
theorem soft_of (S : List Int) (h : softOk S = true) : ∀ i, -7 ≤ nthI S i ∧ nthI S i ≤ 7 := by
  intro i
  unfold nthI
  by_cases hi : i < S.length
  · have := List.all_eq_true.1 h (S[i]) (List.getElem_mem hi)
    rw [List.getD_eq_getElem?_getD, List.getElem?_eq_getElem hi]
    simpa using this
  · rw [List.getD_eq_getElem?_getD, List.getElem?_eq_none (by omega)]; exact ⟨by decide, by decide⟩
theorem of_soft (S : List Int) (h : ∀ i, i < S.length → -7 ≤ nthI S i ∧ nthI S i ≤ 7) : softOk S = true := by
  refine List.all_eq_true.2 fun x hx => ?_
  obtain ⟨i, hi, rfl⟩ := List.mem_iff_getElem.1 hx
  have := h i hi
  unfold nthI at this; rw [List.getD_eq_getElem?_getD, List.getElem?_eq_getElem hi] at this
  simpa using this
abbrev sizeOk (m : Nat) (n z : Int) : Prop := 0 ≤ n ∧ n ≤ 16384 ∧ m = cntN z.toNat (n.toNat + 6)
def gatE (S : List Int) (n z : Int) : Int := if rateOk z then (if sizeOk S.length n z then (if softOk S = true then 0 else 2) else 1) else 6
def gatL (S : List Int) (n z : Int) : List Nat := if gatE S n z = 0 then folL (mskP (prV z.toNat S) n.toNat) n.toNat else []
def gatC (S : List Int) (n z : Int) : Int := if gatE S n z = 0 then vN (prV z.toNat S) n.toNat (n.toNat + 6) 0 else 0
theorem cnt_pos (r n : Nat) (h1 : 1 ≤ r) (h2 : r ≤ 5) : 0 < cntN r (n + 6) := by
  have := cnt_mono r (show 1 ≤ n + 6 by omega)
  have e : 0 < cntN r 1 := by
    rcases (by omega : r = 1 ∨ r = 2 ∨ r = 3 ∨ r = 4 ∨ r = 5) with rfl | rfl | rfl | rfl | rfl <;> decide +kernel
  omega
set_option maxHeartbeats 4000000 in
theorem Gather_all (a : Option Addr) (m cap : Nat) (n z : Int) (S : List Int) (w : World) (hp : RdI w a m cap S) (hn1 : -9223372036854775808 ≤ n) (hn2 : n ≤ 9223372036854775807) :
    Calls Try.prog 20 #[.slice a m cap, .int .i64 n, .int .i64 z] w fun e w' => ∃ a' n' c', e = .returned (.tuple #[.slice a' n' c', .int .i64 (gatC S n z), .int .i64 (gatE S n z)]) ∧ Ans w' w.heap.size a' n' c' (gatL S n z) ∧ w.grownBy w' none := by
  have hm1 := hp.le; have hm2 := hp.max
  unfold maxLen at hm2
  by_cases hz : rateOk z
  · obtain ⟨r, rfl⟩ := Int.eq_ofNat_of_zero_le (a := z) (by have := hz.1; omega)
    have h1 : 1 ≤ r := by have := hz.1; omega
    have h2 : r ≤ 5 := by have := hz.2; omega
    have HK := fun w' => kept_any r h2 w'
    unfold patV at HK
    have hq : ((pF r).toList == []) = false := by
      rcases (by omega : r = 1 ∨ r = 2 ∨ r = 3 ∨ r = 4 ∨ r = 5) with rfl | rfl | rfl | rfl | rfl <;> decide +kernel
    have hbad : ¬ sizeOk m n (r : Int) → gatE S n r = 1 ∧ gatL S n r = [] ∧ gatC S n r = 0 := by
      intro h
      have e : gatE S n r = 1 := by unfold gatE; rw [if_pos hz, hp.len, if_neg h]
      exact ⟨e, by unfold gatL; rw [e, if_neg (by decide)], by unfold gatC; rw [e, if_neg (by decide)]⟩
    by_cases hn0 : n < 0
    · obtain ⟨HE, HL, HC⟩ := hbad (fun h => by have := h.1; omega)
      rw [HE, HL, HC]
      clear hbad HE HL HC hz
      go_enter Try.func20, Try.ntmps20
      go_wp2_with (go_at_call 38; refine (HK _).mono ?_; rintro e w1 ⟨rfl, g1⟩)
      go_ret3
      exact ⟨none, 0, 0, rfl, ans_nil _ _, grown_trans g1 (World.grownBy_alloc _ _ _)⟩
    · obtain ⟨n, rfl⟩ := Int.eq_ofNat_of_zero_le (a := n) (by omega)
      by_cases hn3 : n ≤ 16384
      · have HC := fun w' => count_any r (n + 6) (by omega) h1 h2 w'
        unfold patV at HC
        have hcl := cntN_le r (n + 6)
        by_cases hsz : m = cntN r (n + 6)
        · have hpos := cnt_pos r n h1 h2
          obtain ⟨b, off, rfl, hbw, hcc⟩ := hp.at' (by omega)
          have hne : ((m : Int) != ((cntN r (n + 6) : Nat) : Int)) = false := by rw [hsz]; simp
          have HS : Hid (m = cntN r (n + 6)) := hsz
          have hSO : sizeOk m (n : Int) (r : Int) := ⟨by omega, by omega, by simpa using hsz⟩
          have hge : gatE S n r = if softOk S = true then 0 else 2 := by unfold gatE; rw [if_pos hz, hp.len, if_pos hSO]
          have hmpos : 0 < m := by omega
          clear hbad hz hSO hsz hcc
          have HP := fun w' h hb hS => mkpricer_any b off m cap (n + 6) r S w' h hb (by omega) HS.out hmpos h1 h2 hS
          unfold patV at HP
          generalize cntN r (n + 6) = cc at hne HC hcl hpos
          go_enter Try.func20, Try.ntmps20
          go_wp2_with (first | (go_at_call 38; refine (HK _).mono ?_; rintro e w1 ⟨rfl, g1⟩; have hb1 := box_new w1 r; have c0 := hb1.c0; have c1 := hb1.c1) | (go_at_call 42; refine (HC _).mono ?_; rintro e w2 ⟨rfl, g2⟩))
          have hB2 := hb1.keep g2
          have gW := grown_trans g1 (grown_trans (World.grownBy_alloc w1 (.cells #[.string (pF r), .string (pS r)] 60) none) g2)
          have hp2 := hp.keep gW
          clear hb1 c0 c1 g1 g2
          have c0 := hB2.c0
          have c1 := hB2.c1
          obtain ⟨b', off', e', hbw2, hcell⟩ := hp2.at' hmpos
          cases e'
          go_loop [36] (fun i => ∃ k : Nat, k ≤ m ∧ i = .int .i64 k ∧ ∀ j, j < k → -7 ≤ nthI S j ∧ nthI S j ≤ 7) (fun i => m - (intOf i).toNat)
          case atStart => exact ⟨0, by omega, rfl, fun j hj => by omega⟩
          case round =>
            obtain ⟨k, hk, rfl, hbk⟩ := hrel
            have HBK : Hid (∀ j, j < k → -7 ≤ nthI S j ∧ nthI S j ≤ 7) := hbk
            clear hbk
            by_cases hlt : k < m
            · have hck := hcell k hlt
              have HCE : Hid (∀ i, i < m → w2.cell? ⟨b, off + i, none⟩ = some (.int .i64 (nthI S i))) := hcell
              clear hcell
              by_cases hx : -7 ≤ nthI S k ∧ nthI S k ≤ 7
              · have HX : Hid (-7 ≤ nthI S k ∧ nthI S k ≤ 7) := hx
                obtain ⟨hx1, hx2⟩ := hx
                generalize nthI S k = x at hx1 hx2 hck
                go_wp2
                go_round
                case rel => exact ⟨k + 1, by omega, by go_num, fun j hj => by
                  by_cases e : j = k
                  · rw [e]; exact HX.out
                  · exact HBK.out j (by omega)⟩
                case measure => simp [intOf]; omega
              · have hso : ¬ softOk S = true := fun h => hx (soft_of S h k)
                rw [if_neg hso] at hge
                have HL : gatL S n r = [] := by unfold gatL; rw [hge, if_neg (by decide)]
                have HC' : gatC S n r = 0 := by unfold gatC; rw [hge, if_neg (by decide)]
                have HEE : Hid (gatL S n r = [] ∧ gatC S n r = 0 ∧ gatE S n r = 2) := ⟨HL, HC', hge⟩
                clear hge HL HC' hso
                by_cases hx1 : nthI S k < -7
                · clear hx
                  go_wp2
                  go_ret3
                  exact ⟨none, 0, 0, by rw [HEE.out.2.1, HEE.out.2.2]; rfl, by rw [HEE.out.1]; exact ans_nil _ _, gW⟩
                · have hx2 : 7 < nthI S k := by omega
                  clear hx
                  go_wp2
                  go_ret3
                  exact ⟨none, 0, 0, by rw [HEE.out.2.1, HEE.out.2.2]; rfl, by rw [HEE.out.1]; exact ans_nil _ _, gW⟩
            · obtain rfl : k = m := by omega
              have hbo := of_soft S (fun i hi => HBK.out i (by rw [← hp.len]; exact hi))
              rw [if_pos hbo] at hge
              have HL : gatL S n r = folL (mskP (prV r S) n) n := by unfold gatL; rw [hge, if_pos rfl]; simp
              have HC' : gatC S n r = vN (prV r S) n (n + 6) 0 := by unfold gatC; rw [hge, if_pos rfl]; simp
              have HEE : Hid (gatL S n r = folL (mskP (prV r S) n) n ∧ gatC S n r = vN (prV r S) n (n + 6) 0 ∧ gatE S n r = 0) := ⟨HL, HC', hge⟩
              have hsb := soft_of S hbo
              have HPP := HP w2 hp2 hbw2 hsb
              clear hge HL HC' hbo hcell HP HBK
              go_wp2_with (first
                | (go_at_call 44; refine HPP.mono ?_; rintro e w3 ⟨gv, gp, rfl, hPri, hgv, hgp, g3⟩; have hGA := gather_any n gv gp (prV r S) (prV_bd r S hsb) w3 hPri hn3)
                | (go_at_call 43; refine hGA.mono ?_; rintro e w4 ⟨a4, c4, rfl, hA4, g4⟩))
              go_ret3
              exact ⟨a4, n, c4, by rw [HEE.out.2.1, HEE.out.2.2]; rfl, by rw [HEE.out.1]; exact hA4.wide (Nat.le_trans gW.size g3.size), grown_trans gW (grown_trans g3 g4)⟩
        · obtain ⟨HE, HL, HC'⟩ := hbad (fun h => hsz (by have := h.2.2; simpa using this))
          rw [HE, HL, HC']
          have hne : ((m : Int) != ((cntN r (n + 6) : Nat) : Int)) = true := by simp; omega
          clear hbad HE HL HC' hz hsz
          generalize cntN r (n + 6) = cc at *
          go_enter Try.func20, Try.ntmps20
          go_wp2_with (first | (go_at_call 38; refine (HK _).mono ?_; rintro e w1 ⟨rfl, g1⟩; have hb1 := box_new w1 r; have c0 := hb1.c0; have c1 := hb1.c1) | (go_at_call 42; refine (HC _).mono ?_; rintro e w2 ⟨rfl, g2⟩))
          go_ret3
          exact ⟨none, 0, 0, rfl, ans_nil _ _, grown_trans g1 (grown_trans (World.grownBy_alloc _ _ _) g2)⟩
      · obtain ⟨HE, HL, HC⟩ := hbad (fun h => by have := h.2.1; omega)
        rw [HE, HL, HC]
        clear hbad HE HL HC hz
        go_enter Try.func20, Try.ntmps20
        go_wp2_with (go_at_call 38; refine (HK _).mono ?_; rintro e w1 ⟨rfl, g1⟩)
        go_ret3
        exact ⟨none, 0, 0, rfl, ans_nil _ _, grown_trans g1 (World.grownBy_alloc _ _ _)⟩
  · have e : gatE S n z = 6 := by unfold gatE; rw [if_neg hz]
    have HL : gatL S n z = [] := by unfold gatL; rw [e, if_neg (by decide)]
    have HC : gatC S n z = 0 := by unfold gatC; rw [e, if_neg (by decide)]
    rw [e, HL, HC]
    have HK := fun w' => kept_bad z hz w'
    unfold patV pF pS at HK
    simp only [OfNat.ofNat, Nat.reduceEqDiff, if_false] at HK
    clear hz e HL HC
    go_enter Try.func20, Try.ntmps20
    go_wp2_with (go_at_call 38; refine (HK _).mono ?_; rintro e w1 ⟨rfl, g1⟩)
    go_ret3
    exact ⟨none, 0, 0, rfl, ans_nil _ _, grown_trans g1 (World.grownBy_alloc _ _ _)⟩
end Go.Proofs.Ytbgbohddkfaacaa
