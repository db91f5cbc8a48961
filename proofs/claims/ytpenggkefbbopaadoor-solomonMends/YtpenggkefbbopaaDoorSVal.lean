import Derived.Test.YtpenggkefbbopaaDoorSGen
import Derived.Test.YtpenggkefbbopaaDoorFAt
namespace Go.Proofs.YtpenggkefbbopaaDoor
open Go.RowKit
set_option maxRecDepth 100000
set_option linter.unusedVariables false
set_option linter.unusedSimpArgs false

theorem trimByte_any (a : Option Addr) (n cap : Nat) (L : List Nat) (w : World) (h : Rd w a n cap L) :
    Calls Tryd.prog 37 #[.slice a n cap, .int .u8 0] w fun e w' => e = .returned (.slice a (trimN L n) cap) ∧ w' = w := by
  obtain ⟨hl, hle, hm, hnil, hb, hat⟩ := h
  unfold maxLen at hm
  go_enter Tryd.func37, Tryd.ntmps37
  go_wp2
  go_loop [0] (fun s => ∃ k : Nat, k ≤ n ∧ s = .slice a k cap ∧ trimN L k = trimN L n) (fun s => match s with | .slice _ k _ => k | _ => 0)
  case atStart => exact ⟨n, by omega, rfl, rfl⟩
  case round =>
    obtain ⟨k, hk, rfl, HK⟩ := hrel
    have HK' : Hid (trimN L k = trimN L n) := HK
    clear HK
    by_cases hk0 : 0 < k
    · obtain ⟨b, off, rfl, hbw, hc⟩ := hat (by omega)
      have hck := hc (k - 1) (by omega)
      have hbk := hb.nth (k - 1)
      clear hat hc hnil
      obtain ⟨j, rfl⟩ : ∃ j, k = j + 1 := ⟨k - 1, by omega⟩
      simp only [Nat.add_sub_cancel] at hck hbk
      by_cases hz : nth L j = 0
      · have hz' : ((nth L j : Int) == 0) = true := by rw [hz]; rfl
        have HZ : Hid (trimN L j = trimN L n) := (trimN_zero L j hz).symm.trans HK'.out
        clear hz
        go_wp2
        go_round
        case rel => exact ⟨j, by omega, by go_num, HZ⟩
        case measure => simp
      · have hz' : ((nth L j : Int) == 0) = false := by simp; omega
        have HZ : Hid (j + 1 = trimN L n) := (trimN_nz L j hz).symm.trans HK'.out
        clear hz
        go_wp2
        go_ret
        exact ⟨by rw [← HZ.out]; rfl, rfl⟩
    · obtain rfl : k = 0 := by omega
      have HZ : Hid (0 = trimN L n) := HK'.out
      go_wp2
      go_ret
      exact ⟨by rw [← HZ.out]; rfl, rfl⟩
theorem strim_any (a : Option Addr) (n cap : Nat) (L : List Nat) (w : World) (h : Rd w a n cap L) :
    Calls Tryd.prog 29 #[.slice a n cap] w fun e w' => e = .returned (.slice a (trimN L n) cap) ∧ w' = w := by
  have H : Calls Tryd.prog 35 #[.slice a n cap, .string ⟨#[0]⟩] w fun e w' => e = .returned (.slice a (trimN L n) cap) ∧ w' = w := by
    have hle := h.le
    have hm := h.max
    unfold maxLen at hm
    by_cases h0 : n = 0
    · subst h0
      go_enter Tryd.func35, Tryd.ntmps35
      go_wp2
      go_ret
      exact ⟨rfl, rfl⟩
    · have hz : ((n : Int) == 0) = false := by simp; omega
      have HT := trimByte_any a n cap L w h
      clear h0
      go_enter Tryd.func35, Tryd.ntmps35
      go_wp2_with (go_at_call 37; refine HT.mono ?_; rintro e w' ⟨rfl, hw⟩; have hw := hw.symm; subst hw)
      go_ret
      exact ⟨rfl, rfl⟩
  go_enter Tryd.func29, Tryd.ntmps29
  go_wp2_with (go_at_call 35; refine H.mono ?_; rintro e w' ⟨rfl, hw⟩; have hw := hw.symm; subst hw)
  go_ret
  exact ⟨rfl, rfl⟩

/-- the values of a word at Power(1), Power(2), .. -/
def synL (W : List Nat) (c : Nat) : List Nat := (List.range c).map fun (j : Nat) => atL W.reverse (pow2 ((j : Int) + 1))
def valL (W : List Nat) (c : Nat) : List Nat := trimL (synL W c)
theorem synL_len (W : List Nat) (c : Nat) : (synL W c).length = c := by simp [synL]
theorem nth_synL (W : List Nat) (c j : Nat) (h : j < c) : nth (synL W c) j = atL W.reverse (pow2 ((j : Int) + 1)) := nth_map_range _ _ _ h
theorem Ans.cut {w : World} {lo g n cap m : Nat} {L : List Nat} (h : Ans w lo (some ⟨g, 0, none⟩) n cap L) (hm : m ≤ n) : Ans w lo (some ⟨g, 0, none⟩) m cap (L.take m) := by
  have hl := h.len
  refine ⟨⟨by rw [bys_length, List.length_take]; omega, ?_⟩, isB_take h.byte _, h.new⟩
  rcases h.own.2 with ⟨h1, _⟩ | ⟨g', cap', cur, h1, h2, h3, h4, h5, h6, h7⟩
  · cases h1
  · cases h1
    refine .inr ⟨g, cap, cur, rfl, h2, h3, by omega, h5, h6, ?_⟩
    have e : bys (L.take m) = (bys L).take m := by simp [bys, List.map_take]
    rw [e, ← h7, List.take_take]
    congr 1
    omega
theorem atL_lt' {P : List Nat} (hP : IsB P) (x : Nat) : atL P x < 256 := horN_lt hP x _
theorem values_any (a : Option Addr) (n cap c : Nat) (W : List Nat) (w : World) (hp : Rd w a n cap W) (h0 : 0 < n) (hn : n ≤ 255) (hc : c ≤ 64) :
    Calls Tryd.prog 17 #[.slice a n cap, .int .i64 c] w fun e w' => ∃ a' c', e = .returned (.slice a' (valL W c).length c') ∧ Ans w' w.heap.size a' (valL W c).length c' (valL W c) ∧ w.grownBy w' none := by
  have hBr := isB_reverse hp.byte
  go_enter Tryd.func17, Tryd.ntmps17
  go_wp2_with (first
    | (go_at_call 14; refine (poly_any a n cap W w hp h0 (by omega)).mono ?_; rintro e w1 ⟨gp, cp, rfl, hp1, g01⟩)
    | (at_make; refine wpList_mkB _ rfl _ _ rfl _ _ c rfl rfl rfl rfl (by omega) ?_; intro w2 hb2 hg12))
  have hp2 := hp1.keep hg12
  go_loopw [14] (fun i wr => ∃ k : Nat, k ≤ c ∧ i = .int .i64 k ∧ w1.grownBy wr none ∧ ∃ D, Blk wr w1.heap.size D ∧ D.length = c ∧ IsB D ∧ ∀ j, j < k → nth D j = nth (synL W c) j) (fun i _ => c - (intOf i).toNat)
  case atStart => exact ⟨0, by omega, rfl, hg12, _, hb2, by simp, isB_zeros _, fun j hj => by omega⟩
  case round =>
    obtain ⟨k, hk, rfl, hgr, D, hB, hDl, hDB, hD⟩ := hrel
    have HDl : Hid (D.length = c) := hDl
    have HD : Hid (∀ j, j < k → nth D j = nth (synL W c) j) := hD
    clear hDl hD
    by_cases hlt : k < c
    · have hpr := hp1.rd.keep hgr
      have hpw := pow2_lt ((k : Int) + 1)
      have HAT := at_any _ n cp (pow2 ((k : Int) + 1)) W.reverse wr hpr hpw (by omega)
      have hvl := atL_lt' hBr (pow2 ((k : Int) + 1))
      obtain ⟨v, hv⟩ : ∃ v, v = atL W.reverse (pow2 ((k : Int) + 1)) := ⟨_, rfl⟩
      rw [← hv] at HAT hvl
      have HV : Hid (v = nth (synL W c) k) := by show _ = _; rw [hv, nth_synL W c k hlt]
      clear hv
      go_wp2_with (first
        | (go_at_call 27; refine (power_any ((k : Int) + 1) wr (by omega) (by omega)).mono ?_; rintro e w' ⟨rfl, hw⟩; have hw := hw.symm; subst hw)
        | (go_at_call 28; refine HAT.mono ?_; rintro e w3 ⟨rfl, g3⟩; have hB3 := hB.grown g3 (by simp); have hck := hB3.cell k (by rw [HDl.out]; exact hlt); have hfk := hB3.free k; have hS := hB3.set k v))
      go_roundw
      case rel =>
        refine ⟨k + 1, by omega, by go_num, new_then (grown_trans hgr g3) (grown_set _ _ _ _), _, hS, by rw [List.length_set]; exact HDl.out, isB_set hDB _ _ hvl, fun j hj => ?_⟩
        rw [nth_set _ _ _ _ (by rw [HDl.out]; exact hlt)]
        by_cases e : k = j
        · subst e; rw [if_pos rfl]; exact HV.out
        · rw [if_neg e]; exact HD.out j (by omega)
      case measure => simp [intOf]; omega
    · obtain rfl : k = c := by omega
      have HE : Hid (D = synL W k) := by
        show _ = _
        exact list_ext (by rw [HDl.out, synL_len]) fun j hj => HD.out j (by rw [← HDl.out]; exact hj)
      have hrd := hB.rd hDB HDl.out (by unfold maxLen; omega)
      have hans := hB.ans (n := trimN D k) (lo := w.heap.size) hDB (by rw [HDl.out]; exact trimN_le D k) (by rw [HDl.out]; unfold maxLen; omega) g01.size
      rw [HDl.out] at hans
      have HT : Hid (D.take (trimN D k) = valL W k ∧ trimN D k = (valL W k).length) := by
        have e : D.take (trimN D k) = valL W k := by unfold valL; rw [← HE.out]; unfold trimL; rw [HDl.out]
        refine ⟨e, ?_⟩
        rw [← e, List.length_take, HDl.out]
        have := trimN_le D k
        omega
      go_wp2_with (go_at_call 29; refine (strim_any _ _ _ D _ hrd).mono ?_; rintro e w' ⟨rfl, rfl⟩)
      go_ret
      exact ⟨_, _, by rw [← HT.out.2]; rfl, by rw [← HT.out.2]; rw [← HT.out.1]; exact hans, grown_trans g01 hgr⟩
end Go.Proofs.YtpenggkefbbopaaDoor
