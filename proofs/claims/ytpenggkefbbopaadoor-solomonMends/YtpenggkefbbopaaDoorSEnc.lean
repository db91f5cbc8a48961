import Derived.Test.YtpenggkefbbopaaDoorSGen
import Derived.Test.YtpenggkefbbopaaDoorFOvers
namespace Go.Proofs.YtpenggkefbbopaaDoor
open Go.RowKit
set_option maxRecDepth 100000
set_option linter.unusedVariables false
set_option linter.unusedSimpArgs false

/-- the word that is divided: the data, then so many noughts -/
def rawL (L : List Nat) (c : Nat) : List Nat := L ++ List.replicate c 0
/-- the rest of it -/
def chkL (L : List Nat) (c : Nat) : List Nat := ovT (rawL L c).reverse (genN c)
def encF (L : List Nat) (c i : Nat) : Nat := if L.length + c - 1 - i < (chkL L c).length then nth (chkL L c) (L.length + c - 1 - i) else nth (rawL L c) i
/-- the code word of the data L -/
def encL (L : List Nat) (c : Nat) : List Nat := (List.range (L.length + c)).map (encF L c)
theorem rawL_len (L : List Nat) (c : Nat) : (rawL L c).length = L.length + c := by simp [rawL]
theorem isB_rawL {L : List Nat} (h : IsB L) (c : Nat) : IsB (rawL L c) := isB_append h (isB_zeros _)
theorem encL_len (L : List Nat) (c : Nat) : (encL L c).length = L.length + c := by simp [encL]
theorem nth_encL (L : List Nat) (c i : Nat) (h : i < L.length + c) : nth (encL L c) i = encF L c i := nth_map_range _ _ _ h
theorem ovT_small (P Q : List Nat) : (ovT P Q).length ≤ P.length := by
  unfold ovT; split
  · have h := trimL_le (ovR P (trimL Q) (P.length + 1 - trimN Q Q.length) (P.length + 1 - trimN Q Q.length))
    rw [ovR_length] at h
    exact h
  · simp
theorem chkL_len (L : List Nat) (c : Nat) : (chkL L c).length ≤ L.length + c := by
  have := ovT_small (rawL L c).reverse (genN c)
  rw [List.length_reverse, rawL_len] at this
  exact this
theorem rowFits_yes (d c : Int) (w : World) (h1 : 1 ≤ c) (h2 : c ≤ 64) (h3 : 1 ≤ d) (h4 : d ≤ 255 - c) :
    Calls Tryd.prog 8 #[.int .i64 d, .int .i64 c] w fun e w' => e = .returned (.bool true) ∧ w' = w := by
  go_enter Tryd.func8, Tryd.ntmps8
  go_wp2
  go_ret
  exact ⟨rfl, rfl⟩
theorem rowFits_no (d c : Int) (w : World) (hd1 : -9223372036854775808 ≤ d) (hd2 : d ≤ 9223372036854775807) (h : ¬ (1 ≤ c ∧ c ≤ 64 ∧ 1 ≤ d ∧ d ≤ 255 - c)) :
    Calls Tryd.prog 8 #[.int .i64 d, .int .i64 c] w fun e w' => e = .returned (.bool false) ∧ w' = w := by
  by_cases h1 : 1 ≤ c
  · by_cases h2 : c ≤ 64
    · by_cases h3 : 1 ≤ d
      · have h4 : ¬ d ≤ 255 - c := by omega
        clear h
        go_enter Tryd.func8, Tryd.ntmps8
        go_wp2
        go_ret
        exact ⟨rfl, rfl⟩
      · clear h
        go_enter Tryd.func8, Tryd.ntmps8
        go_wp2
        go_ret
        exact ⟨rfl, rfl⟩
    · clear h
      go_enter Tryd.func8, Tryd.ntmps8
      go_wp2
      go_ret
      exact ⟨rfl, rfl⟩
  · clear h
    go_enter Tryd.func8, Tryd.ntmps8
    go_wp2
    go_ret
    exact ⟨rfl, rfl⟩

set_option maxHeartbeats 1000000 in
theorem enc_any (a : Option Addr) (n cap c : Nat) (L : List Nat) (w : World) (hp : Rd w a n cap L) (h0 : 0 < n) (hc : c ≤ 64) (hn : n + c ≤ 255) :
    Calls Tryd.prog 9 #[.slice a n cap, .int .i64 c] w fun e w' => e = .returned (.slice (some ⟨w.heap.size, 0, none⟩) (n + c : Nat) (n + c : Nat)) ∧ Ans w' w.heap.size (some ⟨w.heap.size, 0, none⟩) (n + c) (n + c) (encL L c) ∧ w.grownBy w' none := by
  have HL : Hid (L.length = n) := hp.len
  have HW : Hid (L ++ (List.replicate (n + c) 0).drop n = rawL L c) := by show _ = _; unfold rawL; rw [List.drop_replicate]; congr 2; omega
  have hBr := isB_rawL hp.byte c
  have hrl : (rawL L c).length = n + c := by rw [rawL_len, HL.out]
  have hkl := chkL_len L c
  rw [HL.out] at hkl
  go_enter Tryd.func9, Tryd.ntmps9
  go_wp2_with (first
    | (at_make; refine wpList_mkB _ rfl _ _ rfl _ _ (n + c) rfl rfl (by omega) (by omega) (by omega) ?_; intro w1 hb1 hg1)
    | (refine wpList_cpB rfl (.tmp 16) (.tmp 17) rfl w.heap.size (n + c) (n + c) a n cap rfl rfl _ L hb1 (hp.keep hg1) (by omega) (by simp) ?_; intro w2 hb2 hg2; rw [HW.out] at hb2; have hr2 := hb2.rd hBr hrl (by unfold maxLen; omega); have g02 := new_then hg1 hg2))
  obtain ⟨N, hNN⟩ : ∃ N, N = n + c := ⟨_, rfl⟩
  rw [← hNN] at hrl hkl hr2 hn ⊢
  have hN0 : 0 < N := by omega
  have HNN : Hid (N = n + c) := hNN
  clear hNN hb1
  go_wp2_with (first
    | (go_at_call 14; refine (poly_any _ N N (rawL L c) w2 hr2 hN0 (by omega)).mono ?_; rintro e w3 ⟨gp, cp, rfl, hp3, g23⟩)
    | (go_at_call 15; refine (generator_any c w3 hc).mono ?_; rintro e w4 ⟨ag, ng, cg, rfl, hg4, g34⟩; have hp4 := hp3.keep g34)
    | (go_at_call 13; refine (over_all _ ag N ng cp cg (rawL L c).reverse (genN c) w4 hp4.rd hg4.rd).mono ?_; rintro e w5 ⟨aq, nq, cq, ar, nr, cr, rfl, _, hr5, g45, _⟩))
  have g25 := grown_trans g23 (grown_trans g34 g45)
  have hb5 := hb2.grown g25 (by simp)
  have hne := Nat.le_trans g23.size g34.size
  have hlt2 : w.heap.size < w2.heap.size := hb2.lt
  have hnr : nr ≤ N := by have := hr5.len; have e : (ovT (rawL L c).reverse (genN c)).length = (chkL L c).length := rfl; omega
  have HR : Hid (ovT (rawL L c).reverse (genN c) = chkL L c) := rfl
  have hnrl := hr5.len
  rw [HR.out] at hr5 hnrl
  obtain ⟨R, hR⟩ : ∃ R, R = chkL L c := ⟨_, rfl⟩
  rw [← hR] at hr5 hnrl hkl
  have HRR : Hid (R = chkL L c) := hR
  obtain ⟨W, hW⟩ : ∃ W, W = rawL L c := ⟨_, rfl⟩
  rw [← hW] at hb5 hrl hBr
  have HWW : Hid (W = rawL L c) := hW
  clear hR hW hr2 hp3 hp4 hg4 hb2
  go_loopw [30] (fun i wr => ∃ k : Nat, k ≤ nr ∧ i = .int .i64 k ∧ w5.grownBy wr (some w.heap.size) ∧ ∃ D, Blk wr w.heap.size D ∧ D.length = N ∧ IsB D ∧ ∀ i, i < N → nth D i = if N - 1 - i < k then nth R (N - 1 - i) else nth W i) (fun i _ => nr - (intOf i).toNat)
  case atStart => exact ⟨0, by omega, rfl, World.grownBy.refl _ _, W, hb5, hrl, hBr, fun i hi => by rw [if_neg (by omega)]⟩
  case round =>
    obtain ⟨k, hk, rfl, hgr, D, hB, hlen, hby, hD⟩ := hrel
    have HD : Hid (∀ i, i < N → nth D i = if N - 1 - i < k then nth R (N - 1 - i) else nth W i) := hD
    have HDl : Hid (D.length = N) := hlen
    by_cases hlt : k < nr
    · have hr5' := hr5.rd.grown' hgr (fun _ b off e => by
        rcases hr5.cases with ⟨h1, _⟩ | ⟨g, h1, h2, _⟩
        · rw [h1] at e; cases e
        · rw [h1] at e; cases e; simp; omega)
      obtain ⟨b1, off1, rfl, hbw1, hcc⟩ := hr5'.at' (by omega)
      have hck := hcc k hlt
      have hbk := hr5.byte.nth k
      obtain ⟨j, hj⟩ : ∃ j : Nat, j = N - 1 - k := ⟨_, rfl⟩
      have hjN : j < N := by omega
      have hjz : ((N : Int) - 1 - (k : Int)) = (j : Int) := by omega
      have hcj := hB.cell j (by omega)
      have hfj := hB.free j
      have hS := hB.set j (nth R k)
      have HJ : Hid (j = N - 1 - k) := hj
      clear hj hD hlen hcc
      go_wp2
      go_roundw
      case rel =>
        have e1 := HJ.out
        refine ⟨k + 1, by omega, by go_num, grown_trans hgr (grown_set _ _ _ _), _, hS, by rw [List.length_set]; exact HDl.out, isB_set hby _ _ hbk, fun i hi => ?_⟩
        rw [nth_set _ _ _ _ (by rw [HDl.out]; omega)]
        by_cases e : j = i
        · subst e; rw [if_pos rfl, if_pos (by omega)]; congr 1; omega
        · rw [if_neg e, HD.out i hi]
          by_cases e2 : N - 1 - i < k
          · rw [if_pos e2, if_pos (by omega)]
          · rw [if_neg e2, if_neg (by omega)]
      case measure => simp [intOf]; omega
    · obtain rfl : k = nr := by omega
      have HE : Hid (D = encL L c) := by
        show _ = _
        refine list_ext (by rw [hlen, encL_len, HL.out]; exact HNN.out) fun i hi => ?_
        rw [hlen] at hi
        rw [nth_encL _ _ _ (by rw [HL.out, ← HNN.out]; exact hi), hD i hi]
        unfold encF
        rw [HL.out, ← HNN.out, ← HRR.out, ← HWW.out, hnrl]
      have hans := hB.ans (n := N) (lo := w.heap.size) hby (by omega) (by rw [hlen]; unfold maxLen; omega) (Nat.le_refl _)
      rw [hlen, List.take_of_length_le (by omega), HE.out] at hans
      have g0r := grown_far (grown_trans g02 g25) hgr (fun g e => by cases e; exact Nat.le_refl _)
      clear hD hlen
      go_wp2
      go_ret
      have e := HNN.out
      exact ⟨by rw [← e]; rfl, by rw [← e]; exact hans, g0r⟩
theorem encode_ok (a : Option Addr) (n cap c : Nat) (L : List Nat) (w : World) (hp : Rd w a n cap L) (h0 : 0 < n) (h1 : 1 ≤ c) (hc : c ≤ 64) (hn : n + c ≤ 255) :
    Calls Tryd.prog 5 #[.slice a n cap, .int .i64 c] w fun e w' => ∃ a' n' c', e = .returned (.tuple #[.slice a' n' c', .int .i64 0]) ∧ Ans w' w.heap.size a' n' c' (encL L c) ∧ w.grownBy w' none := by
  go_enter Tryd.func5, Tryd.ntmps5
  go_wp2_with (first
    | (go_at_call 8; refine (rowFits_yes n c w (by omega) (by omega) (by omega) (by omega)).mono ?_; rintro e w' ⟨rfl, hw⟩; have hw := hw.symm; subst hw)
    | (go_at_call 9; refine (enc_any a n cap c L w hp h0 hc hn).mono ?_; rintro e w1 ⟨rfl, h1, g01⟩))
  go_ret2
  exact ⟨_, _, _, rfl, h1, g01⟩
theorem encode_bad (a : Option Addr) (n cap : Nat) (c : Int) (w : World) (hn : n ≤ 9223372036854775807) (h : ¬ (1 ≤ c ∧ c ≤ 64 ∧ 1 ≤ n ∧ (n : Int) + c ≤ 255)) :
    Calls Tryd.prog 5 #[.slice a n cap, .int .i64 c] w fun e w' => e = .returned (.tuple #[.slice none 0 0, .int .i64 1]) ∧ w' = w := by
  have H := rowFits_no n c w (by omega) (by omega) (by omega)
  clear h
  go_enter Tryd.func5, Tryd.ntmps5
  go_wp2_with (go_at_call 8; refine H.mono ?_; rintro e w' ⟨rfl, hw⟩; have hw := hw.symm; subst hw)
  go_ret2
  exact ⟨rfl, rfl⟩
end Go.Proofs.YtpenggkefbbopaaDoor
