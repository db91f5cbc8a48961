import Derived.Test.YtmfgnpbocpdeiaaDoorSNearM
namespace Go.Proofs.YtmfgnpbocpdeiaaDoor
open Go.RowKit
set_option maxRecDepth 100000
set_option linter.unusedVariables false
set_option linter.unusedSimpArgs false

theorem enc_168 : encL [1] 2 = [1, 6, 8] := by decide +kernel
theorem str_168 : strB [1, 6, 8] = ⟨#[1, 6, 8]⟩ := by first | rfl | decide +kernel
theorem encOk_ans (a : Option Addr) (n cap c : Nat) (L : List Nat) (w : World) (hp : Rd w a n cap L) (h0 : 0 < n) (h1 : 1 ≤ c) (hc : c ≤ 64) (hn : n + c ≤ 255) :
    Calls Tryd.prog 11 #[.slice a n cap, .int .i64 c] w fun e w' => ∃ a' n' c', e = .returned (.tuple #[.slice a' n' c', .int .i64 0]) ∧ Ans w' w.heap.size a' n' c' (encL L c) ∧ w.grownBy w' none := encode_ok a n cap c L w hp h0 h1 hc hn
theorem ownI_cell {w : World} {g n cap : Nat} {L : List Nat} (h : w.ownsRow 0 3 1 (.slice (some ⟨g, 0, none⟩) n cap) n (ins L)) (j : Nat) (hj : j < n) : w.cell? ⟨g, j, none⟩ = some (.int .i64 (nth L j : Nat)) := by
  have hl : L.length = n := by have := h.1; rw [ins_length] at this; omega
  rw [h.cellAt j (by omega)]
  exact nth_ins L j (by omega)
theorem AnsI.at' {w : World} {lo : Nat} {a : Option Addr} {n cap : Nat} {L : List Nat} (h : AnsI w lo a n cap L) (h0 : 0 < n) : ∃ g, a = some ⟨g, 0, none⟩ ∧ ∀ j, j < n → w.cell? ⟨g, j, none⟩ = some (.int .i64 (nth L j : Nat)) := by
  rcases h.own.2 with ⟨_, h2⟩ | ⟨g, cap', cur, h1, _⟩
  · omega
  · cases h1
    exact ⟨g, rfl, fun j hj => ownI_cell h.own j hj⟩
/-- the places below i at which two words differ -/
def difN (W V : List Nat) (i : Nat) : List Nat := (List.range i).filter (fun p => nth W p != nth V p)
theorem dif_step {W V : List Nat} {i : Nat} (h : nth W i ≠ nth V i) : difN W V (i + 1) = difN W V i ++ [i] := by
  unfold difN; rw [List.range_succ, List.filter_append]; congr 1; simp [h]
theorem dif_skip {W V : List Nat} {i : Nat} (h : nth W i = nth V i) : difN W V (i + 1) = difN W V i := by
  unfold difN; rw [List.range_succ, List.filter_append]; simp [h]
theorem dif_pre (W V : List Nat) (i n : Nat) (h : i ≤ n) : ∃ R, difN W V n = difN W V i ++ R := by
  induction n with
  | zero => obtain rfl : i = 0 := by omega
            exact ⟨[], by simp⟩
  | succ n ih =>
    by_cases e : i = n + 1
    · subst e; exact ⟨[], by simp⟩
    · obtain ⟨R, hR⟩ := ih (by omega)
      by_cases hd : nth W n = nth V n
      · exact ⟨R, by rw [dif_skip hd, hR]⟩
      · exact ⟨R ++ [n], by rw [dif_step hd, hR, List.append_assoc]⟩
theorem dif_at {W V : List Nat} {i n : Nat} (hi : i < n) (h : nth W i ≠ nth V i) : (difN W V i).length < (difN W V n).length ∧ nth (difN W V n) (difN W V i).length = i := by
  obtain ⟨R, hR⟩ := dif_pre W V (i + 1) n hi
  rw [dif_step h] at hR
  rw [hR]
  constructor
  · simp
  · rw [nth_append_left _ _ _ (by simp)]
    unfold nth
    rw [List.getD_eq_getElem?_getD, List.getElem?_append_right (Nat.le_refl _)]
    simp
theorem dif_len (W V : List Nat) (i : Nat) : (difN W V i).length ≤ i := by
  have := List.length_filter_le (fun p => nth W p != nth V p) (List.range i)
  rw [List.length_range] at this
  exact this
set_option maxHeartbeats 4000000 in
theorem near_bad (a : Option Addr) (n cap : Nat) (c : Int) (W : List Nat) (w : World) (hp : Rd w a n cap W) (hn : n ≤ 9223372036854775807) (hc1 : -9223372036854775808 ≤ c) (hc2 : c ≤ 9223372036854775807) (h : ¬ (1 ≤ c ∧ c ≤ 64 ∧ c < n ∧ n ≤ 255)) :
    Calls Tryd.prog 5 #[.slice a n cap, .int .i64 c] w fun e w' => e = .returned (.bool true) ∧ Below w.heap.size w w' := by
  have h1 := (one_ans w w.heap.size (Nat.le_refl _)).rd
  have gA := World.grownBy_alloc w (.cells #[.int .u8 1] 5) none
  have HB := fun w => Decode_bad a none n cap 0 0 c w (by omega) hc1 hc2 h
  have t1 : True := trivial
  clear h
  go_enter Tryd.func5, Tryd.ntmps5
  go_wp2_with (first
    | (go_at_call 11; have _t := t1; clear t1; refine (encode_ok _ 1 1 2 [1] _ h1 (by decide) (by decide) (by decide) (by decide)).mono ?_; rintro e w1 ⟨a1, n1, c1, rfl, h2, g1⟩; rw [enc_168] at h2; have hn1 : n1 = 3 := h2.len.symm; subst hn1; have e1 := str_any w1 a1 3 c1 _ h2.rd; rw [str_168] at e1)
    | (go_at_call 8; refine (HB _).mono ?_; rintro e w' ⟨rfl, hw⟩; have hw := hw.symm; subst hw))
  go_ret
  exact ⟨rfl, (Below.refl _ _).grown (grown_trans gA g1) (Nat.le_refl _) (fun k hk => by cases hk)⟩
set_option maxHeartbeats 8000000 in
theorem near_good (a : Option Addr) (n cap c : Nat) (W : List Nat) (w : World) (hp : Rd w a n cap W) (hc1 : 1 ≤ c) (hc : c ≤ 64) (hcn : c < n) (hn : n ≤ 255) :
    Calls Tryd.prog 5 #[.slice a n cap, .int .i64 c] w fun e w' => e = .returned (.bool true) ∧ Below w.heap.size w w' := by
  have h1 := (one_ans w w.heap.size (Nat.le_refl _)).rd
  have gA := World.grownBy_alloc w (.cells #[.int .u8 1] 5) none
  have HL : Hid (W.length = n) := hp.len
  have t1 : True := trivial
  go_enter Tryd.func5, Tryd.ntmps5
  go_wp2_with (go_at_call 11; have _t := t1; clear t1; refine (encode_ok _ 1 1 2 [1] _ h1 (by decide) (by decide) (by decide) (by decide)).mono ?_; rintro e w1 ⟨a1, n1, c1, rfl, h2, g1⟩; rw [enc_168] at h2; have hn1 : n1 = 3 := h2.len.symm; subst hn1; have e1 := str_any w1 a1 3 c1 _ h2.rd; rw [str_168] at e1)
  have g01 := grown_trans gA g1
  refine (Decode_with a none n cap 0 0 c W (none_ n) w1 (hp.keep g01) hc1 hc hcn hn (mark_nil n w1 (by omega))).mono ?_
  rintro e w2 ⟨g12, h3⟩
  have g02 := grown_trans g01 g12
  have hp2 := hp.keep g02
  rcases h3 with ⟨_, rfl⟩ | ⟨W', P, a3, c3, ap, np, cp, h3, rfl, hP3, hD3, _⟩
  · go_wp2
    go_ret
    exact ⟨rfl, (Below.refl _ _).grown g02 (Nat.le_refl _) (fun k hk => by cases hk)⟩
  · obtain ⟨n1, n2, n3, n4, n5⟩ := near_of hp.byte c hc (by rw [HL.out]; exact hcn) (by rw [HL.out]; exact hn) (W' := W') (P := P) (by rw [HL.out]; exact h3)
    have HE : Hid (encL (W'.take (n - c)) c = W') := by
      show _ = _
      have := code_enc n1 c hc (by rw [n2, HL.out]; exact hcn) (by rw [n2, HL.out]; exact hn) n3
      rw [n2, HL.out] at this
      exact this
    have HP : Hid (P = difN W W' n) := by show _ = _; rw [n4, HL.out]; rfl
    have hW'l : W'.length = n := by rw [n2, HL.out]
    have hnp := hP3.len
    have hsum : n - c + c = n := by omega
    clear n2 n3 n4 h3
    go_wp2_with (go_at_call 11; refine (encode_ok a3 (n - c) c3 c (W'.take (n - c)) w2 hD3.rd (by omega) hc1 hc (by omega)).mono ?_; rintro e w4 ⟨a4, n4, c4, rfl, h4, g24⟩; rw [HE.out] at h4; have hn4 : n4 = n := h4.len.symm.trans hW'l; subst hn4)
    have hp4 := hp2.keep g24
    have hP4 := hP3.keep g24
    have g04 := grown_trans g02 g24
    go_loopw [12, 13] (fun kk ii wr => ∃ i q : Nat, i ≤ n4 ∧ q = (difN W W' i).length ∧ ii = .int .i64 i ∧ kk = .int .i64 q ∧ w4.grownBy wr none) (fun _ ii _ => n4 - (intOf ii).toNat)
    case atStart => exact ⟨0, 0, by omega, rfl, rfl, rfl, World.grownBy.refl _ _⟩
    case round =>
      obtain ⟨i, q, hi, hq, rfl, rfl, hgr⟩ := hrel
      have HQ : Hid (q = (difN W W' i).length) := hq
      have hql : q ≤ i := by rw [hq]; exact dif_len W W' i
      clear hq
      by_cases hlt : i < n4
      · obtain ⟨b1, off1, hb1, hbw1, hcc1⟩ := (h4.rd.keep hgr).at' (by omega)
        obtain ⟨b2, off2, hb2, hbw2, hcc2⟩ := (hp4.keep hgr).at' (by omega)
        subst hb1
        subst hb2
        have hk1 := hcc1 i hlt
        have hk2 := hcc2 i hlt
        clear hcc1 hcc2
        by_cases hd : nth W i = nth W' i
        · have hz : ((nth W' i : Int) != (nth W i : Int)) = false := by rw [hd]; simp
          have HS : Hid (difN W W' (i + 1) = difN W W' i) := dif_skip hd
          clear hd
          go_wp2
          go_quiet (fail)
          go_wp2
          go_roundw
          case rel => exact ⟨i + 1, q, by omega, by rw [HS.out]; exact HQ.out, by go_num, rfl, grown_trans hgr (grown_drewN _ _ _)⟩
          case measure => simp [intOf]; omega
        · have hz : ((nth W' i : Int) != (nth W i : Int)) = true := by simp; omega
          obtain ⟨d1, d2⟩ := dif_at hlt hd
          rw [← HP.out, ← HQ.out] at d1 d2
          have HS : Hid (difN W W' (i + 1) = difN W W' i ++ [i]) := dif_step hd
          obtain ⟨gp, hgp, hpc⟩ := (hP4.keep hgr).at' (by omega)
          subst hgp
          have hqc := hpc q (by omega)
          rw [d2] at hqc
          have hqnp : q < np := by omega
          clear hd d1 d2 hpc
          go_wp2
          go_quiet (fail)
          go_wp2
          go_roundw
          case rel => exact ⟨i + 1, q + 1, by omega, by rw [HS.out, List.length_append]; have := HQ.out; simp; omega, by go_num, by go_num, grown_trans hgr (grown_drewN _ _ _)⟩
          case measure => simp [intOf]; omega
      · obtain rfl : i = n4 := by omega
        have hqn : q = np := by rw [HQ.out, ← HP.out]; exact hnp
        subst hqn
        go_wp2
        go_ret
        exact ⟨rfl, (Below.refl _ _).grown (grown_trans g04 hgr) (Nat.le_refl _) (fun k hk => by cases hk)⟩
theorem near_walk (a : Option Addr) (n cap : Nat) (c : Int) (W : List Nat) (w : World) (hp : Rd w a n cap W) (hn : n ≤ 9223372036854775807) (hc1 : -9223372036854775808 ≤ c) (hc2 : c ≤ 9223372036854775807) :
    Calls Tryd.prog 5 #[.slice a n cap, .int .i64 c] w fun e w' => e = .returned (.bool true) ∧ Below w.heap.size w w' := by
  by_cases h : 1 ≤ c ∧ c ≤ 64 ∧ c < n ∧ n ≤ 255
  · obtain ⟨h1, h2, h3, h4⟩ := h
    obtain ⟨k, rfl⟩ := Int.eq_ofNat_of_zero_le (a := c) (by omega)
    exact near_good a n cap k W w hp (by omega) (by omega) (by omega) h4
  · exact near_bad a n cap c W w hp hn hc1 hc2 h
end Go.Proofs.YtmfgnpbocpdeiaaDoor
