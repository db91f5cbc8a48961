import Derived.Test.YtbgbohddkfaacaaSEnc
namespace Go.Proofs.Ytbgbohddkfaacaa
open Go.RowKit
set_option maxRecDepth 100000
set_option linter.unusedVariables false
set_option linter.unusedSimpArgs false

theorem cell_one (w : World) (v : Value) (j : Nat) (u : Value) (h : [v][j]? = some u) : (w.alloc (.cells #[v] 5)).cell? ((⟨w.heap.size, 0, none⟩ : Addr).add j) = some u := by
  rw [addr_add, cell_of_row _ _ _ _ _ _ (heap_alloc_new w _)]
  simpa using h
theorem bys_add (A : List Nat) (v : Nat) : bys A ++ [Value.int .u8 (v : Int)] = bys (A ++ [v]) := by simp [bys]
theorem take_snoc (L : List Nat) (k : Nat) (h : k < L.length) : L.take (k + 1) = L.take k ++ [nth L k] := by
  rw [List.take_add_one, List.getElem?_eq_getElem h]
  unfold nth
  rw [List.getD_eq_getElem?_getD, List.getElem?_eq_getElem h]
  rfl
/-- the document's 'backward' -/
theorem backward_any (a : Option Addr) (n cap : Nat) (L : List Nat) (w : World) (hp : Rd w a n cap L) (hn : n ≤ 140737488351240) :
    Calls Try.prog 27 #[.slice a n cap] w fun e w' => ∃ a' c', e = .returned (.slice a' n c') ∧ Ans w' w.heap.size a' n c' L.reverse ∧ w.grownBy w' none := by
  have HL : Hid (L.length = n) := hp.len
  go_enter Try.func27, Try.ntmps27
  go_wp2
  go_loopw [3, 4] (fun o i wr => ∃ (k co : Nat) (z : Int) (ao : Option Addr), k ≤ n ∧ i = .int .i64 z ∧ z = (n : Int) - 1 - k ∧ o = .slice ao k co ∧ w.grownBy wr none ∧ Ans wr w.heap.size ao k co (L.reverse.take k)) (fun _ i _ => (intOf i + 1).toNat)
  case atStart => exact ⟨0, 0, (n : Int) - 1, none, by omega, rfl, by omega, rfl, World.grownBy.refl _ _, ans_nil _ _⟩
  case round =>
    obtain ⟨k, co, z, ao, hk, rfl, hz, rfl, hgr, hA⟩ := hrel
    by_cases hlt : k < n
    · obtain ⟨j, rfl⟩ := Int.eq_ofNat_of_zero_le (a := z) (by omega)
      have hjn : j < n := by omega
      obtain ⟨b1, off1, rfl, hbw1, hcc⟩ := (hp.keep hgr).at' (by omega)
      have hck := hcc j hjn
      have hOo := hA.own.alloc (.cells #[.int .u8 (nth L j : Nat)] 5)
      have gA := grown_trans hgr (World.grownBy_alloc wr (.cells #[.int .u8 (nth L j : Nat)] 5) none)
      have HT : Hid (L.reverse.take k ++ [nth L j] = L.reverse.take (k + 1)) := by
        show _ = _
        rw [take_snoc _ _ (by rw [List.length_reverse, HL.out]; exact hlt), nth_reverse _ _ (by rw [HL.out]; exact hlt), HL.out]
        congr 3; omega
      have HZ : Hid ((j : Int) = (n : Int) - 1 - k) := hz
      clear hcc hz
      go_wp2_with (at_builtin; refine wpList_apB _ rfl (.tmp 12) (.tmp 17) rfl (.slice ao k co) k (bys (L.reverse.take k)) rfl hOo ⟨wr.heap.size, 0, none⟩ 1 1 [.int .u8 (nth L j : Nat)] rfl rfl (cell_one wr _) (by simp [Value.oneCell']) (by decide) (by omega) ?_; intro gx cx' w2 hgx hgr2 hown2)
      rw [bys_add, HT.out] at hown2
      have hG2 := grown_far gA hgr2 (hA.far _ (Nat.le_refl _))
      have hgxl : w.heap.size ≤ gx := by
        rcases hgx with h | h
        · exact hA.new gx h
        · exact Nat.le_trans gA.size h
      go_wp2
      go_roundw
      case rel =>
        have e1 := HZ.out
        exact ⟨k + 1, cx', (j : Int) - 1, some ⟨gx, 0, none⟩, by omega, by go_num, by omega, rfl, hG2, ⟨hown2, isB_take (isB_reverse hp.byte) _, fun g h => by simp [Value.ownBlock] at h; omega⟩⟩
      case measure => first | (simp [intOf]; done) | (simp [intOf]; omega)
    · obtain rfl : k = n := by omega
      rw [List.take_of_length_le (by rw [List.length_reverse, HL.out]; exact Nat.le_refl _)] at hA
      go_wp2
      go_ret
      exact ⟨_, _, rfl, hA, hgr⟩
theorem sized_yes (n c : Int) (w : World) (h1 : 1 ≤ c) (h2 : c ≤ 64) (h3 : c < n) (h4 : n ≤ 255) :
    Calls Try.prog 24 #[.int .i64 n, .int .i64 c] w fun e w' => e = .returned (.bool true) ∧ w' = w := by
  go_enter Try.func24, Try.ntmps24
  go_wp2
  go_ret
  exact ⟨rfl, rfl⟩
theorem sized_no (n c : Int) (w : World) (h : ¬ (1 ≤ c ∧ c ≤ 64 ∧ c < n ∧ n ≤ 255)) :
    Calls Try.prog 24 #[.int .i64 n, .int .i64 c] w fun e w' => e = .returned (.bool false) ∧ w' = w := by
  by_cases h1 : 1 ≤ c
  · by_cases h2 : c ≤ 64
    · by_cases h3 : c < n
      · have h4 : ¬ n ≤ 255 := by omega
        clear h
        go_enter Try.func24, Try.ntmps24
        go_wp2
        go_ret
        exact ⟨rfl, rfl⟩
      · clear h
        go_enter Try.func24, Try.ntmps24
        go_wp2
        go_ret
        exact ⟨rfl, rfl⟩
    · clear h
      go_enter Try.func24, Try.ntmps24
      go_wp2
      go_ret
      exact ⟨rfl, rfl⟩
  · clear h
    go_enter Try.func24, Try.ntmps24
    go_wp2
    go_ret
    exact ⟨rfl, rfl⟩
theorem rencode_bad (a : Option Addr) (n cap : Nat) (c : Int) (w : World) (hn : n ≤ 140737488351240) (hc1 : -9223372036854775808 ≤ c) (hc2 : c ≤ 9223372036854775807) (h : ¬ (1 ≤ c ∧ c ≤ 64 ∧ 1 ≤ n ∧ (n : Int) + c ≤ 255)) :
    Calls Try.prog 10 #[.slice a n cap, .int .i64 c] w fun e w' => e = .returned (.tuple #[.slice none 0 0, .int .i64 1]) ∧ w' = w := by
  by_cases h0 : n = 0
  · subst h0
    go_enter Try.func10, Try.ntmps10
    go_wp2
    go_ret2
    exact ⟨rfl, rfl⟩
  · have hz : ((n : Int) == 0) = false := by simp; omega
    by_cases hc : 1 ≤ c ∧ c ≤ 64
    · obtain ⟨h1, h2⟩ := hc
      have H := sized_no ((n : Int) + c) c w (by omega)
      clear h h0
      go_enter Try.func10, Try.ntmps10
      go_wp2_with (go_at_call 24; refine H.mono ?_; rintro e w' ⟨rfl, hw⟩; have hw := hw.symm; subst hw)
      go_ret2
      exact ⟨rfl, rfl⟩
    · have H := fun m => sized_no m c w (by omega)
      clear h h0
      go_enter Try.func10, Try.ntmps10
      go_wp2_with (go_at_call 24; refine (H _).mono ?_; rintro e w' ⟨rfl, hw⟩; have hw := hw.symm; subst hw)
      go_ret2
      exact ⟨rfl, rfl⟩
end Go.Proofs.Ytbgbohddkfaacaa
