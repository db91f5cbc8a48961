import Derived.Test.YtnpkmjdlohdieaaYZi
import Derived.Test.YtnpkmjdlohdieaaZBx
import Derived.Test.YtnpkmjdlohdieaaZAp
import Derived.Laws.IdiomStrings
namespace Go.Proofs.Ytnpkmjdlohdieaa
open Go.RowKit
set_option maxRecDepth 100000
set_option linter.unusedVariables false
set_option linter.unusedSimpArgs false

/-- is a number from l to m? -/
def kwB (n l m : Int) : Bool := decide (l ≤ n ∧ n ≤ m)
theorem kwB_t {n l m : Int} (h : l ≤ n ∧ n ≤ m) : kwB n l m = true := decide_eq_true h
theorem kwB_f {n l m : Int} (h : ¬ (l ≤ n ∧ n ≤ m)) : kwB n l m = false := decide_eq_false h
theorem kwB_ok {n l m : Int} (h : kwB n l m = true) : l ≤ n ∧ n ≤ m := of_decide_eq_true h
theorem inRange_any (n l m : Int) (w : World) : Calls Try.prog 24 #[.int .i64 n, .int .i64 l, .int .i64 m] w fun e w' => e = .returned (.bool (kwB n l m)) ∧ w' = w := by
  by_cases h1 : l ≤ n
  · by_cases h2 : n ≤ m
    · rw [kwB_t ⟨h1, h2⟩]
      go_enter Try.func24, Try.ntmps24
      go_wp2
      go_ret
      exact ⟨rfl, rfl⟩
    · rw [kwB_f (fun h => h2 h.2)]
      go_enter Try.func24, Try.ntmps24
      go_wp2
      go_ret
      exact ⟨rfl, rfl⟩
  · rw [kwB_f (fun h => h1 h.1)]
    go_enter Try.func24, Try.ntmps24
    go_wp2
    go_ret
    exact ⟨rfl, rfl⟩
theorem gwithin_any (n l m : Int) (w : World) : Calls Try.prog 35 #[.int .i64 n, .int .i64 l, .int .i64 m] w fun e w' => e = .returned (.bool (kwB n l m)) ∧ w' = w := by
  by_cases h1 : l ≤ n
  · by_cases h2 : n ≤ m
    · rw [kwB_t ⟨h1, h2⟩]
      go_enter Try.func35, Try.ntmps35
      go_wp2
      go_ret
      exact ⟨rfl, rfl⟩
    · rw [kwB_f (fun h => h2 h.2)]
      go_enter Try.func35, Try.ntmps35
      go_wp2
      go_ret
      exact ⟨rfl, rfl⟩
  · rw [kwB_f (fun h => h1 h.1)]
    go_enter Try.func35, Try.ntmps35
    go_wp2
    go_ret
    exact ⟨rfl, rfl⟩
/-- a small letter; what can't stand in a name -/
def smB (c : Nat) : Bool := decide (97 ≤ c) && decide (c ≤ 122)
def dgB (c : Nat) : Bool := decide (48 ≤ c) && decide (c ≤ 57)
def grB (c : Nat) : Bool := decide (65 ≤ c) && decide (c ≤ 90)
def outB (c : Nat) : Bool := !smB c && !dgB c && !(c == 95)
theorem two_t {a b : Prop} [Decidable a] [Decidable b] (h : a) (k : b) : (decide a && decide b) = true := by rw [decide_eq_true h, decide_eq_true k]; rfl
theorem small_any (c : Nat) (hc : c < 256) (w : World) : Calls Try.prog 52 #[.int .u8 c] w fun e w' => e = .returned (.bool (smB c)) ∧ w' = w := by
  unfold smB
  by_cases h1 : 97 ≤ c
  · have k1 : (97 : Int) ≤ (c : Int) := by omega
    by_cases h2 : c ≤ 122
    · have k2 : (c : Int) ≤ 122 := by omega
      rw [decide_eq_true h1, decide_eq_true h2]
      go_enter Try.func52, Try.ntmps52
      go_wp2
      go_ret
      exact ⟨by simp [k2], rfl⟩
    · have k2 : ¬ (c : Int) ≤ 122 := by omega
      rw [decide_eq_true h1, decide_eq_false h2]
      go_enter Try.func52, Try.ntmps52
      go_wp2
      go_ret
      exact ⟨by simp [k2], rfl⟩
  · have k1 : ¬ (97 : Int) ≤ (c : Int) := by omega
    rw [decide_eq_false h1]
    go_enter Try.func52, Try.ntmps52
    go_wp2
    go_ret
    exact ⟨rfl, rfl⟩
theorem great_any (c : Nat) (hc : c < 256) (w : World) : Calls Try.prog 38 #[.int .u8 c] w fun e w' => e = .returned (.bool (grB c)) ∧ w' = w := by
  unfold grB
  by_cases h1 : 65 ≤ c
  · have k1 : (65 : Int) ≤ (c : Int) := by omega
    by_cases h2 : c ≤ 90
    · have k2 : (c : Int) ≤ 90 := by omega
      rw [decide_eq_true h1, decide_eq_true h2]
      go_enter Try.func38, Try.ntmps38
      go_wp2
      go_ret
      exact ⟨by simp [k2], rfl⟩
    · have k2 : ¬ (c : Int) ≤ 90 := by omega
      rw [decide_eq_true h1, decide_eq_false h2]
      go_enter Try.func38, Try.ntmps38
      go_wp2
      go_ret
      exact ⟨by simp [k2], rfl⟩
  · have k1 : ¬ (65 : Int) ≤ (c : Int) := by omega
    rw [decide_eq_false h1]
    go_enter Try.func38, Try.ntmps38
    go_wp2
    go_ret
    exact ⟨rfl, rfl⟩
theorem digit_any (c : Nat) (hc : c < 256) (w : World) : Calls Try.prog 39 #[.int .u8 c] w fun e w' => e = .returned (.bool (dgB c)) ∧ w' = w := by
  unfold dgB
  by_cases h1 : 48 ≤ c
  · have k1 : (48 : Int) ≤ (c : Int) := by omega
    by_cases h2 : c ≤ 57
    · have k2 : (c : Int) ≤ 57 := by omega
      rw [decide_eq_true h1, decide_eq_true h2]
      go_enter Try.func39, Try.ntmps39
      go_wp2
      go_ret
      exact ⟨by simp [k2], rfl⟩
    · have k2 : ¬ (c : Int) ≤ 57 := by omega
      rw [decide_eq_true h1, decide_eq_false h2]
      go_enter Try.func39, Try.ntmps39
      go_wp2
      go_ret
      exact ⟨by simp [k2], rfl⟩
  · have k1 : ¬ (48 : Int) ≤ (c : Int) := by omega
    rw [decide_eq_false h1]
    go_enter Try.func39, Try.ntmps39
    go_wp2
    go_ret
    exact ⟨rfl, rfl⟩
theorem letter_any (c : Nat) (hc : c < 256) (w : World) : Calls Try.prog 37 #[.int .u8 c] w fun e w' => e = .returned (.bool (grB c || smB c)) ∧ w' = w := by
  have hg := fun wz => great_any c hc wz
  unfold smB
  generalize grB c = b at hg ⊢
  cases b
  · by_cases h1 : 97 ≤ c
    · have k1 : (97 : Int) ≤ (c : Int) := by omega
      by_cases h2 : c ≤ 122
      · have k2 : (c : Int) ≤ 122 := by omega
        rw [decide_eq_true h1, decide_eq_true h2]
        go_enter Try.func37, Try.ntmps37
        go_wp2_with (go_at_call 38; refine (hg _).mono ?_; rintro e w1 ⟨rfl, rfl⟩)
        go_ret
        exact ⟨by simp [k2], rfl⟩
      · have k2 : ¬ (c : Int) ≤ 122 := by omega
        rw [decide_eq_true h1, decide_eq_false h2]
        go_enter Try.func37, Try.ntmps37
        go_wp2_with (go_at_call 38; refine (hg _).mono ?_; rintro e w1 ⟨rfl, rfl⟩)
        go_ret
        exact ⟨by simp [k2], rfl⟩
    · have k1 : ¬ (97 : Int) ≤ (c : Int) := by omega
      rw [decide_eq_false h1]
      go_enter Try.func37, Try.ntmps37
      go_wp2_with (go_at_call 38; refine (hg _).mono ?_; rintro e w1 ⟨rfl, rfl⟩)
      go_ret
      exact ⟨rfl, rfl⟩
  · go_enter Try.func37, Try.ntmps37
    go_wp2_with (go_at_call 38; refine (hg _).mono ?_; rintro e w1 ⟨rfl, rfl⟩)
    go_ret
    exact ⟨rfl, rfl⟩
theorem outside_any (c : Nat) (hc : c < 256) (w : World) : Calls Try.prog 54 #[.int .u8 c] w fun e w' => e = .returned (.bool (outB c)) ∧ w' = w := by
  have hs := fun wz => small_any c hc wz
  unfold outB dgB
  generalize smB c = b at hs ⊢
  cases b
  · by_cases h1 : 48 ≤ c
    · have k1 : (48 : Int) ≤ (c : Int) := by omega
      by_cases h2 : c ≤ 57
      · have k2 : (c : Int) ≤ 57 := by omega
        rw [decide_eq_true h1, decide_eq_true h2]
        go_enter Try.func54, Try.ntmps54
        go_wp2_with (go_at_call 52; refine (hs _).mono ?_; rintro e w1 ⟨rfl, rfl⟩)
        go_ret
        exact ⟨by simp, rfl⟩
      · have k2 : ¬ (c : Int) ≤ 57 := by omega
        rw [decide_eq_true h1, decide_eq_false h2]
        by_cases h3 : c = 95
        · subst h3
          go_enter Try.func54, Try.ntmps54
          go_wp2_with (go_at_call 52; refine (hs _).mono ?_; rintro e w1 ⟨rfl, rfl⟩)
          go_ret
          exact ⟨by simp, rfl⟩
        · have k3 : ((c : Int) != 95) = true := by simp; omega
          have k4 : (c == 95) = false := by simp; omega
          rw [k4]
          clear k4
          go_enter Try.func54, Try.ntmps54
          go_wp2_with (go_at_call 52; refine (hs _).mono ?_; rintro e w1 ⟨rfl, rfl⟩)
          go_ret
          exact ⟨by simp <;> omega, rfl⟩
    · have k1 : ¬ (48 : Int) ≤ (c : Int) := by omega
      rw [decide_eq_false h1]
      by_cases h3 : c = 95
      · omega
      · have k3 : ((c : Int) != 95) = true := by simp; omega
        have k4 : (c == 95) = false := by simp; omega
        rw [k4]
        clear k4
        go_enter Try.func54, Try.ntmps54
        go_wp2_with (go_at_call 52; refine (hs _).mono ?_; rintro e w1 ⟨rfl, rfl⟩)
        go_ret
        exact ⟨by simp, rfl⟩
  · go_enter Try.func54, Try.ntmps54
    go_wp2_with (go_at_call 52; refine (hs _).mono ?_; rintro e w1 ⟨rfl, rfl⟩)
    go_ret
    exact ⟨rfl, rfl⟩
/-- none of the first k may not stand in a name -/
def goN (L : List Nat) : Nat → Bool
  | 0 => true
  | k + 1 => goN L k && !outB (nth L k)
theorem goN_false (L : List Nat) (k n : Nat) (h : goN L k = false) (hk : k ≤ n) : goN L n = false := by
  induction n with
  | zero => obtain rfl : k = 0 := by omega
            exact h
  | succ n ih =>
    by_cases e : k = n + 1
    · subst e; exact h
    · simp only [goN, ih (by omega), Bool.false_and]
set_option maxHeartbeats 4000000 in
theorem index_u8 (b off n cap : Nat) (L : List Nat) (w : World) (hL : IsB L) (hn : n ≤ 16) (hc : ∀ i, i < n → w.cell? ⟨b, off + i, none⟩ = some (.int .u8 (nth L i : Nat))) : Calls Try.prog 62 #[.slice (some ⟨b, off, none⟩) n cap, .func (.func 54) #[] #[]] w fun e w' => ∃ r : Int, e = .returned (.int .i64 r) ∧ (0 ≤ r ↔ goN L n = false) ∧ w' = w := by
  go_enter Try.func62, Try.ntmps62
  go_wp2
  go_loop [8] (fun i => ∃ k : Nat, k ≤ n ∧ i = .int .i64 k ∧ goN L k = true) (fun i => n - (intOf i).toNat)
  case atStart => exact ⟨0, by omega, rfl, rfl⟩
  case round =>
    obtain ⟨k, hk, rfl, HK⟩ := hrel
    have HK' : Hid (goN L k = true) := HK
    clear HK
    by_cases hlt : k < n
    · have hlt' : (k : Int) < (n : Int) := by omega
      have hck := hc k hlt
      have ho := fun wz => outside_any (nth L k) (hL.nth k) wz
      clear hc
      have HS : Hid (goN L (k + 1) = !outB (nth L k)) := by show _ = _; simp only [goN, HK'.out, Bool.true_and]
      generalize outB (nth L k) = q at ho HS
      cases q
      · go_wp2_with (go_at_call 54; refine (ho _).mono ?_; rintro e w1 ⟨rfl, rfl⟩)
        go_round
        case rel => exact ⟨k + 1, by omega, by go_num, HS.out⟩
        case measure => simp [intOf] <;> omega
      · go_wp2_with (go_at_call 54; refine (ho _).mono ?_; rintro e w1 ⟨rfl, rfl⟩)
        go_ret
        exact ⟨k, rfl, ⟨fun _ => goN_false L (k + 1) n HS.out (by omega), fun _ => by omega⟩, rfl⟩
    · obtain rfl : k = n := by omega
      go_wp2
      go_ret
      exact ⟨-1, rfl, ⟨fun h => absurd h (by decide), fun h => by rw [HK'.out] at h; cases h⟩, rfl⟩
theorem contains_u8 (b off n cap : Nat) (L : List Nat) (w : World) (hL : IsB L) (hn : n ≤ 16) (hc : ∀ i, i < n → w.cell? ⟨b, off + i, none⟩ = some (.int .u8 (nth L i : Nat))) : Calls Try.prog 53 #[.slice (some ⟨b, off, none⟩) n cap, .func (.func 54) #[] #[]] w fun e w' => e = .returned (.bool (!goN L n)) ∧ w' = w := by
  have h := fun wz => index_u8 b off n cap L wz hL hn
  go_enter Try.func53, Try.ntmps53
  go_wp2_with (go_at_call 62; refine (h _ hc).mono ?_; rintro e w1 ⟨r, rfl, hr, hw⟩; have hw := hw.symm; subst hw)
  all_goals go_ret
  all_goals
    refine ⟨?_, rfl⟩
    cases hg : goN L n <;> simp [hg] at hr ⊢ <;> omega
/-! a text's bytes -/
def strL (s : ByteArray) : List Nat := s.data.toList.map UInt8.toNat
theorem strL_len (s : ByteArray) : (strL s).length = s.size := by unfold strL; rw [List.length_map, Array.length_toList]; rfl
theorem strL_isB (s : ByteArray) : IsB (strL s) := by
  intro x hx
  obtain ⟨b, _, rfl⟩ := List.mem_map.1 hx
  exact b.toNat_lt
theorem str_at (s : ByteArray) (k : Nat) (h : k < s.size) : ((s[k]'h).toNat : Int) = (nth (strL s) k : Nat) := by
  unfold nth strL
  rw [List.getD_eq_getElem?_getD, List.getElem?_map, List.getElem?_eq_getElem (by rw [Array.length_toList]; exact h)]
  simp [ByteArray.getElem_eq_getElem_data]
/-- is a text a name? .. or nothing? -/
def nmB (s : ByteArray) : Bool := decide (s.size ≤ 16) && smB (nth (strL s) 0) && goN (strL s) s.size
def noB (s : ByteArray) : Bool := decide (s.size = 0) || nmB s
theorem bytes_cell (w : World) (s : ByteArray) (cap : Nat) (e : TypeId) (fr : Nat × Nat) (i : Nat) (hi : i < s.size) : (w.alloc (.cells (bytesRow s cap) e fr)).cell? ⟨w.heap.size, 0 + i, none⟩ = some (.int .u8 (nth (strL s) i : Nat)) := by
  rw [Nat.zero_add, World.cell?_alloc_mark]
  unfold bytesRow
  rw [Array.getElem?_append_left (by simpa using hi)]
  rw [Array.getElem?_map, Array.getElem?_eq_getElem hi]
  simp only [Option.map_some]
  congr 2
  exact str_at s i hi
theorem toList_nil (s : ByteArray) : s.toList = [] ↔ s.size = 0 := by
  rw [ByteArray.toList_eq, ← List.length_eq_zero_iff]
  show s.data.toList.length = 0 ↔ s.data.size = 0
  rw [Array.length_toList]
theorem str_empty (s : ByteArray) (h : s.size = 0) : s = ByteArray.empty := by
  apply ByteArray.ext
  exact Array.eq_empty_of_size_eq_zero h
set_option maxHeartbeats 4000000 in
theorem nameOr_any (s : ByteArray) (w : World) : Calls Try.prog 36 #[.string s] w fun e w' => e = .returned (.bool (noB s)) ∧ w.grownBy w' none := by
  unfold noB nmB
  by_cases h0 : s.size = 0
  · rw [decide_eq_true h0]
    obtain rfl := str_empty s h0
    go_enter Try.func36, Try.ntmps36
    go_wp2
    go_ret
    exact ⟨rfl, World.grownBy.refl _ _⟩
  · rw [decide_eq_false h0]
    have hl : s.toList.isEmpty = false := by
      cases h : s.toList with
      | nil => exact absurd ((toList_nil s).1 h) h0
      | cons _ _ => rfl
    have hl' : ¬ s.toList = [] := fun h => h0 ((toList_nil s).1 h)
    have h0' : 0 < s.size := by omega
    by_cases h1 : s.size ≤ 16
    · have h1' : (s.size : Int) ≤ 16 := by omega
      rw [decide_eq_true h1]
      have hs := fun wz => small_any (nth (strL s) 0) ((strL_isB s).nth 0) wz
      have hb := str_at s
      have hcv := fun wz => run_bytes_of_string (P := Try.prog) wz 9 71 5 s (by kernel_rfl) (by kernel_rfl) (by kernel_rfl)
      generalize smB (nth (strL s) 0) = b at hs ⊢
      cases b
      · go_enter Try.func36, Try.ntmps36
        go_wp2_with (go_at_call 52; refine (hs _).mono ?_; rintro e w1 ⟨rfl, rfl⟩)
        go_ret
        exact ⟨rfl, World.grownBy.refl _ _⟩
      · have hcc := contains_u8 w.heap.size 0 s.size (grownCap w s.size 0 5) (strL s) _ (strL_isB s) h1 (fun i hi => bytes_cell w.drew s (grownCap w s.size 0 5) 5 ((bytesRow s (grownCap w s.size 0 5)).size, (bytesRow s (grownCap w s.size 0 5)).size + 1) i hi)
        have hcw := hcv w
        have hG : w.grownBy (w.drew.alloc (.cells (bytesRow s (grownCap w s.size 0 5)) 5 ((bytesRow s (grownCap w s.size 0 5)).size, (bytesRow s (grownCap w s.size 0 5)).size + 1))) none := grown_trans (grown_drew w none) (World.grownBy_alloc w.drew _ none)
        clear hcv
        generalize (w.drew.alloc (.cells (bytesRow s (grownCap w s.size 0 5)) 5 ((bytesRow s (grownCap w s.size 0 5)).size, (bytesRow s (grownCap w s.size 0 5)).size + 1))) = w2 at *
        generalize goN (strL s) s.size = q at *
        go_enter Try.func36, Try.ntmps36
        go_wp2_with (first
          | (go_at_call 52; refine (hs _).mono ?_; rintro e w1 ⟨rfl, hw⟩; have hw := hw.symm; subst hw)
          | (go_at_call 53; refine hcc.mono ?_; rintro e w1 ⟨rfl, hw⟩; have hw := hw.symm; subst hw))
        go_ret
        exact ⟨by simp, hG⟩
    · have h1' : ¬ (s.size : Int) ≤ 16 := by omega
      rw [decide_eq_false h1]
      go_enter Try.func36, Try.ntmps36
      go_wp2
      go_ret
      exact ⟨rfl, World.grownBy.refl _ _⟩
theorem out_of (c : Nat) : (grB c || (!(grB c || smB c) && !dgB c && !(c == 95))) = outB c := by
  unfold outB
  cases hg : grB c
  · simp
  · unfold grB at hg
    unfold smB dgB
    simp at hg ⊢
    omega
set_option maxHeartbeats 8000000 in
theorem rname_any (s : ByteArray) (w : World) : Calls Try.prog 26 #[.string s] w fun e w' => e = .returned (.bool (decide (0 < s.size) && nmB s)) ∧ w.grownBy w' none := by
  unfold nmB
  by_cases h0 : s.size = 0
  · rw [decide_eq_false (show ¬ 0 < s.size by omega)]
    go_enter Try.func26, Try.ntmps26
    go_wp2
    go_ret
    exact ⟨rfl, World.grownBy.refl _ _⟩
  · have h0' : 0 < s.size := by omega
    rw [decide_eq_true h0']
    by_cases h1 : s.size ≤ 16
    · have h1' : (s.size : Int) ≤ 16 := by omega
      rw [decide_eq_true h1]
      have hs := fun wz => letter_any (nth (strL s) 0) ((strL_isB s).nth 0) wz
      have hb := str_at s
      cases hL0 : (grB (nth (strL s) 0) || smB (nth (strL s) 0))
      · have e : smB (nth (strL s) 0) = false := (Bool.or_eq_false_iff.1 hL0).2
        rw [e]
        rw [hL0] at hs
        clear hL0 e
        go_enter Try.func26, Try.ntmps26
        go_wp2_with (go_at_call 37; refine (hs _).mono ?_; rintro e w1 ⟨rfl, rfl⟩)
        all_goals go_ret
        all_goals exact ⟨rfl, World.grownBy.refl _ _⟩
      · rw [hL0] at hs
        have HE : Hid (goN (strL s) s.size = true → smB (nth (strL s) 0) = true) := by
          intro h
          cases hb2 : smB (nth (strL s) 0)
          · exfalso
            rw [hb2] at hL0
            have h1 : goN (strL s) 1 = true := by
              cases h1 : goN (strL s) 1
              · rw [goN_false _ 1 s.size h1 (by omega)] at h; cases h
              · rfl
            have h2 : outB (nth (strL s) 0) = false := by simpa [goN] using h1
            rw [← out_of] at h2
            have h3 := (Bool.or_eq_false_iff.1 h2).1
            rw [h3] at hL0
            cases hL0
          · rfl
        clear hL0
        have hz0 : ((s.size : Int) == 0) = false := beq_false_of_ne (by omega)
        have hz1 : ¬ (16 < (s.size : Int)) := by omega
        have HF : Hid (goN (strL s) s.size = (true && (true && smB (nth (strL s) 0) && goN (strL s) s.size))) := by
          show _ = _
          cases hq : goN (strL s) s.size
          · simp
          · rw [HE.out hq]; rfl
        rw [← HF.out]
        clear HE HF
        go_enter Try.func26, Try.ntmps26
        go_wp2_with (go_at_call 37; refine (hs _).mono ?_; rintro e w1 ⟨rfl, hw⟩; have hw := hw.symm; subst hw)
        clear hs
        go_loop [3] (fun i => ∃ k : Nat, k ≤ s.size ∧ i = .int .i64 k ∧ goN (strL s) k = true) (fun i => s.size - (intOf i).toNat)
        case atStart => exact ⟨0, by omega, rfl, rfl⟩
        case round =>
          obtain ⟨k, hk, rfl, HK⟩ := hrel
          have HK' : Hid (goN (strL s) k = true) := HK
          clear HK
          by_cases hlt : k < s.size
          · have hlt' : (k : Int) < (s.size : Int) := by omega
            have lt256 := (strL_isB s).nth k
            have hG := fun wz => great_any (nth (strL s) k) lt256 wz
            have hL := fun wz => letter_any (nth (strL s) k) lt256 wz
            have hD := fun wz => digit_any (nth (strL s) k) lt256 wz
            have HS : Hid (goN (strL s) (k + 1) = !outB (nth (strL s) k)) := by show _ = _; simp only [goN, HK'.out, Bool.true_and]
            rw [← out_of] at HS
            have hbk := hb k hlt
            clear HK' hb
            generalize nth (strL s) k = c at *
            generalize grB c = g at *
            generalize smB c = m at *
            generalize dgB c = d at *
            cases g
            case true =>
              go_wp2_with (first
                | (go_at_call 38; refine (hG _).mono ?_; rintro e w1 ⟨rfl, hw⟩; have hw := hw.symm; subst hw)
                | (go_at_call 37; refine (hL _).mono ?_; rintro e w1 ⟨rfl, hw⟩; have hw := hw.symm; subst hw)
                | (go_at_call 39; refine (hD _).mono ?_; rintro e w1 ⟨rfl, hw⟩; have hw := hw.symm; subst hw))
              go_ret
              exact ⟨by rw [goN_false (strL s) (k + 1) s.size HS.out (by omega)]; rfl, World.grownBy.refl _ _⟩
            cases m
            case true =>
              go_wp2_with (first
                | (go_at_call 38; refine (hG _).mono ?_; rintro e w1 ⟨rfl, hw⟩; have hw := hw.symm; subst hw)
                | (go_at_call 37; refine (hL _).mono ?_; rintro e w1 ⟨rfl, hw⟩; have hw := hw.symm; subst hw)
                | (go_at_call 39; refine (hD _).mono ?_; rintro e w1 ⟨rfl, hw⟩; have hw := hw.symm; subst hw))
              go_round
              case rel => exact ⟨k + 1, by omega, by go_num, HS.out⟩
              case measure => simp [intOf] <;> omega
            cases d
            case true =>
              go_wp2_with (first
                | (go_at_call 38; refine (hG _).mono ?_; rintro e w1 ⟨rfl, hw⟩; have hw := hw.symm; subst hw)
                | (go_at_call 37; refine (hL _).mono ?_; rintro e w1 ⟨rfl, hw⟩; have hw := hw.symm; subst hw)
                | (go_at_call 39; refine (hD _).mono ?_; rintro e w1 ⟨rfl, hw⟩; have hw := hw.symm; subst hw))
              go_round
              case rel => exact ⟨k + 1, by omega, by go_num, HS.out⟩
              case measure => simp [intOf] <;> omega
            by_cases h95 : c = 95
            · subst h95
              go_wp2_with (first
                | (go_at_call 38; refine (hG _).mono ?_; rintro e w1 ⟨rfl, hw⟩; have hw := hw.symm; subst hw)
                | (go_at_call 37; refine (hL _).mono ?_; rintro e w1 ⟨rfl, hw⟩; have hw := hw.symm; subst hw)
                | (go_at_call 39; refine (hD _).mono ?_; rintro e w1 ⟨rfl, hw⟩; have hw := hw.symm; subst hw))
              go_round
              case rel => exact ⟨k + 1, by omega, by go_num, HS.out⟩
              case measure => simp [intOf] <;> omega
            · have k3 : ((c : Int) != 95) = true := by simp; omega
              have k4 : (c == 95) = false := by simp; omega
              rw [k4] at HS
              clear k4
              go_wp2_with (first
                | (go_at_call 38; refine (hG _).mono ?_; rintro e w1 ⟨rfl, hw⟩; have hw := hw.symm; subst hw)
                | (go_at_call 37; refine (hL _).mono ?_; rintro e w1 ⟨rfl, hw⟩; have hw := hw.symm; subst hw)
                | (go_at_call 39; refine (hD _).mono ?_; rintro e w1 ⟨rfl, hw⟩; have hw := hw.symm; subst hw))
              go_ret
              exact ⟨by rw [goN_false (strL s) (k + 1) s.size HS.out (by omega)]; rfl, World.grownBy.refl _ _⟩
          · have e : k = s.size := by omega
            subst e
            go_wp2
            go_ret
            exact ⟨by rw [HK'.out]; rfl, World.grownBy.refl _ _⟩
    · have h1' : ¬ (s.size : Int) ≤ 16 := by omega
      have hz0 : ((s.size : Int) == 0) = false := beq_false_of_ne (by omega)
      have hz1 : 16 < (s.size : Int) := by omega
      rw [decide_eq_false h1]
      go_enter Try.func26, Try.ntmps26
      go_wp2
      go_ret
      exact ⟨rfl, World.grownBy.refl _ _⟩
end Go.Proofs.Ytnpkmjdlohdieaa
