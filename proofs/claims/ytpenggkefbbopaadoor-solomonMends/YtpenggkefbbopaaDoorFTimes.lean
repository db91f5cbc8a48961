import Derived.Test.YtpenggkefbbopaaDoorFRSum
namespace Go.Proofs.YtpenggkefbbopaaDoor
open Go.RowKit
set_option maxRecDepth 100000
set_option linter.unusedVariables false
set_option linter.unusedSimpArgs false

/-- the product, not yet trimmed: k rounds -/
def timN (P Q : List Nat) : Nat → List Nat
  | 0 => List.replicate (P.length + Q.length) 0
  | k + 1 => addN (timN P Q k) k Q (nth P k) Q.length
def timL (P Q : List Nat) : List Nat := timN P Q P.length
theorem timN_length (P Q : List Nat) (k : Nat) : (timN P Q k).length = P.length + Q.length := by
  induction k with
  | zero => simp [timN]
  | succ k ih => simp only [timN]; rw [addN_length]; exact ih
theorem timN_isB {P Q : List Nat} (hP : IsB P) (hQ : IsB Q) (k : Nat) : IsB (timN P Q k) := by
  induction k with
  | zero => exact isB_zeros _
  | succ k ih => exact addN_isB ih hQ _ _ _

theorem tooLong_any (a b : Option Addr) (n m cap cap' : Nat) (w : World) (hn : n ≤ 9223372036854775807) (hm : m ≤ 9223372036854775807) :
    Calls Tryd.prog 20 #[.slice a n cap, .slice b m cap'] w fun e w' => e = .returned (.bool (decide (512 < n ∨ 512 < m))) ∧ w' = w := by
  by_cases h1 : 512 < n
  · have e : decide (512 < n ∨ 512 < m) = true := by simp [h1]
    rw [e]
    go_enter Tryd.func20, Tryd.ntmps20
    go_wp2
    go_ret
    exact ⟨rfl, rfl⟩
  · by_cases h2 : 512 < m
    · have e : decide (512 < n ∨ 512 < m) = true := by simp [h2]
      rw [e]
      go_enter Tryd.func20, Tryd.ntmps20
      go_wp2
      go_ret
      refine ⟨?_, rfl⟩
      show Ending.returned (Value.bool (decide ((512 : Int) < (n : Int)) || decide ((512 : Int) < (m : Int)))) = _
      congr 2
      simp; omega
    · have e : decide (512 < n ∨ 512 < m) = false := by simp; omega
      rw [e]
      go_enter Tryd.func20, Tryd.ntmps20
      go_wp2
      go_ret
      refine ⟨?_, rfl⟩
      show Ending.returned (Value.bool (decide ((512 : Int) < (n : Int)) || decide ((512 : Int) < (m : Int)))) = _
      congr 2
      simp; omega

theorem times_big (a b : Option Addr) (n m cap cap' : Nat) (w : World) (hn : n ≤ 9223372036854775807) (hm : m ≤ 9223372036854775807) (hb : 512 < n ∨ 512 < m) :
    Calls Tryd.prog 26 #[.slice a n cap, .slice b m cap'] w fun e w' => e = .returned (.tuple #[.slice none 0 0, .int .i64 1]) ∧ w' = w := by
  have e : decide (512 < n ∨ 512 < m) = true := by simpa using hb
  have H := tooLong_any a b n m cap cap' w hn hm
  rw [e] at H
  clear e
  go_enter Tryd.func26, Tryd.ntmps26
  go_wp2_with (go_at_call 20; refine H.mono ?_; rintro e w' ⟨rfl, rfl⟩)
  go_ret2
  exact ⟨rfl, rfl⟩

theorem times_ok (a b : Option Addr) (n m cap cap' : Nat) (P Q : List Nat) (w : World) (hp : Rd w a n cap P) (hq : Rd w b m cap' Q) (hn : n ≤ 512) (hm : m ≤ 512) :
    Calls Tryd.prog 26 #[.slice a n cap, .slice b m cap'] w fun e w' => ∃ a' n' c', e = .returned (.tuple #[.slice a' n' c', .int .i64 0]) ∧ Ans w' w.heap.size a' n' c' (trimL (timL P Q)) ∧ w.grownBy w' none := by
  have e : decide (512 < n ∨ 512 < m) = false := by simp; omega
  have H := tooLong_any a b n m cap cap' w (by omega) (by omega)
  rw [e] at H
  clear e
  have HL : Hid (P.length = n ∧ Q.length = m) := ⟨hp.len, hq.len⟩
  go_enter Tryd.func26, Tryd.ntmps26
  go_wp2_with (first | (go_at_call 20; refine H.mono ?_; rintro e w' ⟨rfl, hw⟩; have hw := hw.symm; subst hw) | (at_make; refine wpList_mkB _ rfl _ _ rfl _ _ (n + m) rfl rfl (by omega) (by omega) (by omega) ?_; intro w1 hb1 hg1))
  go_loopw [20] (fun i wr => ∃ k : Nat, k ≤ n ∧ i = .int .i64 k ∧ w.grownBy wr none ∧ Blk wr w.heap.size (timN P Q k)) (fun i _ => n - (intOf i).toNat)
  case atStart => exact ⟨0, by omega, rfl, by assumption, by unfold timN; rw [HL.out.1, HL.out.2]; assumption⟩
  case round =>
    obtain ⟨k, hk, rfl, hgr, hB⟩ := hrel
    have hlen := timN_length P Q k
    have hisB := timN_isB hp.byte hq.byte k
    by_cases hlt : k < n
    · obtain ⟨b1, off1, rfl, hbw1, _⟩ := hp.at' (by omega)
      obtain ⟨_, _, e1, _, hcc1⟩ := (hp.grown hgr (fun _ _ _ => by simp)).at' (by omega)
      cases e1
      have hck1 := hcc1 k (by omega)
      have hq' := hq.grown hgr (fun _ _ _ => by simp)
      have hne := hq.ne (Nat.le_refl w.heap.size)
      have hPk := hp.byte.nth k
      have hkk : (k : Int) ≤ ((n + m : Nat) : Int) := by omega
      have hnk : ¬ n + m = k := by omega
      have HN : Hid (addN (timN P Q k) k Q (nth P k) m = timN P Q (k + 1)) := by show _ = _; simp only [timN]; rw [HL.out.2]
      clear hcc1 H
      go_wp2_with (go_at_call 24; refine (addScaled_any w.heap.size k _ _ b m cap' (nth P k) (timN P Q k) Q _ hB hisB hq' hne (by rw [hlen, HL.out.1, HL.out.2]; omega) (by omega) (by omega) hPk).mono ?_; rintro e w' ⟨rfl, hB', hgr'⟩)
      rw [HN.out] at hB'
      go_roundw
      case rel => exact ⟨k + 1, by omega, by go_num, new_then hgr hgr', hB'⟩
      case measure => simp [intOf]; omega
    · obtain rfl : k = n := by omega
      have hrd := hB.rd hisB (n := k + m) (by rw [hlen, HL.out.1, HL.out.2]) (by unfold maxLen; omega)
      have hans := hB.ans (n := trimN (timN P Q k) (k + m)) (lo := w.heap.size) hisB (by rw [hlen, HL.out.1, HL.out.2]; exact trimN_le _ _) (by rw [hlen, HL.out.1, HL.out.2]; unfold maxLen; omega) (Nat.le_refl _)
      rw [hlen, HL.out.1, HL.out.2] at hans
      have HT : Hid ((timN P Q k).take (trimN (timN P Q k) (k + m)) = trimL (timL P Q)) := by show _ = _; unfold trimL timL; rw [timN_length, HL.out.1, HL.out.2]
      clear hlen
      go_wp2_with (go_at_call 21; refine (trim_any _ _ _ (timN P Q k) _ hrd).mono ?_; rintro e w' ⟨rfl, rfl⟩)
      go_ret2
      exact ⟨_, _, _, rfl, by rw [← HT.out]; exact hans, by assumption⟩

theorem add_stepN {w wr : World} {g o c k x : Nat} {L Q : List Nat} (hB : Blk wr g (addN L o Q c k)) (hL : IsB L) (hQ : IsB Q) (hc : c < 256) (hgr : w.grownBy wr (some g)) :
    Blk (wr.setCell ⟨g, o + k, none⟩ (.int .u8 (bits .xor .u8 (nth (addN L o Q c k) (o + k) : Nat) (Fld.mul c (nth Q k) : Nat)))).drew g (addN L o Q c (k + 1)) ∧
    w.grownBy (wr.setCell ⟨g, o + k, none⟩ (.int .u8 (bits .xor .u8 (nth (addN L o Q c k) (o + k) : Nat) (Fld.mul c (nth Q k) : Nat)))).drew (some g) := by
  rw [Fld.mul_comm hc (hQ.nth _)]
  exact add_step hB hL hQ hgr

end Go.Proofs.YtpenggkefbbopaaDoor
