import Derived.Test.YthdjpbfknbafgaaKxTm
namespace Go.Proofs.Ythdjpbfknbafgaa
open Go.RowKit
set_option maxRecDepth 100000
set_option linter.unusedVariables false
set_option linter.unusedSimpArgs false

/-- the byte that the first j bits of piece k begin -/
def jN (B : List Nat) (k : Nat) : Nat → Nat
  | 0 => 0
  | j + 1 => 2 * jN B k j + nth B (8 * k + j)
abbrev BitTo (B : List Nat) (n : Nat) : Prop := ∀ i, i < n → nth B i < 2
theorem jN_lt (B : List Nat) (k : Nat) : ∀ j, (∀ i, i < j → nth B (8 * k + i) < 2) → jN B k j < 2 ^ j := by
  intro j
  induction j with
  | zero => intro _; exact (by decide : (0 : Nat) < 1)
  | succ j ih =>
    intro h
    have h1 := ih (fun i hi => h i (by omega))
    have h2 := h j (by omega)
    show 2 * jN B k j + nth B (8 * k + j) < 2 ^ (j + 1)
    rw [Nat.pow_succ]; omega
theorem pow_8 : ∀ j : Nat, j ≤ 8 → 2 ^ j ≤ 256 := by decide
theorem join_fact : ∀ v : Nat, v < 128 → ∀ b : Nat, b < 2 → bits .or .u8 ((v : Int) * 2) (b : Int) = ((2 * v + b : Nat) : Int) := by decide +kernel
theorem pow_7 : ∀ j : Nat, j < 8 → 2 ^ j ≤ 128 := by decide
/-! the document's Bytes -/
def bytL (B : List Nat) : List Nat := tab (B.length / 8) (fun k => jN B k 8)
def bytE (B : List Nat) : Int := if B.length % 8 ≠ 0 then 1 else if BitTo B B.length then 0 else 2
def bytR (B : List Nat) : List Nat := if bytE B = 0 then bytL B else []
/-- what of byte k there is behind i bits -/
def prtN (B : List Nat) (i k : Nat) : Nat := jN B k (min 8 (i - 8 * k)) * 2 ^ (8 - min 8 (i - 8 * k))
theorem prtN_zero (B : List Nat) (k : Nat) : prtN B 0 k = 0 := by
  unfold prtN; rw [show min 8 (0 - 8 * k) = 0 from by omega]; rfl
theorem prtN_all (B : List Nat) (n k : Nat) (h : 8 * k + 8 ≤ n) : prtN B n k = jN B k 8 := by
  unfold prtN; rw [show min 8 (n - 8 * k) = 8 from by omega]; simp
theorem prtN_other (B : List Nat) (k t k' : Nat) (ht : t < 8) (h : k' ≠ k) : prtN B (8 * k + t + 1) k' = prtN B (8 * k + t) k' := by
  unfold prtN
  rw [show min 8 (8 * k + t + 1 - 8 * k') = min 8 (8 * k + t - 8 * k') from by omega]
theorem prt_fact : ∀ t : Nat, t < 8 → ∀ v : Nat, v < 2 ^ t → ∀ b : Nat, b < 2 → bits .or .u8 ((v * 2 ^ (8 - t) : Nat) : Int) ((b : Int) * 2 ^ (7 - t)) = (((2 * v + b) * 2 ^ (7 - t) : Nat) : Int) ∧ (2 * v + b) * 2 ^ (7 - t) < 256 ∧ IntKind.u8.wrap ((b : Int) * 2 ^ (7 - t)) = (b : Int) * 2 ^ (7 - t) ∧ v * 2 ^ (8 - t) < 256 := by decide +kernel
theorem prtN_step (B : List Nat) (k t : Nat) (ht : t < 8) (hB : BitTo B (8 * k + t + 1)) :
    bits .or .u8 ((prtN B (8 * k + t) k : Nat) : Int) ((nth B (8 * k + t) : Int) * 2 ^ (7 - t)) = ((prtN B (8 * k + t + 1) k : Nat) : Int) ∧ IntKind.u8.wrap ((nth B (8 * k + t) : Int) * 2 ^ (7 - t)) = (nth B (8 * k + t) : Int) * 2 ^ (7 - t) := by
  have hv := jN_lt B k t (fun i hi => hB _ (by omega))
  have h := prt_fact t ht (jN B k t) hv (nth B (8 * k + t)) (hB _ (by omega))
  unfold prtN
  rw [show min 8 (8 * k + t - 8 * k) = t from by omega, show min 8 (8 * k + t + 1 - 8 * k) = t + 1 from by omega, show 8 - (t + 1) = 7 - t from by omega]
  exact ⟨h.1, h.2.2.1⟩
theorem prtN_lt (B : List Nat) (i k : Nat) (hB : BitTo B i) : prtN B i k < 256 := by
  unfold prtN
  have hv := jN_lt B k (min 8 (i - 8 * k)) (fun j hj => hB _ (by omega))
  have hp : 0 < 2 ^ (8 - min 8 (i - 8 * k)) := Nat.pow_pos (by decide)
  have h2 : 2 ^ (min 8 (i - 8 * k)) * 2 ^ (8 - min 8 (i - 8 * k)) = 256 := by rw [← Nat.pow_add, show min 8 (i - 8 * k) + (8 - min 8 (i - 8 * k)) = 8 from by omega]
  rw [← h2]; exact Nat.mul_lt_mul_of_pos_right hv hp
set_option maxHeartbeats 1000000 in
theorem rbytes_any (a : Option Addr) (n cap : Nat) (B : List Nat) (w : World) (hp : Rd w a n cap B) (hn : n ≤ 140737488351232) :
    Calls Try.prog 20 #[.slice a n cap] w fun e w' => ∃ a' n' c', e = .returned (.tuple #[.slice a' n' c', .int .i64 (bytE B)]) ∧ Ans w' w.heap.size a' n' c' (bytR B) ∧ w.grownBy w' none := by
  have HL : Hid (B.length = n) := hp.len
  by_cases h8 : n % 8 = 0
  · obtain ⟨m, rfl⟩ : ∃ m, n = 8 * m := ⟨n / 8, by omega⟩
    have hd1 : ((8 * m : Nat) : Int) / 8 = (m : Int) := by omega
    have hm0 : ((8 * m : Nat) : Int) % 8 = 0 := by omega
    have hd2 : (8 * (m : Int)) / 8 = (m : Int) := by omega
    have hm2 : (8 * (m : Int)) % 8 = 0 := by omega
    go_enter Try.func20, Try.ntmps20
    go_wp2_with (at_make; refine wpList_mkB _ rfl _ _ rfl _ _ m rfl rfl (by omega) (by omega) (by omega) ?_; intro w1 hb1 hg1)
    rw [tab_zero m (fun k => prtN B 0 k) (fun k _ => prtN_zero B k)] at hb1
    go_loopw [5] (fun i wr => ∃ q : Nat, q ≤ 8 * m ∧ i = .int .i64 (q : Nat) ∧ w.grownBy wr none ∧ Blk wr w.heap.size (tab m (fun k => prtN B q k)) ∧ Hid (BitTo B q)) (fun i _ => 8 * m - (intOf i).toNat)
    case atStart => exact ⟨0, by omega, rfl, hg1, hb1, show BitTo B 0 from fun i hi => absurd hi (by omega)⟩
    case round =>
      obtain ⟨q, hq, rfl, hgr, hB, HQ⟩ := hrel
      by_cases hqn : q < 8 * m
      · obtain ⟨b, off, rfl, hbw, hcc⟩ := (hp.keep hgr).at' (by omega)
        have hcq := hcc q hqn
        clear hcc
        by_cases hbit : nth B q < 2
        · have HQ1 : Hid (BitTo B (q + 1)) := show BitTo B (q + 1) from fun i hi => by
            by_cases e : i = q
            · rw [e]; exact hbit
            · exact HQ.out i (by omega)
          obtain ⟨k, t, hkq, ht⟩ : ∃ k t : Nat, q = 8 * k + t ∧ t < 8 := ⟨q / 8, q % 8, by omega, by omega⟩
          have hkn : k < m := by omega
          obtain ⟨p, hpj⟩ : ∃ p : Nat, p = 7 - t := ⟨_, rfl⟩
          have hst := prtN_step B k t ht (by rw [← hkq]; exact HQ1.out)
          rw [← hkq, ← hpj] at hst
          obtain ⟨hor, hsh⟩ := hst
          have co := hB.cell k (by rw [tab_len]; exact hkn)
          rw [tab_nth _ _ _ hkn] at co
          have fo := hB.free k
          have e1 : (q : Int) / 8 = (k : Int) := by omega
          have e2 : (q : Int).tdiv 8 = (k : Int) := by rw [Int.tdiv_eq_ediv_of_nonneg (by omega)]; omega
          have e3 : (q : Int) % 8 = (t : Int) := by omega
          have e4 : (q : Int).tmod 8 = (t : Int) := by rw [Int.tmod_eq_emod_of_nonneg (by omega)]; omega
          have e5 : IntKind.i64.wrap ((7 : Int) - (t : Int)) = (p : Int) := by rw [wrap_i64_in _ (by omega) (by omega)]; omega
          have e6 : IntKind.i64.wrap (k : Int) = (k : Int) := by rw [wrap_i64_in _ (by omega) (by omega)]
          have hp8 : p < 8 := by omega
          have hBs := hB.set k (prtN B (q + 1) k)
          rw [tab_set m _ (fun k' => prtN B (q + 1) k') k _ hkn rfl (fun k' _ hne' => by rw [hkq, prtN_other B k t k' ht hne'])] at hBs
          have hgs : w.grownBy (wr.setCell ⟨w.heap.size, k, none⟩ (.int .u8 (prtN B (q + 1) k : Nat))).drew none := grown_far hgr (grown_trans (grown_set _ _ _ _) (grown_drew _ _)) (fun g hg => by cases hg; exact Nat.le_refl _)
          have hbq : b ≠ w.heap.size := by
            obtain ⟨b', off', e, hb', _⟩ := hp.at' (by omega)
            cases e; omega
          clear hkq hpj hp hd1 hm0 hd2 hm2
          go_wp2
          go_region
          all_goals
            go_wp2
            go_roundw
            case rel => exact ⟨q + 1, by omega, by go_num, hgs, hBs.grown (grown_drew _ none) (by simp), HQ1⟩
            case measure => simp [intOf]; omega
        · have HE : Hid (bytE B = 2) := by
            show _ = _
            unfold bytE
            rw [HL.out, if_neg (by omega), if_neg (fun h => hbit (h q hqn))]
          have HR : Hid (bytR B = []) := by show _ = _; unfold bytR; rw [HE.out, if_neg (by decide)]
          go_wp2
          go_ret2
          exact ⟨none, 0, 0, by rw [HE.out]; rfl, by rw [HR.out]; exact ans_nil _ _, hgr⟩
      · obtain rfl : q = 8 * m := by omega
        have HE : Hid (bytE B = 0) := by
          show _ = _
          unfold bytE
          rw [HL.out, if_neg (by omega), if_pos HQ.out]
        have HR : Hid (bytR B = tab m (fun k => prtN B (8 * m) k)) := by
          show _ = _
          unfold bytR bytL
          rw [HE.out, if_pos rfl, HL.out, show 8 * m / 8 = m from by omega]
          exact tab_ext m _ _ (fun k hk => (prtN_all B (8 * m) k (by omega)).symm)
        have hans := hB.ans (n := m) (lo := w.heap.size) (tab_isB _ _ (fun k => prtN_lt B _ k HQ.out)) (by rw [tab_len]; exact Nat.le_refl _) (by rw [tab_len]; unfold maxLen; omega) (Nat.le_refl _)
        rw [tab_len, List.take_of_length_le (by rw [tab_len]; exact Nat.le_refl _)] at hans
        go_wp2
        go_ret2
        exact ⟨_, _, _, by rw [HE.out]; rfl, by rw [HR.out]; exact hans, hgr⟩
  · have HE : Hid (bytE B = 1) := by show _ = _; unfold bytE; rw [HL.out, if_pos h8]
    have HR : Hid (bytR B = []) := by show _ = _; unfold bytR; rw [HE.out, if_neg (by decide)]
    have hr : (((n : Int) % 8) == 0) = false := by simp; omega
    go_enter Try.func20, Try.ntmps20
    go_wp2
    go_ret2
    exact ⟨none, 0, 0, by rw [HE.out]; rfl, by rw [HR.out]; exact ans_nil _ _, World.grownBy.refl _ _⟩
end Go.Proofs.Ythdjpbfknbafgaa
