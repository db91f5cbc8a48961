import Derived.Test.YtdjbaampicinnaaTFrm
namespace Go.Proofs.Ytdjbaampicinnaa
open Go.RowKit
set_option maxRecDepth 100000
set_option linter.unusedVariables false
set_option linter.unusedSimpArgs false

set_option maxHeartbeats 1000000 in
theorem rbits_any (a : Option Addr) (n cap : Nat) (L : List Nat) (w : World) (hp : Rd w a n cap L) (hn : n ≤ 17592186044416) :
    Calls Try.prog 12 #[.slice a n cap] w fun e w' => ∃ a' c', e = .returned (.slice a' (8 * n : Nat) c') ∧ Ans w' w.heap.size a' (8 * n) c' (bitL L) ∧ w.grownBy w' none := by
  have HL : Hid (L.length = n) := hp.len
  go_enter Try.func12, Try.ntmps12
  go_wp2
  go_loopw [3, 4] (fun o i wr => ∃ (j : Nat) (a' : Option Addr) (c' : Nat), j ≤ 8 * n ∧ i = .int .i64 (j : Nat) ∧ o = .slice a' j c' ∧ w.grownBy wr none ∧ Ans wr w.heap.size a' j c' (tab j (bN L))) (fun _ i _ => 8 * n - (intOf i).toNat)
  case atStart => exact ⟨0, _, _, by omega, rfl, rfl, World.grownBy.refl _ _, ans_nil _ _⟩
  case round =>
    obtain ⟨j, a1, c1, hj, rfl, rfl, hgr1, hA1⟩ := hrel
    by_cases hjl : j < 8 * n
    · obtain ⟨k, q, hkq, hq⟩ : ∃ k q : Nat, j = 8 * k + q ∧ q < 8 := ⟨j / 8, j % 8, by omega, by omega⟩
      have hkn : k < n := by omega
      obtain ⟨p, hpj⟩ : ∃ p : Nat, p + q = 7 := ⟨7 - q, by omega⟩
      obtain ⟨b, off, rfl, hbw, hcc⟩ := (hp.keep hgr1).at' (by omega)
      have hck := hcc k hkn
      have hLk := hp.byte.nth k
      have HB : Hid (bN L j = nth L k / 2 ^ p % 2) := by
        show _ = _
        unfold bN
        rw [show j / 8 = k from by omega, show j % 8 = q from by omega, show 7 - q = p from by omega]
      have hd1 : (j : Int) / 8 = (k : Int) := by omega
      have hd2 : (j : Int).tdiv 8 = (k : Int) := by rw [Int.tdiv_eq_ediv_of_nonneg (by omega)]; omega
      have hm1 : (j : Int) % 8 = (q : Int) := by omega
      have hm2 : (j : Int).tmod 8 = (q : Int) := by rw [Int.tmod_eq_emod_of_nonneg (by omega)]; omega
      have hs : (7 : Int) - (q : Int) = (p : Int) := by omega
      have hb := bit_fact (nth L k) hLk p (by omega)
      have hvl : nth L k / 2 ^ p % 2 < 256 := by have : nth L k / 2 ^ p % 2 < 2 := Nat.mod_lt _ (by decide); omega
      have hp8 : p < 8 := by omega
      generalize nth L k / 2 ^ p % 2 = v at *
      clear hcc hp hkq hpj
      go_wp2_with (at_builtin; refine wpList_push2 w wr rfl (.tmp 12) (.tmp 23) rfl a1 j c1 v w.heap.size none _ rfl hA1 hgr1 (fun g hg => .inr (hA1.new g hg)) (Nat.le_refl _) hvl rfl (by omega) ?_; intro gx cx w2 hA2 hG2 hM2)
      go_roundw
      case rel =>
        rw [← HB.out, ← tab_succ] at hA2
        exact ⟨j + 1, _, cx, by omega, by go_num, rfl, hG2, hA2⟩
      case measure => simp [intOf]; omega
    · obtain rfl : j = 8 * n := by omega
      have HS : Hid (bitL L = tab (8 * n) (bN L)) := by show _ = _; unfold bitL; rw [HL.out]
      go_wp2
      go_ret
      exact ⟨a1, c1, rfl, by rw [HS.out]; exact hA1, hgr1⟩
end Go.Proofs.Ytdjbaampicinnaa
