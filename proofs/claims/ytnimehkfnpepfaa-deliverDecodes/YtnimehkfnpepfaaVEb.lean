import Derived.Test.YtnimehkfnpepfaaVDe
namespace Go.Proofs.Ytnimehkfnpepfaa
open Go.RowKit
set_option maxRecDepth 100000
set_option linter.unusedVariables false
set_option linter.unusedSimpArgs false

theorem four_cells (w : World) : ∀ j u, ([.int .i64 (-7), .int .i64 (-7), .int .i64 (-7), .int .i64 (-7)] : List Value)[j]? = some u → (w.alloc (.cells #[.int .i64 (-7), .int .i64 (-7), .int .i64 (-7), .int .i64 (-7)] 82)).cell? ((⟨w.heap.size, 0, none⟩ : Addr).add j) = some u := by
  have hb := BxS.new w 82 #[.int .i64 (-7), .int .i64 (-7), .int .i64 (-7), .int .i64 (-7)]
  intro j u hu
  rw [addr_add]
  match j with
  | 0 => exact (hb.cell 0 (by show 0 < 4; decide)).trans hu
  | 1 => exact (hb.cell 1 (by show 1 < 4; decide)).trans hu
  | 2 => exact (hb.cell 2 (by show 2 < 4; decide)).trans hu
  | 3 => exact (hb.cell 3 (by show 3 < 4; decide)).trans hu
  | j + 4 => simp at hu
theorem own_bx {w : World} {g m d : Nat} {A : Array Value} (h : BxS w g 82 A) (hs : A.size = d * 2) (hm : m ≤ d) (hd : d ≤ maxLen) : w.ownsRow 0 82 2 (.slice (some ⟨g, 0, none⟩) m d) m (A.toList.take (m * 2)) :=
  ⟨by rw [List.length_take, Array.length_toList]; omega, .inr ⟨g, d, A, rfl, Nat.zero_le _, h, hm, hd, hs, rfl⟩⟩
set_option maxHeartbeats 8000000 in
theorem overGaps_any (w : World) (lo : Nat) (q : Option Addr) (m d : Nat) (G : List (Nat × Nat)) (h : OwGp w lo q m d G) (hm : m ≤ 100000) :
    Calls Try.prog 23 #[.slice q m d] w fun e w' => e = .returned (.tuple #[]) ∧ w.grownBy w' (Value.slice q m d).ownBlock := by
  obtain ⟨i0, hi, hz0, hz1, hz2⟩ := info_parts Try.info_pr
  rcases h.own.2 with ⟨h1, h0⟩ | ⟨g, cap, cur, h1, _, hh, hle, hmax, hsz, _⟩
  · subst h0
    cases h1
    go_enter Try.func23, Try.ntmps23
    go_wp2
    go_loopw [2] (fun iv wr => iv = .int .i64 0 ∧ Hid (wr = w)) (fun _ _ => 0)
    case atStart => exact ⟨rfl, rfl⟩
    case round =>
      obtain ⟨rfl, hwr⟩ := hrel
      have hwr := hwr.out
      subst hwr
      have s0 : True := trivial
      go_wp2_with (at_builtin; have _t := s0; clear s0; refine wpList_apS (wr.alloc (.cells #[.int .i64 (-7), .int .i64 (-7), .int .i64 (-7), .int .i64 (-7)] 82)) rfl _ _ 24 82 i0 (.agg #[.int .i64 0, .int .i64 0]) 2 16 Try.underlying24 hi hz0 hz1 hz2 rfl (by decide) rfl (.slice none 0 0) 0 _ rfl (World.ownsRow_nil _ _ _ _) ⟨wr.heap.size, 0, none⟩ 2 2 [.int .i64 (-7), .int .i64 (-7), .int .i64 (-7), .int .i64 (-7)] rfl rfl (four_cells wr) (by intro u hu; simp only [List.mem_cons, List.not_mem_nil, or_false] at hu; rcases hu with rfl | rfl | rfl | rfl <;> rfl) (by decide) (by unfold maxLen; omega) (by omega) ?_; intro gx cx w5 hor u5 hO5)
      first | go_end0 | refine bodyPost_ret (results_none rfl _ _ _) rfl ?_
      exact ⟨rfl, grown_trans (World.grownBy_alloc wr _ none) u5⟩
  · cases h1
    go_enter Try.func23, Try.ntmps23
    go_wp2
    go_loopw [2] (fun iv wr => ∃ (i : Nat) (A : Array Value), i ≤ m ∧ iv = .int .i64 i ∧ BxS wr g 82 A ∧ A.size = d * 2 ∧ w.grownBy wr (some g)) (fun iv _ => m - (intOf iv).toNat)
    case atStart => exact ⟨0, cur, Nat.zero_le _, rfl, hh, hsz, World.grownBy.refl _ _⟩
    case round =>
      obtain ⟨i, A, hi9, rfl, hA, hAs, Gr⟩ := hrel
      by_cases hlt : i < m
      · have li : (i : Int) < (m : Int) := by omega
        have c0 : wr.cell? ⟨g, i * 2, none⟩ = some (A[i * 2]'(by omega)) := hA.cell (i * 2) (by omega)
        have f0 := hA.free (i * 2)
        have hA1 := hA.set (i * 2) (.int .i64 (-7))
        have g1 := grown_set wr g (i * 2) (.int .i64 (-7))
        generalize hw1 : wr.setCell ⟨g, i * 2, none⟩ (.int .i64 (-7)) = w1 at hA1 g1
        have c1 : w1.cell? ⟨g, i * 2 + 1, none⟩ = some ((A.set! (i * 2) (.int .i64 (-7)))[i * 2 + 1]'(by simp; omega)) := hA1.cell (i * 2 + 1) (by simp; omega)
        have f1 := hA1.free (i * 2 + 1)
        have hA2 := hA1.set (i * 2 + 1) (.int .i64 (-7))
        have g2 := grown_set w1 g (i * 2 + 1) (.int .i64 (-7))
        generalize hw2 : w1.setCell ⟨g, i * 2 + 1, none⟩ (.int .i64 (-7)) = w2 at hA2 g2
        go_wp2
        go_roundw
        case rel => exact ⟨i + 1, _, by omega, by go_num, hA2, by simp; exact hAs, grown_trans (grown_trans Gr g1) g2⟩
        case measure => simp [intOf] <;> omega
      · obtain rfl : i = m := by omega
        have li : ¬ (i : Int) < (i : Int) := by omega
        have s0 : True := trivial
        go_wp2_with (at_builtin; have _t := s0; clear s0; refine wpList_apS (wr.alloc (.cells #[.int .i64 (-7), .int .i64 (-7), .int .i64 (-7), .int .i64 (-7)] 82)) rfl _ _ 24 82 i0 (.agg #[.int .i64 0, .int .i64 0]) 2 16 Try.underlying24 hi hz0 hz1 hz2 rfl (by decide) rfl (.slice (some ⟨g, 0, none⟩) i d) i _ rfl ((own_bx hA hAs hle hmax).kept (World.grownBy_alloc wr _ none) (.inr (by simp [Value.ownBlock]))) ⟨wr.heap.size, 0, none⟩ 2 2 [.int .i64 (-7), .int .i64 (-7), .int .i64 (-7), .int .i64 (-7)] rfl rfl (four_cells wr) (by intro u hu; simp only [List.mem_cons, List.not_mem_nil, or_false] at hu; rcases hu with rfl | rfl | rfl | rfl <;> rfl) (by decide) (by unfold maxLen; omega) (by omega) ?_; intro gx cx w5 hor u5 hO5)
        first | go_end0 | refine bodyPost_ret (results_none rfl _ _ _) rfl ?_
        exact ⟨rfl, grown_trans (grown_trans Gr (grown_weak (World.grownBy_alloc wr _ none) _)) u5⟩
end Go.Proofs.Ytnimehkfnpepfaa
