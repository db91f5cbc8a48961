import Derived.Deep.RegionHeld3
import Derived.Test.YtlmddjkplnbadaaNUn1
namespace Go.Proofs.Ytlmddjkplnbadaa
open Go.RowKit
set_option maxRecDepth 100000
set_option linter.unusedVariables false
set_option linter.unusedSimpArgs false

def unN (B : List Nat) : Nat := nth B 0 * 256 + nth B 1
def unF (B : List Nat) : Nat := nth B 4 * 256 + nth B 5
abbrev unOk (B : List Nat) : Prop := unN B / 16384 = 0 ∧ unN B % 2 = 1 ∧ unF B / 2048 = 3
theorem num_two (B : List Nat) (m : Nat) (h : m + 2 ≤ B.length) : numB ((B.drop m).take 2) = nth B m * 256 + nth B (m + 1) := by
  unfold numB
  rw [List.length_take, List.length_drop, show min 2 (B.length - m) = 2 by omega]
  have e : ∀ i, i < 2 → nth ((B.drop m).take 2) i = nth B (m + i) := fun i hi => by
    unfold nth
    rw [List.getD_eq_getElem?_getD, List.getElem?_take, if_pos hi, List.getElem?_drop, ← List.getD_eq_getElem?_getD]
  show (0 * 256 + nth ((B.drop m).take 2) 0) * 256 + nth ((B.drop m).take 2) 1 = _
  rw [e 0 (by decide), e 1 (by decide)]
  simp
theorem Try.info_hd : (Try.prog.info? 28).map (fun i => i.size) = some 5 := by kernel_rfl
theorem cell_grown {w w' : World} {b i : Nat} {r : Option Nat} {v : Value} (h : w.cell? ⟨b, i, none⟩ = some v) (hg : w.grownBy w' r) (hb : b < w.heap.size) (hne : some b ≠ r) : w'.cell? ⟨b, i, none⟩ = some v := by
  rw [← h]
  unfold World.cell?
  rw [hg.block b hb hne]
/-- a struct of five cells is written -/
def set5 (w : World) (g : Nat) (v0 v1 v2 v3 v4 : Value) : World := ((((w.setCell ⟨g, 0, none⟩ v0).setCell ⟨g, 1, none⟩ v1).setCell ⟨g, 2, none⟩ v2).setCell ⟨g, 3, none⟩ v3).setCell ⟨g, 4, none⟩ v4
theorem set5_grown (w : World) (g : Nat) (v0 v1 v2 v3 v4 : Value) : w.grownBy (set5 w g v0 v1 v2 v3 v4) (some g) :=
  grown_trans (grown_trans (grown_trans (grown_trans (grown_set _ _ _ _) (grown_set _ _ _ _)) (grown_set _ _ _ _)) (grown_set _ _ _ _)) (grown_set _ _ _ _)
theorem BxS.set5 {w : World} {g : Nat} {t : TypeId} {a b c d e : Value} (h : BxS w g t #[a, b, c, d, e]) (v0 v1 v2 v3 v4 : Value) : BxS (set5 w g v0 v1 v2 v3 v4) g t #[v0, v1, v2, v3, v4] :=
  ((((h.set 0 v0).set 1 v1).set 2 v2).set 3 v3).set 4 v4
set_option maxHeartbeats 8000000 in
theorem readHead2_any (b off cap : Nat) (B : List Nat) (w : World) (hR : Rd w (some ⟨b, off, none⟩) 6 cap B) :
    Calls Try.prog 48 #[.slice (some ⟨b, off, none⟩) 6 cap] w fun e w' => (e = .returned (if unOk B then .tuple #[.agg (heA (unN B / 16 : Nat) (unN B / 2 % 8 : Nat) (nth B 2 : Nat) (nth B 3 : Nat) (unF B % 2048 : Nat)), .bool true] else .tuple #[.agg (heA 0 0 0 0 0), .bool false])) ∧ w.grownBy w' none := by
  have hB := hR.byte
  have hle := hR.le
  have hmx := hR.max
  unfold maxLen at hmx
  have b0 := BxS.new w 28 (heA 0 0 0 0 0)
  have g0 := World.grownBy_alloc w (.cells (heA 0 0 0 0 0) 28) none
  unfold heA at b0 g0 ⊢
  generalize hw0 : w.alloc (.cells #[.int .i64 0, .int .i64 0, .int .i64 0, .int .i64 0, .int .i64 0] 28) = w0 at b0 g0
  have hR0 := hR.keep g0
  have hbn : b < w.heap.size := by
    obtain ⟨_, _, e, hbw, _⟩ := hR.at' (by decide)
    cases e
    exact hbw
  have hbm : b ≠ w.heap.size := by omega
  have hl := hR.len
  have e1 : numB (B.take 2) = unN B := num_two B 0 (by omega)
  have e2 : numB ((B.drop 4).take 2) = unF B := num_two B 4 (by omega)
  have hA1 := fun m => Calls.quiet_of_same (n := m) (number_any _ 2 cap _ (w0.drewN m) ((hR0.keep (grown_drewN w0 m none)).cut (m := 2) (by decide)) (by decide))
  have hA2 := fun m => Calls.quiet_of_same (n := m) (number_any _ 2 (cap - 4) _ (w0.drewN m) ((hR0.keep (grown_drewN w0 m none)).part 4 2 (by decide)) (by decide))
  rw [e1] at hA1
  rw [e2] at hA2
  have hx : unN B < 65536 := by have h0 := hB.nth 0; have h1 := hB.nth 1; unfold unN; omega
  have hy : unF B < 65536 := by have h0 := hB.nth 4; have h1 := hB.nth 5; unfold unF; omega
  have v1 := name_and (unN B) hx
  have v2 := first_and (unF B) hy
  have k2 := hB.nth 2
  have k3 := hB.nth 3
  have HO : Hid (unOk B ↔ unN B / 16384 = 0 ∧ unN B % 2 = 1 ∧ unF B / 2048 = 3) := show _ ↔ _ from Iff.rfl
  by_cases ho : unOk B
  · rw [if_pos ho]
    have ho' := HO.out.1 ho
    clear HO ho e1 e2
    generalize unN B = x at *
    generalize unF B = y at *
    have v1' : bits .and .i64 (x : Int) 49153 = 1 := by rw [v1]; omega
    have v2' : bits .and .i64 (y : Int) 63488 = 6144 := by rw [v2]; omega
    have v3 : bits .and .i64 ((x : Int) / 2) 7 = ((x / 2 % 8 : Nat) : Int) := by
      have := low_and (x / 2) 3 (by omega) (by decide)
      simpa using this
    have v4 : bits .and .i64 (y : Int) 2047 = ((y % 2048 : Nat) : Int) := low_and y 11 (by omega) (by decide)
    clear v1 v2 ho'
    go_enter Try.func48, Try.ntmps48
    go_wp2
    go_quiet (first | (go_at_call 47; first | with_reducible exact hA1 _ | with_reducible exact hA2 _))
    generalize hdr : w0.drewN nq = w1
    have g1 := grown_drewN w0 nq none
    rw [hdr] at g1
    have b1 := b0.keep g1 (by simp)
    have hR1 := hR0.keep g1
    clear hdr hA1 hA2
    obtain ⟨_, _, e, hbw, hc⟩ := hR1.at' (by decide)
    cases e
    have c2 := hc 2 (by decide)
    have c3 := hc 3 (by decide)
    clear hc
    obtain ⟨d0, d1, d2, d3, d4⟩ := b1.cell5
    have f0 := b1.free 0; have f1 := b1.free 1; have f2 := b1.free 2; have f3 := b1.free 3; have f4 := b1.free 4
    have r2 : IntKind.i64.wrap (nth B 2 : Int) = nth B 2 := wrap_i64_in _ (by omega) (by omega)
    have r3 : IntKind.i64.wrap (nth B 3 : Int) = nth B 3 := wrap_i64_in _ (by omega) (by omega)
    go_wp2
    clear hR hR0 hR1 hw0 hB hl
    go_region_law (fail)
    all_goals
      go_wp2
    all_goals
      have b5 := (b1.set5 (.int .i64 ((x : Int) / 16)) (.int .i64 ((x : Int) / 2 % 8)) (.int .i64 (nth B 2 : Int)) (.int .i64 (nth B 3 : Int)) (.int .i64 ((y : Int) % 2048))).keep (grown_drew _ none) (by simp)
      have G5 := grown_trans (grown_far (grown_trans g0 g1) (set5_grown w1 w.heap.size (.int .i64 ((x : Int) / 16)) (.int .i64 ((x : Int) / 2 % 8)) (.int .i64 (nth B 2 : Int)) (.int .i64 (nth B 3 : Int)) (.int .i64 ((y : Int) % 2048))) (fun q e => by cases e; exact Nat.le_refl _)) (grown_drew _ none)
      unfold set5 at b5 G5
      generalize (((((w1.setCell ⟨w.heap.size, 0, none⟩ (.int .i64 ((x : Int) / 16))).setCell ⟨w.heap.size, 1, none⟩ (.int .i64 ((x : Int) / 2 % 8))).setCell ⟨w.heap.size, 2, none⟩ (.int .i64 (nth B 2 : Int))).setCell ⟨w.heap.size, 3, none⟩ (.int .i64 (nth B 3 : Int))).setCell ⟨w.heap.size, 4, none⟩ (.int .i64 ((y : Int) % 2048))).drew = w9 at b5 G5 ⊢
      refine bodyPost_ret (results_cell1t rfl _ _ _ ⟨w.heap.size, 0, none⟩ _ (.bool true) rfl (BxS.load (t := 28) b5 Try.underlying28 Try.info_hd) rfl) rfl ?_
      exact ⟨rfl, G5⟩
  · rw [if_neg ho]
    have ho' : ¬ (unN B / 16384 = 0 ∧ unN B % 2 = 1 ∧ unF B / 2048 = 3) := fun h => ho (HO.out.2 h)
    clear HO ho e1 e2
    generalize unN B = x at *
    generalize unF B = y at *
    have i5 := Try.info_hd
    by_cases hN : x / 16384 = 0 ∧ x % 2 = 1
    · have v1' : bits .and .i64 (x : Int) 49153 = 1 := by rw [v1]; omega
      have v2' : ((bits .and .i64 (y : Int) 63488 != 6144) : Bool) = true := by
        rw [v2]
        have : ((y / 2048 * 2048 : Nat) : Int) ≠ 6144 := by omega
        simpa using this
      clear v1 v2 ho' hN
      go_enter Try.func48, Try.ntmps48
      go_wp2
      go_quiet (first | (go_at_call 47; first | with_reducible exact hA1 _ | with_reducible exact hA2 _))
      generalize hdr : w0.drewN nq = w1
      have g1 := grown_drewN w0 nq none
      rw [hdr] at g1
      have b1 := b0.keep g1 (by simp)
      clear hdr hA1 hA2
      have t1 : True := trivial
      go_wp2_with (have _t := t1; refine wpList_stX _ rfl _ (.tmp 2) (.tmp 20) rfl w.heap.size _ _ rfl rfl b1 i5 rfl (by simp [Value.oneCell']) ?_; clear t1; intro w2 b2 g2)
      refine bodyPost_ret (results_cell1t rfl _ _ _ ⟨w.heap.size, 0, none⟩ _ (.bool false) rfl (BxS.load (t := 28) b2 Try.underlying28 Try.info_hd) rfl) rfl ?_
      exact ⟨rfl, grown_far (grown_trans g0 g1) g2 (fun q e => by cases e; exact Nat.le_refl _)⟩
    · have v1' : ((bits .and .i64 (x : Int) 49153 != 1) : Bool) = true := by
        rw [v1]
        have : ((x / 16384 * 16384 + x % 2 : Nat) : Int) ≠ 1 := by omega
        simpa using this
      clear v1 v2 ho' hN
      go_enter Try.func48, Try.ntmps48
      go_wp2
      go_quiet (first | (go_at_call 47; first | with_reducible exact hA1 _ | with_reducible exact hA2 _))
      generalize hdr : w0.drewN nq = w1
      have g1 := grown_drewN w0 nq none
      rw [hdr] at g1
      have b1 := b0.keep g1 (by simp)
      clear hdr hA1 hA2
      have t1 : True := trivial
      go_wp2_with (have _t := t1; refine wpList_stX _ rfl _ (.tmp 2) (.tmp 20) rfl w.heap.size _ _ rfl rfl b1 i5 rfl (by simp [Value.oneCell']) ?_; clear t1; intro w2 b2 g2)
      refine bodyPost_ret (results_cell1t rfl _ _ _ ⟨w.heap.size, 0, none⟩ _ (.bool false) rfl (BxS.load (t := 28) b2 Try.underlying28 Try.info_hd) rfl) rfl ?_
      exact ⟨rfl, grown_far (grown_trans g0 g1) g2 (fun q e => by cases e; exact Nat.le_refl _)⟩
end Go.Proofs.Ytlmddjkplnbadaa
