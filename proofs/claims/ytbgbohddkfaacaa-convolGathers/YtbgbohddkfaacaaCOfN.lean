import Derived.Test.YtbgbohddkfaacaaCRow
namespace Go.Proofs.Ytbgbohddkfaacaa
open Go.RowKit
set_option maxRecDepth 100000
set_option linter.unusedVariables false
set_option linter.unusedSimpArgs false

/-- the prices: what a variable of the call's own leads to -/
structure Pri (w : World) (gv gp N : Nat) (p : Nat → Int) : Prop where
  var : w.heap[gv]? = some (.cells #[.slice (some ⟨gp, 0, none⟩) N N] 86)
  row : IRow w gp 90 (4 * N) p
theorem Pri.cell {w : World} {gv gp N : Nat} {p : Nat → Int} (h : Pri w gv gp N p) : w.cell? ⟨gv, 0, none⟩ = some (.slice (some ⟨gp, 0, none⟩) N N) := by rw [cell_of_row w gv 0 _ _ _ h.var]; rfl
theorem Pri.kept {w w' : World} {gv gp N : Nat} {p : Nat → Int} {o : Option Nat} (h : Pri w gv gp N p) (hg : w.grownBy w' o) (h1 : some gv ≠ o) (h2 : some gp ≠ o) : Pri w' gv gp N p :=
  ⟨by rw [hg.block gv (Array.getElem?_eq_some_iff.1 h.var).1 h1]; exact h.var, h.row.kept hg h2⟩
theorem Pri.keep {w w' : World} {gv gp N : Nat} {p : Nat → Int} (h : Pri w gv gp N p) (hg : w.grownBy w' none) : Pri w' gv gp N p := h.kept hg (by simp) (by simp)
/-- what step k costs with this register -/
def payP (p : Nat → Int) (k r : Nat) : Int := p (k * 4 + sy1 r) + p (k * 4 + 2 + sy2 r)
theorem pricer_any (k gv gp N : Nat) (hk : k < N) (hN : N ≤ 20000) (r : Nat) (hr : r < 128) (p : Nat → Int) (hpb : ∀ j, 0 ≤ p j ∧ p j ≤ 14) (w : World) (h : Pri w gv gp N p) :
    Calls Try.prog 57 #[.int .i64 k, .int .i64 r, .pointer (some ⟨gv, 0, none⟩)] w fun e w' => e = .returned (.int .i64 (payP p k r)) ∧ ∃ m, w' = w.drewN m := by
  have HY := fun w' => symbols_any r hr w'
  have l1 := sy1_lt r
  have l2 := sy2_lt r
  have hv := h.cell
  have HE : Hid (payP p k r = p (k * 4 + sy1 r) + p (k * 4 + 2 + sy2 r)) := rfl
  generalize sy1 r = s1 at *
  generalize sy2 r = s2 at *
  have c1 := h.row.cell (k * 4 + s1) (by omega)
  have c2 := h.row.cell (k * 4 + 2 + s2) (by omega)
  have i1 : (s1 : Int) < 2 := by omega
  have i2 : (s2 : Int) < 2 := by omega
  have hb1 := hpb (k * 4 + s1)
  have hb2 := hpb (k * 4 + 2 + s2)
  generalize p (k * 4 + s1) = x1 at *
  generalize p (k * 4 + 2 + s2) = x2 at *
  clear h hpb
  go_enter Try.func57, Try.ntmps57
  go_wp2_with (go_at_call 51; refine (HY _).mono ?_; rintro e w3 ⟨rfl, hw⟩; have hw := hw.symm; subst hw)
  go_quiet (fail)
  go_wp2
  go_ret
  refine ⟨?_, _, rfl⟩
  rw [HE.out]
  rfl
theorem pricer_int (z : Int) (k gv gp N : Nat) (hk : k < N) (hN : N ≤ 20000) (r : Nat) (hz : z = (r : Int)) (hr : r < 128) (p : Nat → Int) (hpb : ∀ j, 0 ≤ p j ∧ p j ≤ 14) (w : World) (h : Pri w gv gp N p) :
    Calls Try.prog 57 #[.int .i64 k, .int .i64 z, .pointer (some ⟨gv, 0, none⟩)] w fun e w' => e = .returned (.int .i64 (payP p k r)) ∧ ∃ m, w' = w.drewN m := by
  subst hz; exact pricer_any k gv gp N hk hN r hr p hpb w h
def clos (gv : Nat) : Value := .func (.func 57) #[] #[.pointer (some ⟨gv, 0, none⟩)]
theorem grown_of_drew {w w' : World} (h : ∃ m, w' = w.drewN m) (r : Option Nat) : w.grownBy w' r := by
  obtain ⟨m, rfl⟩ := h; exact grown_drewN _ _ _
set_option maxHeartbeats 4000000 in
theorem ofNoughts_any (f : Nat → Int) (k gv gp N : Nat) (hk : k < N) (hN : N ≤ 20000) (p : Nat → Int) (hpb : ∀ j, 0 ≤ p j ∧ p j ≤ 14) (hfb : ∀ i, 0 ≤ f i ∧ f i ≤ 1000000) (w : World) (h : Pri w gv gp N p) :
    Calls Try.prog 53 #[.agg (ints 64 f), .int .i64 k, .func (.func 57) #[] #[.pointer (some ⟨gv, 0, none⟩)]] w fun e w' =>
      e = .returned (.agg (ints 64 fun s => payP p k (2 * s) + f (2 * s % 64))) ∧ w.grownBy w' none := by
  go_enter Try.func53, Try.ntmps53
  go_wp2
  have e1 : w.grownBy (((w.alloc (.cells (ints 64 f) 79)).alloc (.cells (ints 64 fun _ => 0) 79)).alloc (.cells (ints 64 fun _ => 0) 79)) none :=
    grown_trans (grown_trans (World.grownBy_alloc _ _ _) (World.grownBy_alloc _ _ _)) (World.grownBy_alloc _ _ _)
  have r0 : IRow (((w.alloc (.cells (ints 64 f) 79)).alloc (.cells (ints 64 fun _ => 0) 79)).alloc (.cells (ints 64 fun _ => 0) 79)) w.heap.size 79 64 f :=
    ((irow_new w _ 64 f).keep (World.grownBy_alloc _ _ _)).keep (World.grownBy_alloc _ _ _)
  have r1 : IRow (((w.alloc (.cells (ints 64 f) 79)).alloc (.cells (ints 64 fun _ => 0) 79)).alloc (.cells (ints 64 fun _ => 0) 79)) (w.heap.size + 1) 79 64 (fun _ => 0) := by
    have := (irow_new (w.alloc (.cells (ints 64 f) 79)) 79 64 (fun _ => 0)).keep (World.grownBy_alloc _ (.cells (ints 64 fun _ => 0) 79) _)
    simpa using this
  have r2 : IRow (((w.alloc (.cells (ints 64 f) 79)).alloc (.cells (ints 64 fun _ => 0) 79)).alloc (.cells (ints 64 fun _ => 0) 79)) (w.heap.size + 2) 79 64 (fun _ => 0) := by
    have := (irow_new ((w.alloc (.cells (ints 64 f) 79)).alloc (.cells (ints 64 fun _ => 0) 79)) 79 64 (fun _ => 0))
    simpa using this
  change Code.wp _ _ _ _ (((w.alloc (.cells (ints 64 f) 79)).alloc (.cells (ints 64 fun _ => 0) 79)).alloc (.cells (ints 64 fun _ => 0) 79))
  generalize (((w.alloc (.cells (ints 64 f) 79)).alloc (.cells (ints 64 fun _ => 0) 79)).alloc (.cells (ints 64 fun _ => 0) 79)) = wb at *
  go_loopw [10] (fun i wr => ∃ q : Nat, q ≤ 64 ∧ i = .int .i64 q ∧ w.grownBy wr none ∧ IRow wr w.heap.size 79 64 f ∧ IRow wr (w.heap.size + 1) 79 64 (fun _ => 0) ∧
    IRow wr (w.heap.size + 2) 79 64 (fun s => if s < q then payP p k (2 * s) + f (2 * s % 64) else 0)) (fun i _ => 64 - (intOf i).toNat)
  case atStart => exact ⟨0, by omega, rfl, e1, r0, r1, r2.congr (fun i _ => by rw [if_neg (by omega)])⟩
  case round =>
    obtain ⟨q, hq, rfl, hgr, h0, h1, h2⟩ := hrel
    by_cases hlt : q < 64
    · have hP := fun w' (hg : wr.grownBy w' none) => pricer_int ((q : Int) * 2) k gv gp N hk hN (2 * q) (by omega) (by omega) p hpb w' (h.keep (grown_trans hgr hg))
      have c0 := h0.cell (2 * q % 64) (by omega)
      have c2 := h2.cell q hlt
      have f2 := h2.free q
      have hpb1 := hpb (k * 4 + sy1 (2 * q))
      have hpb2 := hpb (k * 4 + 2 + sy2 (2 * q))
      have hp1 : 0 ≤ payP p k (2 * q) ∧ payP p k (2 * q) ≤ 28 := by unfold payP; omega
      have hf1 := hfb (2 * q % 64)
      have HR : Hid (payP p k (2 * q) + f (2 * q % 64) = (fun s => payP p k (2 * s) + f (2 * s % 64)) q) := rfl
      have hst := fun x => h2.set q x
      generalize payP p k (2 * q) = x1 at *
      generalize f (2 * q % 64) = x2 at *
      have hi : (q : Int) * 2 % 64 = ((2 * q % 64 : Nat) : Int) := by omega
      have hi2 : 2 * q % 64 < 64 := by omega
      have H0 : Hid (IRow wr w.heap.size 79 64 f) := h0
      have H1 : Hid (IRow wr (w.heap.size + 1) 79 64 (fun _ => 0)) := h1
      have H2 : Hid (IRow wr (w.heap.size + 2) 79 64 (fun s => if s < q then payP p k (2 * s) + f (2 * s % 64) else 0)) := h2
      clear hpb1 hpb2 h1 h0 h2 h hfb hpb
      generalize 2 * q % 64 = j at *
      have hi3 : (j : Int) < 64 := by omega
      have hi5 : ((q : Int) * 2).tmod 64 = (j : Int) := by rw [Int.tmod_eq_emod_of_nonneg (by omega)]; exact hi
      have hi6 : IntKind.i64.wrap (((q : Int) * 2).tmod 64) = (j : Int) := by rw [hi5]; exact wrap_i64_in _ (by omega) (by omega)
      have hi7 : IntKind.i64.wrap (x1 + x2) = x1 + x2 := wrap_i64_in _ (by omega) (by omega)
      have hi4 : (q : Int) < 64 := by omega
      go_wp2
      go_region_with (go_at_call 57; refine (hP _ (by repeat (first | exact World.grownBy.refl _ _ | refine grown_trans ?_ (grown_drew _ _) | refine grown_trans ?_ (grown_drewN _ _ _)))).mono ?_; rintro e w' ⟨rfl, m, rfl⟩)
      all_goals
        go_wp2
        go_roundw
        case rel =>
          have g1 := grown_drewN wr (1 + m) none
          have hsz := hgr.size
          refine ⟨q + 1, by omega, by go_num, grown_far (grown_trans hgr g1) (grown_set _ _ _ _) (fun g e => by cases e; omega), (H0.out.keep g1).kept (grown_set _ _ _ _) (by simp; omega), (H1.out.keep g1).kept (grown_set _ _ _ _) (by simp), ((H2.out.keep g1).set q _).congr ?_⟩
          intro i hi
          by_cases e : i = q
          · subst e; rw [if_pos rfl, if_pos (by omega)]; exact HR.out
          · rw [if_neg e]
            by_cases e2 : i < q
            · rw [if_pos e2, if_pos (by omega)]
            · rw [if_neg e2, if_neg (by omega)]
        case measure => simp [intOf]; omega
    · obtain rfl : q = 64 := by omega
      have h2' : IRow wr (w.heap.size + 2) 79 64 (fun s => payP p k (2 * s) + f (2 * s % 64)) := h2.congr (fun i hi => by rw [if_pos hi])
      clear h2 h0
      go_wp2_with (first
        | (refine wpList_ld64 _ rfl (.tmp 7) rfl (w.heap.size + 2) _ rfl h2' ?_)
        | (refine wpList_st64 _ rfl (.tmp 6) (.tmp 27) rfl (w.heap.size + 1) _ _ rfl rfl h1 ?_; intro w2 hR2 g2))
      have hsz := hgr.size
      refine bodyPost_ret (results_cell1 Try.results53 _ _ _ ⟨w.heap.size + 1, 0, none⟩ _ rfl (run_lv64 w2 _ _ hR2)) rfl ⟨rfl, grown_far hgr g2 (fun g e => by cases e; omega)⟩
end Go.Proofs.Ytbgbohddkfaacaa
