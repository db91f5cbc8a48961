import Derived.Test.YtaigcjhachkmmaaDoorYSq
namespace Go.Proofs.YtaigcjhachkmmaaDoor
open Go.RowKit
set_option maxRecDepth 100000
set_option linter.unusedVariables false
set_option linter.unusedSimpArgs false
/-- the square while the words are laid -/
def layF (W : Nat → Nat) (q i : Nat) : Nat := if i < 4 then [1752326502, 745302369, 2036689696, 1684107296].getD i 0 else if i < 4 + q then W (i - 4) else 0
theorem lay_zero (W : Nat → Nat) : kys .u32 16 (layF W 0) = #[Value.int IntKind.u32 1752326502, Value.int IntKind.u32 745302369, Value.int IntKind.u32 2036689696, Value.int IntKind.u32 1684107296, Value.int IntKind.u32 0, Value.int IntKind.u32 0, Value.int IntKind.u32 0, Value.int IntKind.u32 0, Value.int IntKind.u32 0, Value.int IntKind.u32 0, Value.int IntKind.u32 0, Value.int IntKind.u32 0, Value.int IntKind.u32 0, Value.int IntKind.u32 0, Value.int IntKind.u32 0, Value.int IntKind.u32 0] := by
  kernel_rfl
theorem lay_step (W : Nat → Nat) (q : Nat) : ∀ i, i < 16 → updF (layF W q) (4 + q) (W q) i = layF W (q + 1) i := by
  intro i _
  unfold updF layF
  by_cases e : i = 4 + q
  · subst e; rw [if_pos rfl, if_neg (by omega), if_pos (by omega)]; congr 1; omega
  · rw [if_neg e]
    by_cases e2 : i < 4
    · rw [if_pos e2, if_pos e2]
    · rw [if_neg e2, if_neg e2]
      by_cases e3 : i < 4 + q
      · rw [if_pos e3, if_pos (by omega)]
      · rw [if_neg e3, if_neg (by omega)]
theorem lay_end (W : Nat → Nat) (c x : Nat) : ∀ i, i < 16 → updF (updF (updF (layF W 8) 12 x) 13 (c % 4294967296)) 14 (c / 4294967296) i = sq0 W c x i := by
  intro i hi
  unfold updF layF sq0
  by_cases h1 : i < 4
  · simp only [if_pos h1, if_neg (show ¬ i = 14 by omega), if_neg (show ¬ i = 13 by omega), if_neg (show ¬ i = 12 by omega)]
  · simp only [if_neg h1]
    by_cases h2 : i < 12
    · simp only [if_pos h2, if_pos (show i < 4 + 8 by omega), if_neg (show ¬ i = 14 by omega), if_neg (show ¬ i = 13 by omega), if_neg (show ¬ i = 12 by omega)]
    · have : i = 12 ∨ i = 13 ∨ i = 14 ∨ i = 15 := by omega
      rcases this with rfl | rfl | rfl | rfl <;> simp
set_option maxHeartbeats 4000000 in
theorem lay_any (a : Option Addr) (cap c x : Nat) (S : List Int) (W : Nat → Nat) (w : World) (hp : RdI w a 8 cap S) (hW : ∀ i, i < 8 → nthI S i = (W i : Int) ∧ W i < 4294967296) (hc : c < 281474976710656) (hx : x < 4294967296) :
    Calls Tryd.prog 54 #[.slice a 8 cap, .int .i64 c, .int .i64 x] w fun e w' => e = .returned (.agg (kys .u32 16 (sq0 W c x))) ∧ w.grownBy w' none := by
  obtain ⟨b, off, rfl, hbw, hcc⟩ := hp.at' (by decide)
  go_enter Tryd.func54, Tryd.ntmps54
  go_wp2
  have e1 : w.grownBy ((w.alloc (.cells (kys .u32 16 fun _ => 0) 82)).alloc (.cells (kys .u32 16 (layF W 0)) 82)) none :=
    grown_trans (World.grownBy_alloc _ _ _) (World.grownBy_alloc _ _ _)
  have r0 : KRow .u32 ((w.alloc (.cells (kys .u32 16 fun _ => 0) 82)).alloc (.cells (kys .u32 16 (layF W 0)) 82)) w.heap.size 82 16 (fun _ => 0) :=
    (krow_new .u32 w _ 16 _).keep (World.grownBy_alloc _ _ _)
  have r1 : KRow .u32 ((w.alloc (.cells (kys .u32 16 fun _ => 0) 82)).alloc (.cells (kys .u32 16 (layF W 0)) 82)) (w.heap.size + 1) 82 16 (layF W 0) := by
    have := krow_new .u32 (w.alloc (.cells (kys .u32 16 fun _ => 0) 82)) 82 16 (layF W 0)
    simpa using this
  have ez := lay_zero W
  rw [show #[Value.int IntKind.u32 1752326502, Value.int IntKind.u32 745302369, Value.int IntKind.u32 2036689696, Value.int IntKind.u32 1684107296, Value.int IntKind.u32 0, Value.int IntKind.u32 0, Value.int IntKind.u32 0, Value.int IntKind.u32 0, Value.int IntKind.u32 0, Value.int IntKind.u32 0, Value.int IntKind.u32 0, Value.int IntKind.u32 0, Value.int IntKind.u32 0, Value.int IntKind.u32 0, Value.int IntKind.u32 0, Value.int IntKind.u32 0] = kys .u32 16 (layF W 0) from ez.symm]
  change Code.wp _ _ _ _ ((w.alloc (.cells (kys .u32 16 fun _ => 0) 82)).alloc (.cells (kys .u32 16 (layF W 0)) 82))
  clear ez
  generalize ((w.alloc (.cells (kys .u32 16 fun _ => 0) 82)).alloc (.cells (kys .u32 16 (layF W 0)) 82)) = wb at *
  go_loopw [13] (fun i wr => ∃ q : Nat, q ≤ 8 ∧ i = .int .i64 q ∧ w.grownBy wr none ∧ KRow .u32 wr w.heap.size 82 16 (fun _ => 0) ∧ KRow .u32 wr (w.heap.size + 1) 82 16 (layF W q)) (fun i _ => 8 - (intOf i).toNat)
  case atStart => exact ⟨0, by omega, rfl, e1, r0, r1⟩
  case round =>
    obtain ⟨q, hq, rfl, hgr, h0, h2⟩ := hrel
    by_cases hlt : q < 8
    · have c2 := h2.cell (4 + q) (by omega)
      have f2 := h2.free (4 + q)
      have hst := fun x => h2.set (4 + q) x
      have c0 := hcc q hlt
      have hcr : wr.cell? ⟨b, off + q, none⟩ = some (.int .i64 (W q : Nat)) := by
        rw [← (hW q hlt).1, ← c0]; exact World.cell?_of_block (hgr.block b hbw (by simp))
      have b1 := (hW q hlt).2
      have hi4 : (q : Int) < 8 := by omega
      have hi5 : 4 + (q : Int) < 16 := by omega
      have hi6 : (0 : Int) ≤ 4 + (q : Int) := by omega
      have H0 : Hid (KRow .u32 wr w.heap.size 82 16 (fun _ => 0)) := h0
      have HL : Hid (∀ i, i < 16 → updF (layF W q) (4 + q) (W q) i = layF W (q + 1) i) := lay_step W q
      clear h0 h2 hcc hW hp c0
      go_wp2
      go_roundw
      case rel =>
        have hsz := hgr.size
        exact ⟨q + 1, by omega, by go_num, grown_far hgr (grown_set _ _ _ _) (fun g e => by cases e; omega), H0.out.kept (grown_set _ _ _ _) (by simp), (hst (W q)).congr HL.out⟩
      case measure => simp [intOf]; omega
    · obtain rfl : q = 8 := by omega
      have c1 := h2.cell 12 (by decide)
      have f1 := h2.free 12
      have k1 := h2.set 12 x
      have c2 := k1.cell 13 (by decide)
      have f2 := k1.free 13
      have k2 := k1.set 13 (c % 4294967296)
      have c3 := k2.cell 14 (by decide)
      have f3 := k2.free 14
      have k3 := k2.set 14 (c / 4294967296)
      have k4 := k3.congr (lay_end W c x)
      have hd : c / 4294967296 < 65536 := by omega
      have hm : c % 4294967296 < 4294967296 := Nat.mod_lt _ (by decide)
      have v1 : IntKind.u32.wrap (c : Int) = ((c % 4294967296 : Nat) : Int) := by rw [IntKind.wrap_u32']; omega
      have v2 : (c : Int) / 4294967296 = ((c / 4294967296 : Nat) : Int) := by omega
      have v3 : (c : Int) % 4294967296 = ((c % 4294967296 : Nat) : Int) := by omega
      have g3 := grown_trans (grown_set wr (w.heap.size + 1) 12 (.int .u32 (x : Nat))) (grown_trans (grown_set _ (w.heap.size + 1) 13 (.int .u32 (c % 4294967296 : Nat))) (grown_set _ (w.heap.size + 1) 14 (.int .u32 (c / 4294967296 : Nat))))
      have h04 := h0.kept g3 (by simp)
      generalize c / 4294967296 = ch at *
      generalize c % 4294967296 = cl at *
      clear hcc hW hp e1 r0 r1 k1 k2 k3 h2 h0
      go_wp2_with (first
        | (refine wpList_ldK .u32 _ rfl (.tmp 7) _ 16 rfl Tryd.und_sq Tryd.info_sq (w.heap.size + 1) _ rfl k4 ?_)
        | (refine wpList_stK .u32 _ rfl (.tmp 6) (.tmp 34) _ 16 rfl Tryd.info_sq w.heap.size _ _ rfl rfl h04 ?_; intro w2 hR2 g2))
      have hsz := hgr.size
      refine bodyPost_ret (results_cell1 Tryd.results54 _ _ _ ⟨w.heap.size, 0, none⟩ _ rfl (run_lvK .u32 w2 _ _ _ _ Tryd.und_sq Tryd.info_sq hR2)) rfl ⟨rfl, grown_far (grown_far hgr g3 (fun g e => by cases e; omega)) g2 (fun g e => by cases e; omega)⟩
end Go.Proofs.YtaigcjhachkmmaaDoor
