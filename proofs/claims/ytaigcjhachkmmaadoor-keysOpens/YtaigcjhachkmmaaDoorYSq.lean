import Derived.Test.YtaigcjhachkmmaaDoorYTn
namespace Go.Proofs.YtaigcjhachkmmaaDoor
open Go.RowKit
set_option maxRecDepth 100000
set_option linter.unusedVariables false
set_option linter.unusedSimpArgs false
theorem Tryd.info_sq : (Tryd.prog.info? 82).map (·.size) = some 16 := by kernel_rfl
theorem Tryd.info_by : (Tryd.prog.info? 67).map (·.size) = some 64 := by kernel_rfl
theorem Tryd.und_sq : ∃ e, Tryd.prog.underlying 82 = some (.array 16 e) := ⟨_, Tryd.underlying82⟩
theorem Tryd.und_by : ∃ e, Tryd.prog.underlying 67 = some (.array 64 e) := ⟨_, Tryd.underlying67⟩
theorem run_idx {P : Program} (t e : TypeId) (n m : Nat) (cs : Array Value) (q : Nat) (w : World) (h : P.underlying t = some (.array n e)) (hq : q < n) (hs : (sizeOf e).run P w = .ok m w) (r : Result Value) (hp : (part e cs (q * m)).run P w = r) :
    (Instr.index t (.agg cs) (.int .i64 q)).run P w = r := by
  have hn : (0 : Int) ≤ (q : Int) ∧ (q : Int) < (n : Int) := by omega
  simp [Instr.index, run_underlying h, asIntOf, hn, go_sem, hs]
  simp [hq, hs, go_sem]
  rw [← hp]
  simp [part, go_sem]
theorem sz_u32 (w : World) : (sizeOf 80).run Tryd.prog w = .ok 1 w := by
  simp [sizeOf, go_sem]
  kernel_rfl
theorem run_idx32 (f : Nat → Nat) (q : Nat) (hq : q < 16) (w : World) : (Instr.index 82 (.agg (kys .u32 16 f)) (.int .i64 q)).run Tryd.prog w = .ok (.int .u32 (f q : Nat)) w := by
  refine run_idx _ _ 16 1 _ q w Tryd.underlying82 hq (sz_u32 w) _ ?_
  simp [part, isAgg, go_sem, run_underlying Tryd.underlying80, kys_at .u32 16 f q hq]
theorem sz_l4 (w : World) : (sizeOf 84).run Tryd.prog w = .ok 4 w := by
  simp [sizeOf, go_sem]
  kernel_rfl
theorem run_idxL (cs : Array Value) (q : Nat) (hq : q < 8) (w : World) : (Instr.index 85 (.agg cs) (.int .i64 q)).run Tryd.prog w = .ok (.agg (cs.extract (q * 4) (q * 4 + 4))) w := by
  refine run_idx _ _ 8 4 _ q w Tryd.underlying85 hq (sz_l4 w) _ ?_
  simp [part, isAgg, go_sem, run_underlying Tryd.underlying84, sz_l4 w]
theorem upd_fill (F z : Nat → Nat) (q x n : Nat) (hx : x = F q) : ∀ i, i < n → updF (fun i => if i < q then F i else z i) q x i = if i < q + 1 then F i else z i := by
  intro i _
  unfold updF
  by_cases e : i = q
  · subst e; rw [if_pos rfl, if_pos (by omega), hx]
  · rw [if_neg e]
    by_cases e2 : i < q
    · simp only [if_pos e2, if_pos (show i < q + 1 by omega)]
    · simp only [if_neg e2, if_neg (show ¬ i < q + 1 by omega)]
theorem byt_val (x k : Nat) : (x : Int) / 2 ^ k % 256 = ((x >>> k % 256 : Nat) : Int) := by
  rw [Nat.shiftRight_eq_div_pow, Int.natCast_emod, Int.natCast_ediv, Int.natCast_pow]; rfl
set_option maxHeartbeats 4000000 in
theorem sqBytes_any (f : Nat → Nat) (hf : Is32 f) (w : World) :
    Calls Tryd.prog 57 #[.agg (kys .u32 16 f)] w fun e w' => e = .returned (.agg (kys .u8 64 fun i => f (i / 4) >>> (i % 4 * 8) % 256)) ∧ w.grownBy w' none := by
  go_enter Tryd.func57, Tryd.ntmps57
  go_wp2
  have e1 : w.grownBy (((w.alloc (.cells (kys .u32 16 f) 82)).alloc (.cells (kys .u8 64 fun _ => 0) 67)).alloc (.cells (kys .u8 64 fun _ => 0) 67)) none :=
    grown_trans (grown_trans (World.grownBy_alloc _ _ _) (World.grownBy_alloc _ _ _)) (World.grownBy_alloc _ _ _)
  have r0 : KRow .u32 (((w.alloc (.cells (kys .u32 16 f) 82)).alloc (.cells (kys .u8 64 fun _ => 0) 67)).alloc (.cells (kys .u8 64 fun _ => 0) 67)) w.heap.size 82 16 f :=
    ((krow_new .u32 w _ 16 f).keep (World.grownBy_alloc _ _ _)).keep (World.grownBy_alloc _ _ _)
  have r1 : KRow .u8 (((w.alloc (.cells (kys .u32 16 f) 82)).alloc (.cells (kys .u8 64 fun _ => 0) 67)).alloc (.cells (kys .u8 64 fun _ => 0) 67)) (w.heap.size + 1) 67 64 (fun _ => 0) := by
    have := (krow_new .u8 (w.alloc (.cells (kys .u32 16 f) 82)) 67 64 (fun _ => 0)).keep (World.grownBy_alloc _ (.cells (kys .u8 64 fun _ => 0) 67) _)
    simpa using this
  have r2 : KRow .u8 (((w.alloc (.cells (kys .u32 16 f) 82)).alloc (.cells (kys .u8 64 fun _ => 0) 67)).alloc (.cells (kys .u8 64 fun _ => 0) 67)) (w.heap.size + 2) 67 64 (fun _ => 0) := by
    have := (krow_new .u8 ((w.alloc (.cells (kys .u32 16 f) 82)).alloc (.cells (kys .u8 64 fun _ => 0) 67)) 67 64 (fun _ => 0))
    simpa using this
  change Code.wp _ _ _ _ (((w.alloc (.cells (kys .u32 16 f) 82)).alloc (.cells (kys .u8 64 fun _ => 0) 67)).alloc (.cells (kys .u8 64 fun _ => 0) 67))
  generalize (((w.alloc (.cells (kys .u32 16 f) 82)).alloc (.cells (kys .u8 64 fun _ => 0) 67)).alloc (.cells (kys .u8 64 fun _ => 0) 67)) = wb at *
  go_loopw [5] (fun i wr => ∃ q : Nat, q ≤ 64 ∧ i = .int .i64 q ∧ w.grownBy wr none ∧ KRow .u32 wr w.heap.size 82 16 f ∧ KRow .u8 wr (w.heap.size + 1) 67 64 (fun _ => 0) ∧
    KRow .u8 wr (w.heap.size + 2) 67 64 (fun i => if i < q then f (i / 4) >>> (i % 4 * 8) % 256 else 0)) (fun i _ => 64 - (intOf i).toNat)
  case atStart => exact ⟨0, by omega, rfl, e1, r0, r1, r2.congr (fun i _ => by rw [if_neg (by omega)])⟩
  case round =>
    obtain ⟨q, hq, rfl, hgr, h0, h1, h2⟩ := hrel
    by_cases hlt : q < 64
    · have c0 := h0.cell (q / 4) (by omega)
      have c2 := h2.cell q hlt
      have f2 := h2.free q
      have hst := fun x => h2.set q x
      have hb := hf (q / 4)
      have H0 : Hid (KRow .u32 wr w.heap.size 82 16 f) := h0
      have H1 : Hid (KRow .u8 wr (w.heap.size + 1) 67 64 (fun _ => 0)) := h1
      have H2 : Hid (KRow .u8 wr (w.heap.size + 2) 67 64 (fun i => if i < q then f (i / 4) >>> (i % 4 * 8) % 256 else 0)) := h2
      have ej : (q : Int).tdiv 4 = ((q / 4 : Nat) : Int) := by rw [Int.tdiv_eq_ediv_of_nonneg (by omega)]; omega
      have es : (q : Int).tmod 4 = ((q % 4 : Nat) : Int) := by rw [Int.tmod_eq_emod_of_nonneg (by omega)]; omega
      have hj : q / 4 < 16 := by omega
      have hs : q % 4 < 4 := by omega
      clear h0 h1 h2 hf
      obtain ⟨j, hj'⟩ : ∃ j, j = q / 4 := ⟨_, rfl⟩
      obtain ⟨s, hs'⟩ : ∃ s, s = q % 4 := ⟨_, rfl⟩
      have HJ : Hid (j = q / 4) := hj'
      have HS : Hid (s = q % 4) := hs'
      rw [← hj'] at c0 hb ej hj
      rw [← hs'] at es hs
      clear hj' hs'
      have hi4 : (q : Int) < 64 := by omega
      have hi5 : (j : Int) < 16 := by omega
      go_wp2
      go_roundw
      case rel =>
        have hsz := hgr.size
        have ev := byt_val (f j) (s * 8)
        rw [ev]
        refine ⟨q + 1, by omega, by go_num, grown_far hgr (grown_set _ _ _ _) (fun g e => by cases e; omega), H0.out.kept (grown_set _ _ _ _) (by simp; omega), H1.out.kept (grown_set _ _ _ _) (by simp), (hst _).congr (upd_fill (fun i => f (i / 4) >>> (i % 4 * 8) % 256) (fun _ => 0) q _ 64 (by rw [HJ.out, HS.out]))⟩
      case measure => simp [intOf]; omega
    · obtain rfl : q = 64 := by omega
      have h2' : KRow .u8 wr (w.heap.size + 2) 67 64 (fun i => f (i / 4) >>> (i % 4 * 8) % 256) := h2.congr (fun i hi => by rw [if_pos hi])
      clear h2 h0
      go_wp2_with (first
        | (refine wpList_ldK .u8 _ rfl (.tmp 3) _ 64 rfl Tryd.und_by Tryd.info_by (w.heap.size + 2) _ rfl h2' ?_)
        | (refine wpList_stK .u8 _ rfl (.tmp 2) (.tmp 20) _ 64 rfl Tryd.info_by (w.heap.size + 1) _ _ rfl rfl h1 ?_; intro w2 hR2 g2))
      have hsz := hgr.size
      refine bodyPost_ret (results_cell1 Tryd.results57 _ _ _ ⟨w.heap.size + 1, 0, none⟩ _ rfl (run_lvK .u8 w2 _ _ _ _ Tryd.und_by Tryd.info_by hR2)) rfl ⟨rfl, grown_far hgr g2 (fun g e => by cases e; omega)⟩
set_option maxHeartbeats 4000000 in
theorem sqAdd_any (g : Nat) (f t : Nat → Nat) (hf : Is32 f) (ht : Is32 t) (w : World) (h : KRow .u32 w g 82 16 f) :
    Calls Tryd.prog 56 #[.pointer (some ⟨g, 0, none⟩), .agg (kys .u32 16 t)] w fun e w' => e = .returned (.tuple #[]) ∧ KRow .u32 w' g 82 16 (fun i => (f i + t i) % 4294967296) ∧ w.grownBy w' (some g) := by
  have hlt0 := h.lt
  have n1 := krow_new .u32 w 82 16 t
  have g0 := World.grownBy_alloc w (.cells (kys .u32 16 t) 82)
  have hb0 := h.keep (g0 none)
  have g1 := g0 (some g)
  go_enter Tryd.func56, Tryd.ntmps56
  go_wp2_with (refine wpList_ldK .u32 _ rfl (.tmp 3) _ 16 rfl Tryd.und_sq Tryd.info_sq w.heap.size _ rfl n1 ?_)
  generalize w.alloc (.cells (kys .u32 16 t) 82) = wb at *
  go_loopw [7] (fun i wr => ∃ q : Nat, q ≤ 16 ∧ i = .int .i64 q ∧ w.grownBy wr (some g) ∧ KRow .u32 wr g 82 16 (fun i => if i < q then (f i + t i) % 4294967296 else f i)) (fun i _ => 16 - (intOf i).toNat)
  case atStart => exact ⟨0, by omega, rfl, g1, hb0.congr (fun i _ => by rw [if_neg (by omega)])⟩
  case round =>
    obtain ⟨q, hq, rfl, hgr, h2⟩ := hrel
    by_cases hlt : q < 16
    · have c2 := h2.cell q hlt
      rw [if_neg (by omega)] at c2
      have f2 := h2.free q
      have hst := fun x => h2.set q x
      have b1 := hf q
      have b2 := ht q
      have kt := kys_at .u32 16 t q hlt
      have ks := kys_size .u32 16 t
      have hi4 : (q : Int) < 16 := by omega
      obtain ⟨v, hv⟩ : ∃ v, v = (f q + t q) % 4294967296 := ⟨_, rfl⟩
      have e1 : ((f q : Int) + (t q : Int)) % 4294967296 = (v : Int) := by omega
      have e2 : IntKind.u32.wrap ((f q : Int) + (t q : Int)) = (v : Int) := by rw [IntKind.wrap_u32', e1]
      have HV : Hid (v = (f q + t q) % 4294967296) := hv
      have hix := run_idx32 t q hlt wr
      clear hv h2
      go_wp2
      go_region
      go_wp2
      go_roundw
      case rel => exact ⟨q + 1, by omega, by go_num, grown_trans hgr (grown_trans (grown_set _ _ _ _) (grown_drew _ _)), KRow.congr (w := (wr.setCell ⟨g, q, none⟩ (.int .u32 (v : Nat))).drew) (hst v) (upd_fill (fun i => (f i + t i) % 4294967296) f q v 16 HV.out)⟩
      case measure => simp [intOf]; omega
    · obtain rfl : q = 16 := by omega
      go_wp2
      go_end0
      exact ⟨rfl, h2.congr (fun i hi => by rw [if_pos hi]), hgr⟩
end Go.Proofs.YtaigcjhachkmmaaDoor
