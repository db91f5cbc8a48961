import Derived.Test.YtaigcjhachkmmaaDoorYLy
namespace Go.Proofs.YtaigcjhachkmmaaDoor
open Go.RowKit
set_option maxRecDepth 100000
set_option linter.unusedVariables false
set_option linter.unusedSimpArgs false
/-- the table of places -/
def lnT (i : Nat) : Nat := if i % 4 = 0 then lna (i / 4) else if i % 4 = 1 then lnb (i / 4) else if i % 4 = 2 then lnc (i / 4) else lnd (i / 4)
def Lin (w : World) : Prop := ∃ t fr, w.heap[0]? = some (.cells (kys .i64 32 lnT) t fr)
theorem Lin.lt {w : World} (h : Lin w) : 0 < w.heap.size := by obtain ⟨t, fr, h⟩ := h; exact (Array.getElem?_eq_some_iff.1 h).1
theorem Lin.kept {w w' : World} {o : Option Nat} (h : Lin w) (hg : w.grownBy w' o) (hne : some 0 ≠ o) : Lin w' := by
  obtain ⟨t, fr, h'⟩ := h
  exact ⟨t, fr, by rw [hg.block 0 (Lin.lt ⟨t, fr, h'⟩) hne]; exact h'⟩
theorem Lin.keep {w w' : World} (h : Lin w) (hg : w.grownBy w' none) : Lin w' := h.kept hg (by simp)
theorem lin_row (q : Nat) (hq : q < 8) : (kys .i64 32 lnT).extract (q * 4) (q * 4 + 4) = #[.int .i64 (lna q : Nat), .int .i64 (lnb q : Nat), .int .i64 (lnc q : Nat), .int .i64 (lnd q : Nat)] := by
  have : q = 0 ∨ q = 1 ∨ q = 2 ∨ q = 3 ∨ q = 4 ∨ q = 5 ∨ q = 6 ∨ q = 7 := by omega
  rcases this with rfl | rfl | rfl | rfl | rfl | rfl | rfl | rfl <;> rfl
theorem run_idxR (q : Nat) (hq : q < 8) (w : World) : (Instr.index 85 (.agg (kys .i64 32 lnT)) (.int .i64 q)).run Tryd.prog w = .ok (.agg #[.int .i64 (lna q : Nat), .int .i64 (lnb q : Nat), .int .i64 (lnc q : Nat), .int .i64 (lnd q : Nat)]) w := by
  rw [run_idxL _ q hq w, lin_row q hq]
theorem Tryd.info_ln : (Tryd.prog.info? 85).map (·.size) = some 32 := by kernel_rfl
theorem run_ldL (w : World) (h : Lin w) : (Instr.loadAt 85 (.pointer (some ⟨0, 0, none⟩))).run Tryd.prog w = .ok (.agg (kys .i64 32 lnT)) w := by
  simp only [Instr.loadAt, Instr.sureAddr, Sem.run_bind, Sem.run_pure, Result.andThen]
  obtain ⟨t, fr, h⟩ := h
  exact run_loadVar_row w 0 t 85 (kys .i64 32 lnT) fr _ h Tryd.underlying85 rfl (by rw [Tryd.info_ln, kys_size])
theorem wpList_ldL {w : World} {ops : Array Oper} {rest : List Oper} {o : Oper} {a : Act} {Q : Exit → Act → World → Prop} (hg : o.guard = none) (hop : o.op = Op.load 85 (.global 0)) (h : Lin w)
    (hK : wpList Tryd.prog ops Q rest (a.put o.dst (.agg (kys .i64 32 lnT))) w) : wpList Tryd.prog ops Q (o :: rest) a w := by
  refine wpList_plain hg fun K hK' => ?_
  have hp : a.eval (.global 0) = .pointer (some ⟨0, 0, none⟩) := rfl
  unfold Oper.wp
  simp [execOp, hop, hp, run_ldL w h, Result.andThen]
  exact hK' _ _ hK
theorem ln_lt (q : Nat) (hq : q < 8) : lna q < 16 ∧ lnb q < 16 ∧ lnc q < 16 ∧ lnd q < 16 := by
  unfold lna lnb lnc lnd
  refine ⟨by omega, ?_, ?_, ?_⟩ <;> split <;> omega
set_option maxHeartbeats 4000000 in
theorem blockOf_any (a : Option Addr) (cap c x : Nat) (S : List Int) (W : Nat → Nat) (w : World) (hL : Lin w) (hp : RdI w a 8 cap S) (hW : ∀ i, i < 8 → nthI S i = (W i : Int) ∧ W i < 4294967296) (hc : c < 281474976710656) (hx : x < 4294967296) :
    Calls Tryd.prog 42 #[.slice a 8 cap, .int .i64 c, .int .i64 x] w fun e w' => e = .returned (.agg (kys .u8 64 (padB W c x))) ∧ w.grownBy w' none := by
  have hs32 : Is32 (sq0 W c x) := sq0_32 W c x (fun i hi => (hW i hi).2) (by omega) hx
  have hl0 := hL.lt
  have g0 := World.grownBy_alloc w (.cells (kys .u8 64 fun _ => 0) 67) none
  have r0 := krow_new .u8 w 67 64 (fun _ => 0)
  have hp0 := hp.keep g0
  have t1 : True := trivial
  go_enter Tryd.func42, Tryd.ntmps42
  go_wp2_with (first
    | (go_at_call 54; have _t := t1; clear t1; refine (lay_any a cap c x S W _ hp0 hW hc hx).mono ?_; rintro e w1 ⟨rfl, g1⟩; have g01 := grown_trans g0 g1; have r1 := r0.keep g1; have z1 := krow_new .u32 w1 82 16 (fun _ => 0); have t2 : True := trivial)
    | (have _t := t2; clear t2; refine wpList_stK .u32 _ rfl (.tmp 7) (.tmp 14) _ 16 rfl Tryd.info_sq w1.heap.size _ _ rfl rfl z1 ?_; intro w2 hR2 g2; have z2 := krow_new .u32 w2 82 16 (fun _ => 0); have t3 : True := trivial)
    | (have _t := t3; clear t3; refine wpList_ldK .u32 _ rfl (.tmp 7) _ 16 rfl Tryd.und_sq Tryd.info_sq w1.heap.size _ rfl hR2 ?_; have t4 : True := trivial)
    | (have _t := t4; clear t4; refine wpList_stK .u32 _ rfl (.tmp 8) (.tmp 15) _ 16 rfl Tryd.info_sq w2.heap.size _ _ rfl rfl z2 ?_; intro w3 hR3 g3))
  clear hp hp0 hW g0 r0
  have g12 : w1.grownBy w2 none := grown_far (World.grownBy_alloc w1 _ none) g2 (fun g e => by cases e; exact Nat.le_refl _)
  have g23 : w2.grownBy w3 none := grown_far (World.grownBy_alloc w2 _ none) g3 (fun g e => by cases e; exact Nat.le_refl _)
  have hq2 := hR2.lt
  have hq3 := hR3.lt
  have hA3 := r1.keep (grown_trans g12 g23)
  have hB3 := hR2.keep g23
  have g03 := grown_trans g01 (grown_trans g12 g23)
  have hq1 := r1.lt
  have s12 := g12.size
  clear g2 g3 z1 z2 r1 hR2 g1
  generalize w1.heap.size = G1 at *
  generalize w2.heap.size = G2 at *
  generalize hG0 : w.heap.size = G0 at *
  go_loopw [16] (fun i wr => ∃ r : Nat, r ≤ 6 ∧ i = .int .i64 r ∧ w.grownBy wr none ∧ KRow .u8 wr G0 67 64 (fun _ => 0) ∧ KRow .u32 wr G1 82 16 (sq0 W c x) ∧ KRow .u32 wr G2 82 16 (rndN (sq0 W c x) r)) (fun i _ => 6 - (intOf i).toNat)
  case atStart => exact ⟨0, by omega, rfl, g03, hA3, hB3, hR3⟩
  case round =>
    obtain ⟨r, hr, rfl, hgr, hA, hB, hC⟩ := hrel
    by_cases hlt : r < 6
    · have hld := hL.keep hgr
      have hi4 : (r : Int) < 6 := by omega
      go_wp2_with (refine wpList_ldL rfl rfl hld ?_)
      go_loopw [19] (fun i wq => ∃ q : Nat, q ≤ 8 ∧ i = .int .i64 q ∧ w.grownBy wq none ∧ KRow .u8 wq G0 67 64 (fun _ => 0) ∧ KRow .u32 wq G1 82 16 (sq0 W c x) ∧ KRow .u32 wq G2 82 16 (stiN (rndN (sq0 W c x) r) q)) (fun i _ => 8 - (intOf i).toNat)
      case atStart => exact ⟨0, by omega, rfl, hgr, hA, hB, hC⟩
      case round =>
        obtain ⟨q, hq, rfl, hgq, hA1, hB1, hC1⟩ := hrel
        by_cases hlq : q < 8
        · obtain ⟨l1, l2, l3, l4⟩ := ln_lt q hlq
          have hix := run_idxR q hlq wr
          have hi5 : (q : Int) < 8 := by omega
          have hC2 := fun ob => hC1.keep (World.grownBy_alloc wr ob none)
          have hA2 := fun ob => hA1.keep (World.grownBy_alloc wr ob none)
          have hB2 := fun ob => hB1.keep (World.grownBy_alloc wr ob none)
          have hg2 := fun ob => grown_trans hgq (World.grownBy_alloc wr ob none)
          have hI := (hs32.rndN r).stiN q
          go_wp2_with (go_at_call 55; refine (stir_any G2 _ _ _ _ _ _ (hC2 _) hI l1 l2 l3 l4).mono ?_; rintro e w4 ⟨rfl, h4, g4⟩)
          go_roundw
          case rel => exact ⟨q + 1, by omega, by go_num, grown_far (hg2 _) g4 (fun g e => by cases e; omega), (hA2 _).kept g4 (by simp; omega), (hB2 _).kept g4 (by simp; omega), h4⟩
          case measure => simp [intOf]; omega
        · obtain rfl : q = 8 := by omega
          go_wp2
          go_roundw
          case rel => exact ⟨r + 1, by omega, by go_num, hgq, hA1, hB1, hC1⟩
          case measure => simp [intOf]; omega
    · obtain rfl : r = 6 := by omega
      have hI := hs32.rndN 6
      clear hL
      have t4 : True := trivial
      go_wp2_with (first
        | (have _t := t4; clear t4; refine wpList_ldK .u32 _ rfl (.tmp 7) _ 16 rfl Tryd.und_sq Tryd.info_sq G1 _ rfl hB ?_; have t5 : True := trivial)
        | (go_at_call 56; have _t := t5; clear t5; refine (sqAdd_any G2 _ _ hI hs32 _ hC).mono ?_; rintro e w4 ⟨rfl, h4, g4⟩; have t6 : True := trivial)
        | (have _t := t6; clear t6; refine wpList_ldK .u32 _ rfl (.tmp 8) _ 16 rfl Tryd.und_sq Tryd.info_sq G2 _ rfl h4 ?_; have t7 : True := trivial)
        | (go_at_call 57; have _t := t7; clear t7; refine (sqBytes_any _ (fun i => Nat.mod_lt _ (by decide)) w4).mono ?_; rintro e w5 ⟨rfl, g5⟩; have hA5 := (hA.kept g4 (by simp; omega)).keep g5; have t8 : True := trivial)
        | (have _t := t8; clear t8; refine wpList_stK .u8 _ rfl (.tmp 6) (.tmp 36) _ 64 rfl Tryd.info_by G0 _ _ rfl rfl hA5 ?_; intro w6 hR6 g6))
      refine bodyPost_ret (results_cell1 Tryd.results42 _ _ _ ⟨G0, 0, none⟩ _ rfl (run_lvK .u8 w6 _ _ _ _ Tryd.und_by Tryd.info_by hR6)) rfl ⟨rfl, grown_far (grown_trans (grown_far hgr g4 (fun g e => by cases e; omega)) g5) g6 (fun g e => by cases e; omega)⟩
end Go.Proofs.YtaigcjhachkmmaaDoor
