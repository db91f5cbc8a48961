import Derived.Test.YtchbppidepapiaaMVtM
import Derived.Deep.DeepCutAuto
namespace Go.Proofs.Ytchbppidepapiaa
open Go.RowKit
set_option maxRecDepth 100000
set_option linter.unusedVariables false
set_option linter.unusedSimpArgs false

/-- three copies and what was hit, as they lie in memory -/
structure Cps (w : World) (lo gc gh n g0 g1 g2 c0 c1 c2 : Nat) (X0 X1 X2 : List Nat) (H : List Bool) : Prop where
  box : BxS w gc 39 #[.slice (some ⟨g0, 0, none⟩) n c0, .slice (some ⟨g1, 0, none⟩) n c1, .slice (some ⟨g2, 0, none⟩) n c2]
  r0 : Ans w lo (some ⟨g0, 0, none⟩) n c0 X0
  r1 : Ans w lo (some ⟨g1, 0, none⟩) n c1 X1
  r2 : Ans w lo (some ⟨g2, 0, none⟩) n c2 X2
  hit : BlH w gh H
  ne : g0 ≠ g1 ∧ g0 ≠ g2 ∧ g1 ≠ g2 ∧ gc ≠ g0 ∧ gc ≠ g1 ∧ gc ≠ g2 ∧ gh ≠ g0 ∧ gh ≠ g1 ∧ gh ≠ g2 ∧ gc ≠ gh
  new : lo ≤ gc ∧ lo ≤ gh
theorem alloc_lt (w : World) (o : Obj) : w.heap.size < (w.alloc o).heap.size := (Array.getElem?_eq_some_iff.1 (heap_alloc_new w o)).1
theorem five_row (w : World) : Rd (w.alloc (.cells #[.int .u8 5] 5)) (some ⟨w.heap.size, 0, none⟩) 1 1 [5] := by
  refine ⟨rfl, Nat.le_refl _, by unfold maxLen; omega, (fun h => by cases h), (fun x hx => by rw [List.mem_singleton.1 hx]; decide), fun _ => ⟨w.heap.size, 0, rfl, alloc_lt _ _, fun i hi => ?_⟩⟩
  obtain rfl : i = 0 := by omega
  rw [cell_of_row _ _ _ _ _ _ (heap_alloc_new w _)]
  rfl
theorem ans_some {w : World} {lo : Nat} {a : Option Addr} {n cap : Nat} {L : List Nat} (h : Ans w lo a n cap L) (h0 : 0 < n) : ∃ g, a = some ⟨g, 0, none⟩ :=
  h.cases.elim (fun h => absurd h.2.1 (Nat.ne_of_gt h0)) (fun h => h.elim fun g hg => ⟨g, hg.1⟩)
theorem own_neM {g h n c : Nat} (k : g ≠ h) : (Value.slice (some ⟨g, 0, none⟩) n c).ownBlock ≠ some h := fun e => k (Option.some.inj e)
theorem ans_lt {w : World} {lo g n cap : Nat} {L : List Nat} (h : Ans w lo (some ⟨g, 0, none⟩) n cap L) : g < w.heap.size := by
  rcases h.cases with ⟨e, _⟩ | ⟨g', e, _, hl⟩
  · cases e
  · cases e; exact hl
theorem wrap_ud (d : Nat) (h : d < 255) : IntKind.u8.wrap (1 + (d : Int)) = 1 + (d : Int) := by
  rw [IntKind.wrap_u8']
  omega
theorem Cps.drew {w : World} {lo gc gh n g0 g1 g2 c0 c1 c2 : Nat} {X0 X1 X2 : List Nat} {H : List Bool} (h : Cps w lo gc gh n g0 g1 g2 c0 c1 c2 X0 X1 X2 H) : Cps w.drew lo gc gh n g0 g1 g2 c0 c1 c2 X0 X1 X2 H :=
  ⟨h.box, h.r0.keep (grown_drew _ _), h.r1.keep (grown_drew _ _), h.r2.keep (grown_drew _ _), h.hit, h.ne, h.new⟩
theorem Cps.set0 {w : World} {lo gc gh n g0 g1 g2 c0 c1 c2 : Nat} {X0 X1 X2 : List Nat} {H : List Bool} (h : Cps w lo gc gh n g0 g1 g2 c0 c1 c2 X0 X1 X2 H) (p V : Nat) (hV : V < 256) : Cps (w.setCell ⟨g0, p, none⟩ (.int .u8 (V : Int))) lo gc gh n g0 g1 g2 c0 c1 c2 (X0.set p V) X1 X2 H := by
  obtain ⟨n01, n02, n12, nc0, nc1, nc2, nh0, nh1, nh2, nch⟩ := h.ne
  have g := grown_set w g0 p (.int .u8 (V : Int))
  exact ⟨h.box.keep g (by simp; exact nc0), h.r0.set p V hV, h.r1.kept g (.inr (own_neM (Ne.symm n01))), h.r2.kept g (.inr (own_neM (Ne.symm n02))), h.hit.grown g (by simp; exact nh0), h.ne, h.new⟩
theorem Cps.set1 {w : World} {lo gc gh n g0 g1 g2 c0 c1 c2 : Nat} {X0 X1 X2 : List Nat} {H : List Bool} (h : Cps w lo gc gh n g0 g1 g2 c0 c1 c2 X0 X1 X2 H) (p V : Nat) (hV : V < 256) : Cps (w.setCell ⟨g1, p, none⟩ (.int .u8 (V : Int))) lo gc gh n g0 g1 g2 c0 c1 c2 X0 (X1.set p V) X2 H := by
  obtain ⟨n01, n02, n12, nc0, nc1, nc2, nh0, nh1, nh2, nch⟩ := h.ne
  have g := grown_set w g1 p (.int .u8 (V : Int))
  exact ⟨h.box.keep g (by simp; exact nc1), h.r0.kept g (.inr (own_neM n01)), h.r1.set p V hV, h.r2.kept g (.inr (own_neM (Ne.symm n12))), h.hit.grown g (by simp; exact nh1), h.ne, h.new⟩
theorem Cps.set2 {w : World} {lo gc gh n g0 g1 g2 c0 c1 c2 : Nat} {X0 X1 X2 : List Nat} {H : List Bool} (h : Cps w lo gc gh n g0 g1 g2 c0 c1 c2 X0 X1 X2 H) (p V : Nat) (hV : V < 256) : Cps (w.setCell ⟨g2, p, none⟩ (.int .u8 (V : Int))) lo gc gh n g0 g1 g2 c0 c1 c2 X0 X1 (X2.set p V) H := by
  obtain ⟨n01, n02, n12, nc0, nc1, nc2, nh0, nh1, nh2, nch⟩ := h.ne
  have g := grown_set w g2 p (.int .u8 (V : Int))
  exact ⟨h.box.keep g (by simp; exact nc2), h.r0.kept g (.inr (own_neM n02)), h.r1.kept g (.inr (own_neM n12)), h.r2.set p V hV, h.hit.grown g (by simp; exact nh2), h.ne, h.new⟩
theorem Cps.mark {w : World} {lo gc gh n g0 g1 g2 c0 c1 c2 : Nat} {X0 X1 X2 : List Nat} {H : List Bool} (h : Cps w lo gc gh n g0 g1 g2 c0 c1 c2 X0 X1 X2 H) (p : Nat) : Cps (w.setCell ⟨gh, p, none⟩ (.bool true)) lo gc gh n g0 g1 g2 c0 c1 c2 X0 X1 X2 (H.set p true) := by
  obtain ⟨n01, n02, n12, nc0, nc1, nc2, nh0, nh1, nh2, nch⟩ := h.ne
  have g := grown_set w gh p (.bool true)
  exact ⟨h.box.keep g (by simp; exact nch), h.r0.kept g (.inr (own_neM (Ne.symm nh0))), h.r1.kept g (.inr (own_neM (Ne.symm nh1))), h.r2.kept g (.inr (own_neM (Ne.symm nh2))), h.hit.set p true, h.ne, h.new⟩
set_option maxHeartbeats 8000000 in
theorem mvote_walk (a l : Option Addr) (n m ca cl : Nat) (A : List Nat) (F : Nat → Int × Int) (w : World) (ha : Rd w a n ca A) (hl : RdV w l m cl F) (hn : n ≤ 140737488351232) (hm : m ≤ 8800000000000) :
    Calls Try.prog 6 #[.slice a n ca, .slice l m cl] w fun e w' => e = .returned (.bool true) ∧ Below w.heap.size w w' := by
  go_enter Try.func6, Try.ntmps6
  go_upto_if 17 with fail
  go_cut [0] (fun s wx => ∃ (b : Option Addr) (k cb : Nat) (B : List Nat), s = .slice b k cb ∧ Rd wx b k cb B ∧ 0 < k ∧ k ≤ 140737488351232 ∧ w.grownBy wx none)
  case first =>
    by_cases h0 : n = 0
    · subst h0
      have h5 := five_row w
      have g5 := World.grownBy_alloc w (.cells #[.int .u8 5] 5) none
      go_wp2_with fail
      go_meet
      exact ⟨_, 1, 1, [5], rfl, h5, by omega, by omega, g5⟩
    · have h1 : ¬ (n : Int) = 0 := by omega
      go_wp2_with fail
      go_meet
      exact ⟨a, n, ca, A, rfl, ha, by omega, hn, World.grownBy.refl _ _⟩
  case rest =>
    obtain ⟨b, k, cb, B, rfl, hB, hk0, hk, g01⟩ := hcut
    generalize wc = wq at *
    rename_i hKK
    refine hKK _ _ ?_
    clear hKK
    have b0 := BxS.new wq 39 #[.slice none 0 0, .slice none 0 0, .slice none 0 0]
    have g12 := World.grownBy_alloc wq (.cells #[.slice none 0 0, .slice none 0 0, .slice none 0 0] 39) none
    have hB1 := hB.keep g12
    generalize hw1 : wq.alloc (.cells #[.slice none 0 0, .slice none 0 0, .slice none 0 0] 39) = w1 at b0 g12 hB1
    have hlo : wq.heap.size < w1.heap.size := by rw [← hw1]; exact alloc_lt _ _
    have t1 : True := trivial
    go_wp2
    clear hw1
    refine wp_loop_rounds 4 ?_
    rw [rounds_succ]
    go_wp2_with (first
      | (at_builtin; have _t := t1; clear t1; refine wpList_clB w1 rfl _ (.tmp 24) rfl rfl b k cb B rfl hB1 (by omega) ?_; intro a0 c0 w2 g23 hA0; obtain ⟨e0, he0⟩ : ∃ g, a0 = some ⟨g, 0, none⟩ := ans_some hA0 hk0; subst he0; have b1 := b0.keep g23 (by simp); have t2 : True := trivial)
      | (have _t := t2; clear t2; refine wpList_stC w2 rfl _ (.tmp 26) (.tmp 25) rfl wq.heap.size 0 39 _ #[.slice (some ⟨e0, 0, none⟩) k c0, .slice none 0 0, .slice none 0 0] (.slice (some ⟨e0, 0, none⟩) k c0) rfl rfl b1 (stc_sl _ _ _ _ _) (by simp) rfl ?_; intro w3 b2 g34))
    have hA0' : Ans w3 wq.heap.size (some ⟨e0, 0, none⟩) k c0 B := (hA0.kept g34 (.inr (own_neM (by have := hA0.new e0 rfl; omega)))).wide (Nat.le_of_lt hlo)
    have hl0 : w1.heap.size ≤ e0 := hA0.new e0 rfl
    have hm0 : e0 < w3.heap.size := Nat.lt_of_lt_of_le (ans_lt hA0) g34.size
    have gc3 : wq.grownBy w3 none := grown_far (grown_trans g12 g23) g34 (fun q e => by cases e; exact Nat.le_refl _)
    have hB3 := hB.keep gc3
    clear hA0 b0 b1 g23 g34 hB1
    have t3 : True := trivial
    rw [rounds_succ]
    go_wp2_with (first
      | (at_builtin; have _t := t3; clear t3; refine wpList_clB w3 rfl _ (.tmp 24) rfl rfl b k cb B rfl hB3 (by omega) ?_; intro a1 c1 w4 g45 hA1; obtain ⟨e1, he1⟩ : ∃ g, a1 = some ⟨g, 0, none⟩ := ans_some hA1 hk0; subst he1; have b3 := b2.keep g45 (by simp); have t4 : True := trivial)
      | (have _t := t4; clear t4; refine wpList_stC w4 rfl _ (.tmp 26) (.tmp 25) rfl wq.heap.size 1 39 _ #[.slice (some ⟨e0, 0, none⟩) k c0, .slice (some ⟨e1, 0, none⟩) k c1, .slice none 0 0] (.slice (some ⟨e1, 0, none⟩) k c1) rfl rfl b3 (stc_sl _ _ _ _ _) (by simp) rfl ?_; intro w5 b4 g56))
    have hl1 : w3.heap.size ≤ e1 := hA1.new e1 rfl
    have hA1' : Ans w5 wq.heap.size (some ⟨e1, 0, none⟩) k c1 B := (hA1.kept g56 (.inr (own_neM (by omega)))).wide gc3.size
    have hA0'' : Ans w5 wq.heap.size (some ⟨e0, 0, none⟩) k c0 B := (hA0'.keep g45).kept g56 (.inr (own_neM (by omega)))
    have hm1 : e1 < w5.heap.size := Nat.lt_of_lt_of_le (ans_lt hA1) g56.size
    have gc5 : wq.grownBy w5 none := grown_far (grown_trans gc3 g45) g56 (fun q e => by cases e; exact Nat.le_refl _)
    have hB5 := hB.keep gc5
    clear hA1 hA0' b2 b3 g45 g56 hB3
    have t5 : True := trivial
    rw [rounds_succ]
    go_wp2_with (first
      | (at_builtin; have _t := t5; clear t5; refine wpList_clB w5 rfl _ (.tmp 24) rfl rfl b k cb B rfl hB5 (by omega) ?_; intro a2 c2 w6 g67 hA2; obtain ⟨e2, he2⟩ : ∃ g, a2 = some ⟨g, 0, none⟩ := ans_some hA2 hk0; subst he2; have b5 := b4.keep g67 (by simp); have t6 : True := trivial)
      | (have _t := t6; clear t6; refine wpList_stC w6 rfl _ (.tmp 26) (.tmp 25) rfl wq.heap.size 2 39 _ #[.slice (some ⟨e0, 0, none⟩) k c0, .slice (some ⟨e1, 0, none⟩) k c1, .slice (some ⟨e2, 0, none⟩) k c2] (.slice (some ⟨e2, 0, none⟩) k c2) rfl rfl b5 (stc_sl _ _ _ _ _) (by simp) rfl ?_; intro w7 b6 g78))
    have hl2 : w5.heap.size ≤ e2 := hA2.new e2 rfl
    have hA2' : Ans w7 wq.heap.size (some ⟨e2, 0, none⟩) k c2 B := (hA2.kept g78 (.inr (own_neM (by omega)))).wide gc5.size
    have hA1'' : Ans w7 wq.heap.size (some ⟨e1, 0, none⟩) k c1 B := (hA1'.keep g67).kept g78 (.inr (own_neM (by omega)))
    have hA0' : Ans w7 wq.heap.size (some ⟨e0, 0, none⟩) k c0 B := (hA0''.keep g67).kept g78 (.inr (own_neM (by omega)))
    have hm2 : e2 < w7.heap.size := Nat.lt_of_lt_of_le (ans_lt hA2) g78.size
    have hm7 : w5.heap.size ≤ w7.heap.size := Nat.le_trans g67.size g78.size
    have gc7 : wq.grownBy w7 none := grown_far (grown_trans gc5 g67) g78 (fun q e => by cases e; exact Nat.le_refl _)
    clear hA2 hA1' hA0'' b4 b5 g67 g78 hB5
    rw [rounds_succ]
    go_wp2_with (first | (at_make; refine wpList_mkH w7 rfl (.tmp 28) (.tmp 28) rfl _ _ k rfl rfl rfl rfl (by omega) ?_; intro w8 hH8 g89))
    have hC8 : Cps w8 wq.heap.size wq.heap.size w7.heap.size k e0 e1 e2 c0 c1 c2 B B B (List.replicate k false) :=
      ⟨b6.keep g89 (by simp), hA0'.keep g89, hA1''.keep g89, hA2'.keep g89, hH8, by omega, by omega⟩
    have gc8 := grown_trans gc7 g89
    have hcs := cop_start B k
    generalize w7.heap.size = gh at hC8 ⊢
    clear hA0' hA1'' hA2' b6 g89 hH8 gc7 gc5 gc3 g12 hm7
    go_loopw [8] (fun ii wr => ∃ (i : Nat) (X0 X1 X2 : List Nat) (H : List Bool), i ≤ m ∧ ii = .int .i64 i ∧ Cps wr wq.heap.size wq.heap.size gh k e0 e1 e2 c0 c1 c2 X0 X1 X2 H ∧ Cop B X0 X1 X2 H k ∧ wq.grownBy wr none ∧ (hiL H k).length ≤ i) (fun ii _ => m - (intOf ii).toNat)
    case atStart => exact ⟨0, B, B, B, _, by omega, rfl, hC8, hcs, gc8, Nat.le_of_eq (hiL_none k k)⟩
    case round =>
      obtain ⟨i, X0, X1, X2, H, hi, rfl, hC, hO, hG, hNI⟩ := hrel
      have HNI : Hid ((hiL H k).length ≤ i) := hNI
      clear hNI
      by_cases him : i < m
      · obtain ⟨bt, ot, rfl, hbt, ec1, ec2⟩ := hl.at_in (grown_trans g01 hG) i him
        have HP := fun wz => pick_any (F i).1 k wz (hl.in1 i him) hk0 (by omega)
        have hpl := pkM_lt (F i).1 k hk0
        have HQ : ∀ wz : World, Calls Try.prog 17 #[.int .i64 (F i).2, .int .i64 3] wz fun e w' => e = .returned (.int .i64 (pkM (F i).2 3 : Nat)) ∧ w' = wz := fun wz => pick_any (F i).2 3 wz (hl.in2 i him) (by decide) (by decide)
        have hql := pkM_lt (F i).2 3 (by decide)
        have HD : ∀ wz : World, Calls Try.prog 17 #[.int .i64 (F i).2, .int .i64 255] wz fun e w' => e = .returned (.int .i64 (pkM (F i).2 255 : Nat)) ∧ w' = wz := fun wz => pick_any (F i).2 255 wz (hl.in2 i him) (by decide) (by decide)
        have hdl := pkM_lt (F i).2 255 (by decide)
        generalize (F i).1 = z1 at ec1 HP hpl
        generalize (F i).2 = z2 at ec2 HQ hql HD hdl
        generalize pkM z1 k = p at HP hpl
        generalize pkM z2 3 = q at HQ hql
        generalize pkM z2 255 = d at HD hdl
        have hH := hC.hit.cell p (by rw [hO.hl]; exact hpl)
        have hHf := hC.hit.free p
        have hkp : (p : Int) < (k : Int) := by omega
        have him' : (i : Int) < (m : Int) := by omega
        cases hhp : hat H p
        · rw [hhp] at hH
          have hcv := wrap_ud d hdl
          have hcv2 : IntKind.i64.wrap (1 + (d : Int)) = 1 + (d : Int) := wrap_i64_in _ (by omega) (by omega)
          go_upto_region 14 with (go_at_call 17; refine (HP _).mono ?_; rintro e w' ⟨rfl, hw⟩; have hw := hw.symm; subst hw)
          clear HP
          go_cut [] (fun wx => ∃ Y0 Y1 Y2 : List Nat, Cps wx wq.heap.size wq.heap.size gh k e0 e1 e2 c0 c1 c2 Y0 Y1 Y2 H ∧ Cop B Y0 Y1 Y2 (H.set p true) k ∧ wq.grownBy wx none)
          case first =>
            rcases (by omega : q = 0 ∨ q = 1 ∨ q = 2) with hq | hq | hq
            · obtain rfl : q = 0 := by omega
              have cB := hC.box.cell 0 (by simp)
              have cX := own_cell hC.r0.own p hpl
              have hfX := hC.r0.own.frozenAt p
              have hxb := hC.r0.byte.nth p
              have hxr := u8_xor_nat (nth X0 p) (1 + d) hxb (by omega)
              rw [show ((1 + d : Nat) : Int) = 1 + (d : Int) by omega] at hxr
              have HO : Hid (Cop B (X0.set p (nth X0 p ^^^ (1 + d))) X1 X2 (H.set p true) k) := cop_hit0 hO hpl hC.r0.len hhp (by omega)
              generalize nth X0 p = x at cX hxb hxr HO
              have hVl : x ^^^ (1 + d) < 256 := Nat.xor_lt_two_pow (n := 8) hxb (by omega)
              generalize x ^^^ (1 + d) = V at hxr HO hVl
              have hC2 : Hid _ := (hC.set0 p V hVl).drew
              have hG2 : Hid _ := grown_far hG (grown_trans (grown_set wr e0 p (.int .u8 (V : Int))) (grown_drew _ _)) (fun y e => by cases e; exact hC.r0.new e0 rfl)
              have HQ0 : ∀ wz : World, Calls Try.prog 17 #[.int .i64 z2, .int .i64 3] wz fun e w' => e = .returned (.int .i64 0) ∧ w' = wz := HQ
              clear HQ hO hC hG
              simp at cB
              go_region_law (first | (go_simp; go_at_call 17; (with_reducible refine (HQ0 _).mono ?_); rintro e w' ⟨rfl, rfl⟩) | (go_simp; go_at_call 17; (with_reducible refine (HD _).mono ?_); rintro e w' ⟨rfl, rfl⟩))
              all_goals
                go_wp2_with fail
                go_meet
                exact ⟨X0.set p V, X1, X2, hC2.out, HO.out, hG2.out⟩
            · obtain rfl : q = 1 := by omega
              have cB := hC.box.cell 1 (by simp)
              have cX := own_cell hC.r1.own p hpl
              have hfX := hC.r1.own.frozenAt p
              have hxb := hC.r1.byte.nth p
              have hxr := u8_xor_nat (nth X1 p) (1 + d) hxb (by omega)
              rw [show ((1 + d : Nat) : Int) = 1 + (d : Int) by omega] at hxr
              have HO : Hid (Cop B X0 (X1.set p (nth X1 p ^^^ (1 + d))) X2 (H.set p true) k) := cop_hit1 hO hpl hC.r1.len hhp (by omega)
              generalize nth X1 p = x at cX hxb hxr HO
              have hVl : x ^^^ (1 + d) < 256 := Nat.xor_lt_two_pow (n := 8) hxb (by omega)
              generalize x ^^^ (1 + d) = V at hxr HO hVl
              have hC2 : Hid _ := (hC.set1 p V hVl).drew
              have hG2 : Hid _ := grown_far hG (grown_trans (grown_set wr e1 p (.int .u8 (V : Int))) (grown_drew _ _)) (fun y e => by cases e; exact hC.r1.new e1 rfl)
              have HQ0 : ∀ wz : World, Calls Try.prog 17 #[.int .i64 z2, .int .i64 3] wz fun e w' => e = .returned (.int .i64 1) ∧ w' = wz := HQ
              clear HQ hO hC hG
              simp at cB
              go_region_law (first | (go_simp; go_at_call 17; (with_reducible refine (HQ0 _).mono ?_); rintro e w' ⟨rfl, rfl⟩) | (go_simp; go_at_call 17; (with_reducible refine (HD _).mono ?_); rintro e w' ⟨rfl, rfl⟩))
              all_goals
                go_wp2_with fail
                go_meet
                exact ⟨X0, X1.set p V, X2, hC2.out, HO.out, hG2.out⟩
            · obtain rfl : q = 2 := by omega
              have cB := hC.box.cell 2 (by simp)
              have cX := own_cell hC.r2.own p hpl
              have hfX := hC.r2.own.frozenAt p
              have hxb := hC.r2.byte.nth p
              have hxr := u8_xor_nat (nth X2 p) (1 + d) hxb (by omega)
              rw [show ((1 + d : Nat) : Int) = 1 + (d : Int) by omega] at hxr
              have HO : Hid (Cop B X0 X1 (X2.set p (nth X2 p ^^^ (1 + d))) (H.set p true) k) := cop_hit2 hO hpl hC.r2.len hhp (by omega)
              generalize nth X2 p = x at cX hxb hxr HO
              have hVl : x ^^^ (1 + d) < 256 := Nat.xor_lt_two_pow (n := 8) hxb (by omega)
              generalize x ^^^ (1 + d) = V at hxr HO hVl
              have hC2 : Hid _ := (hC.set2 p V hVl).drew
              have hG2 : Hid _ := grown_far hG (grown_trans (grown_set wr e2 p (.int .u8 (V : Int))) (grown_drew _ _)) (fun y e => by cases e; exact hC.r2.new e2 rfl)
              have HQ0 : ∀ wz : World, Calls Try.prog 17 #[.int .i64 z2, .int .i64 3] wz fun e w' => e = .returned (.int .i64 2) ∧ w' = wz := HQ
              clear HQ hO hC hG
              simp at cB
              go_region_law (first | (go_simp; go_at_call 17; (with_reducible refine (HQ0 _).mono ?_); rintro e w' ⟨rfl, rfl⟩) | (go_simp; go_at_call 17; (with_reducible refine (HD _).mono ?_); rintro e w' ⟨rfl, rfl⟩))
              all_goals
                go_wp2_with fail
                go_meet
                exact ⟨X0, X1, X2.set p V, hC2.out, HO.out, hG2.out⟩
          case rest =>
            obtain ⟨Y0, Y1, Y2, hC2, HO, hG2⟩ := hcut
            have hlH : p < H.length := by have := HO.hl; rw [List.length_set] at this; omega
            clear hH hHf hC hG hO
            have hH := hC2.hit.cell p hlH
            have hHf := hC2.hit.free p
            have hC3 := hC2.mark p
            have hG3 := grown_far hG2 (grown_set wc gh p (.bool true)) (fun y e => by cases e; exact hC2.new.2)
            rename_i hKK
            refine hKK _ _ ?_
            clear hKK hC2 hG2
            go_wp2
            go_roundw
            case rel => exact ⟨i + 1, Y0, Y1, Y2, H.set p true, by omega, by go_num, hC3, HO, hG3, hiL_set1 H p k i hlH HNI.out⟩
            case measure => simp [intOf]; omega
        · rw [hhp] at hH
          go_wp2_with (go_at_call 17; refine (HP _).mono ?_; rintro e w' ⟨rfl, hw⟩; have hw := hw.symm; subst hw)
          go_roundw
          case rel => exact ⟨i + 1, X0, X1, X2, H, by omega, by go_num, hC, hO, hG, Nat.le_succ_of_le HNI.out⟩
          case measure => simp [intOf]; omega
      · obtain rfl : i = m := by omega
        have hv := vote_ok (some ⟨e0, 0, none⟩) (some ⟨e1, 0, none⟩) (some ⟨e2, 0, none⟩) k c0 c1 c2 X0 X1 X2 wr hC.r0.rd hC.r1.rd hC.r2.rd hk (by rw [cop_un hO k (Nat.le_refl _)]; exact Nat.le_trans HNI.out (by omega))
        rw [cop_vote hO hB.len, cop_un hO k (Nat.le_refl _)] at hv
        have q0 := hC.box.cell 0 (by simp)
        have q1 := hC.box.cell 1 (by simp)
        have q2 := hC.box.cell 2 (by simp)
        simp at q0 q1 q2
        have t8 : True := trivial
        go_wp2_with (first | (go_at_call 13; have _t := t8; clear t8; refine hv.mono ?_; rintro e w9 ⟨au, mu, cu, rfl, hV9, hU9, g9⟩; have s1 := str_any w9 _ k k B hV9.rd; have s2 := str_any w9 b k cb B ((hB.keep hG).keep g9)))
        have hH9 := hC.hit.grown g9 (by simp)
        have hG9 := grown_trans hG g9
        have hul := hU9.len
        have hub : (hiL H k).length ≤ i := HNI.out
        have hr9 := hU9.rd
        clear hv q0 q1 q2 s1 s2 hV9 hU9
        go_loopw [13, 14] (fun kv ii wz => ∃ i : Nat, i ≤ k ∧ ii = .int .i64 i ∧ kv = .int .i64 ((hiL H i).length : Nat) ∧ wz = w9) (fun _ ii _ => k - (intOf ii).toNat)
        case atStart => exact ⟨0, by omega, rfl, rfl, rfl⟩
        case round =>
          obtain ⟨i, hi, rfl, rfl, hwz⟩ := hrel
          have hwz := hwz.symm
          subst hwz
          by_cases hik : i < k
          · have hh := hH9.cell i (by rw [hO.hl]; exact hik)
            have hik' : (i : Int) < (k : Int) := by omega
            cases hc : hat H i
            · rw [hc] at hh
              have HE : Hid (hiL H (i + 1) = hiL H i) := hiL_no H i hc
              go_wp2
              go_roundw
              case rel => exact ⟨i + 1, by omega, by go_num, by rw [HE.out], trivial⟩
              case measure => simp [intOf]; omega
            · rw [hc] at hh
              have HE : Hid (hiL H (i + 1) = hiL H i ++ [(i : Int)]) := hiL_yes H i hc
              obtain ⟨hl1, hl2⟩ := hiL_at H i k hik hc
              obtain ⟨bu, ou, rfl, hbu, hcu⟩ := hr9.at' (by omega)
              have hcc := hcu (hiL H i).length (by omega)
              rw [hl2] at hcc
              have HL : Hid ((hiL H (i + 1)).length = (hiL H i).length + 1) := by show _ = _; rw [HE.out]; simp
              generalize (hiL H i).length = y at hl1 hcc HL ⊢
              have hym : (y : Int) < (mu : Int) := by omega
              have hyn : ¬ (mu : Int) ≤ (y : Int) := by omega
              clear hcu HE
              go_wp2
              go_roundw
              case rel => exact ⟨i + 1, by omega, by go_num, by rw [HL.out]; go_num, trivial⟩
              case measure => simp [intOf]; omega
          · obtain rfl : i = k := by omega
            rw [hul]
            go_wp2
            go_ret
            exact ⟨rfl, (Below.refl _ _).grown (grown_trans g01 hG9) (Nat.le_refl _) (fun k hk => by cases hk)⟩
end Go.Proofs.Ytchbppidepapiaa
