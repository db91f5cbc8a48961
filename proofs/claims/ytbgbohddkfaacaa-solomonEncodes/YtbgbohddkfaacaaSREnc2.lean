import Derived.Test.YtbgbohddkfaacaaSREnc
import Derived.Deep.RegionLawGrows
namespace Go.Proofs.Ytbgbohddkfaacaa
open Go.RowKit
set_option maxRecDepth 100000
set_option linter.unusedVariables false
set_option linter.unusedSimpArgs false

theorem raw_rev (L : List Nat) (c : Nat) : List.replicate c 0 ++ L.reverse = (rawL L c).reverse := by
  unfold rawL; rw [List.reverse_append, List.reverse_replicate]
theorem bys_app (A B : List Nat) : bys A ++ bys B = bys (A ++ B) := by simp [bys]
theorem rd_news {w : World} {b off n cap : Nat} {L : List Nat} (h : Rd w (some ⟨b, off, none⟩) n cap L) (j : Nat) (u : Value) (hu : (bys L)[j]? = some u) : w.cell? ((⟨b, off, none⟩ : Addr).add j) = some u := by
  have hj : j < L.length := by
    have := (List.getElem?_eq_some_iff.1 hu).1
    rw [bys_length] at this; exact this
  rw [nth_bys L j hj] at hu
  obtain ⟨_, _, e, _, hc⟩ := h.at' (by rw [← h.len]; omega)
  cases e
  rw [← hu, addr_add]
  exact hc j (by rw [← h.len]; exact hj)
/-- what 'make' lays -/
def mkObj (k : Nat) : Obj := .cells (bys (List.replicate k 0)).toArray 5
theorem run_mk (k : Nat) (hk : k ≤ 1000) (w : World) : (Instr.makeSlice 22 (.int .i64 (k : Int)) (.int .i64 (k : Int))).run Try.prog w = .ok (.slice (some ⟨w.heap.size, 0, none⟩) k k) (w.alloc (mkObj k)) := by
  obtain ⟨i0, hi, hz0, hz1, hz2⟩ := info_parts Try.info_u8
  have h := run_makeSlice (P := Try.prog) w 22 5 i0 (.int .u8 0) Try.underlying22 hi hz0 .i64 .i64 k k (by omega) (by omega) (by rw [hz1]; simp; omega) (by rw [hz2]; omega) (by omega)
  rw [hz1] at h
  simp only [Int.toNat_natCast, Nat.mul_one] at h
  rw [h]
  congr 2
  unfold mkObj
  congr 1
  have e2 := toList_madeCells_one (Value.int .u8 0) k
  apply Array.ext'
  rw [← bys_zero]
  exact e2
theorem mk_blk (w : World) (k : Nat) : Blk (w.alloc (mkObj k)) w.heap.size (List.replicate k 0) := heap_alloc_new w _
theorem own_form {w : World} {base n : Nat} {v : Value} {xs : List Value} (h : w.ownsRow base 5 1 v n xs) (h0 : 0 < n) : ∃ g cap, v = .slice (some ⟨g, 0, none⟩) n cap ∧ base ≤ g := by
  rcases h.2 with ⟨_, h1⟩ | ⟨g, cap, cur, h3, h4, _⟩
  · omega
  · exact ⟨g, cap, h3, h4⟩
theorem blk_cells {w : World} {g : Nat} {L : List Nat} (h : Blk w g L) : ∀ b, (some ⟨g, 0, none⟩ : Option Addr) = some b → ∀ j u, (bys L)[j]? = some u → w.cell? (b.add j) = some u := by
  intro b hb j u hu
  cases hb
  have hj : j < L.length := by
    have := (List.getElem?_eq_some_iff.1 hu).1
    rw [bys_length] at this; exact this
  rw [nth_bys L j hj] at hu
  rw [← hu, addr_add, Nat.zero_add]
  exact h.cell j hj
set_option maxHeartbeats 4000000 in
theorem rencode_ok (a : Option Addr) (n cap c : Nat) (L : List Nat) (w : World) (hp : Rd w a n cap L) (h0 : 0 < n) (h1 : 1 ≤ c) (hc : c ≤ 64) (hn : n + c ≤ 255) :
    Calls Try.prog 10 #[.slice a n cap, .int .i64 c] w fun e w' => ∃ a' n' c', e = .returned (.tuple #[.slice a' n' c', .int .i64 0]) ∧ Ans w' w.heap.size a' n' c' (encL L c) ∧ w.grownBy w' none := by
  have HL : Hid (L.length = n) := hp.len
  have hz : ((n : Int) == 0) = false := by simp; omega
  have HS := sized_yes ((n : Int) + c) c w (by omega) (by omega) (by omega) (by omega)
  have h1a := one_ans w w.heap.size (Nat.le_refl _)
  have g1 := World.grownBy_alloc w (.cells #[.int .u8 1] 5) none
  go_enter Try.func10, Try.ntmps10
  go_wp2_with (go_at_call 24; refine HS.mono ?_; rintro e w' ⟨rfl, hw⟩; have hw := hw.symm; subst hw)
  go_loopw [6, 7] (fun p i wr => ∃ (k : Nat) (ag : Option Addr) (ng cg : Nat), k ≤ c ∧ i = .int .i64 ((k : Int) + 1) ∧ p = .slice ag ng cg ∧ w.grownBy wr none ∧ Ans wr w.heap.size ag ng cg (genN k)) (fun _ i _ => c + 1 - (intOf i).toNat)
  case atStart => exact ⟨0, _, 1, 1, by omega, rfl, rfl, g1, h1a⟩
  case round =>
    obtain ⟨k, ag, ng, cg, hk, rfl, rfl, hgr, hA⟩ := hrel
    by_cases hlt : k < c
    · have hpw := pow2_lt ((k : Int) + 1)
      have hpr := pair_rd wr (pow2 ((k : Int) + 1)) hpw
      have gA := World.grownBy_alloc wr (.cells #[.int .u8 (pow2 ((k : Int) + 1) : Nat), .int .u8 1] 5) none
      have hAr := hA.rd.keep gA
      go_wp2_with (first
        | (go_at_call 26; refine (rpower_any ((k : Int) + 1) wr (by omega) (by omega)).mono ?_; rintro e w' ⟨rfl, hw⟩; have hw := hw.symm; subst hw)
        | (go_at_call 25; refine (rtimes_all ag _ ng 2 cg 2 (genN k) [pow2 ((k : Int) + 1), 1] _ hAr hpr).mono ?_; rintro e w2 ⟨a2, n2, c2, rfl, h2, g2⟩))
      go_roundw
      case rel => exact ⟨k + 1, a2, n2, c2, by omega, by go_num, rfl, grown_trans hgr (grown_trans gA g2), h2.wide (Nat.le_trans hgr.size gA.size)⟩
      case measure => simp [intOf]; omega
    · obtain rfl : k = c := by omega
      have hgen := hA
      clear hA h1a g1 HS
      have H8 : ∀ w', wr.grownBy w' none → _ := fun w' h => backward_any a n cap L w' (hp.keep (grown_trans hgr h)) (by omega)
      have gd := grown_drew wr none
      have HRR : Hid (List.replicate k 0 ++ L.reverse = (rawL L k).reverse) := raw_rev L k
      have hmk := fun w => run_mk k (by omega) w
      obtain ⟨i0, hi, hz0, hz1, hz2⟩ := info_parts Try.info_u8
      have hfull : k < k + n := by omega
      have hb1 : k + n ≤ maxLen := by unfold maxLen; omega
      have hb2 : (k + n) * 1 ≤ 140737488355328 := by omega
      have hlz : (bys (List.replicate k 0)).length = k * 1 := by rw [bys_length]; simp
      have hlr : (bys L.reverse).length = n * 1 := by rw [bys_length, List.length_reverse, HL.out]; omega
      have hkn : 0 < k + n := by omega
      have gAd := grown_trans (World.grownBy_alloc wr (mkObj k) none) (grown_drew (wr.alloc (mkObj k)) none)
      go_wp2
      go_region_law (first
        | (go_simp; go_at_call 27; refine (H8 _ gAd).mono ?_; rintro e w2 ⟨ab, cb, rfl, hb2', g12A⟩; obtain ⟨gb, hgb⟩ : ∃ g, ab = some ⟨g, 0, none⟩ := (hb2'.cases).elim (fun h => absurd h.2.1 (Nat.ne_of_gt h0)) (fun h => h.elim fun g hg => ⟨g, hg.1⟩); subst hgb; have hmA := (mk_blk wr k).grown (grown_trans (grown_drew _ none) g12A) (fun h => by cases h))
        | (go_simp; go_at_call 27; refine (H8 _ gd).mono ?_; rintro e w2 ⟨ab, cb, rfl, hb2', g12B⟩; obtain ⟨gb, hgb⟩ : ∃ g, ab = some ⟨g, 0, none⟩ := (hb2'.cases).elim (fun h => absurd h.2.1 (Nat.ne_of_gt h0)) (fun h => h.elim fun g hg => ⟨g, hg.1⟩); subst hgb; have hmB := mk_blk w2 k; have hb2B := hb2'.keep (World.grownBy_alloc w2 (mkObj k) none))
        | (refine step_append_grows rfl (.tmp 40) (.tmp 42) 22 rfl 5 i0 (.int .u8 0) 1 1 Try.underlying22 hi hz0 hz1 hz2 rfl (by decide) (some ⟨wr.heap.size, 0, none⟩) k k (bys (List.replicate k 0)) rfl (fun h => by cases h) hlz (blk_cells hmA) ⟨gb, 0, none⟩ n cb (bys L.reverse) rfl hlr (rd_news hb2'.rd) (bys_one _) hfull hb1 hb2 ?_; intro v' w3 hown3 hgr3; obtain ⟨gu, cu, hv', hgu⟩ := own_form hown3 hkn; subst hv'; have hgw := grown_trans gAd (grown_trans g12A hgr3); have hgl := Nat.le_trans (grown_trans gAd g12A).size hgu)
        | (refine step_append_grows rfl (.tmp 40) (.tmp 42) 22 rfl 5 i0 (.int .u8 0) 1 1 Try.underlying22 hi hz0 hz1 hz2 rfl (by decide) (some ⟨w2.heap.size, 0, none⟩) k k (bys (List.replicate k 0)) rfl (fun h => by cases h) hlz (blk_cells hmB) ⟨gb, 0, none⟩ n cb (bys L.reverse) rfl hlr (rd_news hb2B.rd) (bys_one _) hfull hb1 hb2 ?_; intro v' w3 hown3 hgr3; obtain ⟨gu, cu, hv', hgu⟩ := own_form hown3 hkn; subst hv'; have hgw := grown_trans gd (grown_trans g12B (grown_trans (World.grownBy_alloc w2 (mkObj k) none) hgr3)); have hgl := Nat.le_trans (grown_trans gd (grown_trans g12B (World.grownBy_alloc w2 (mkObj k) none))).size hgu))
      all_goals
        rw [bys_app, HRR.out] at hown3
        have hU : Ans w3 w.heap.size (some ⟨gu, 0, none⟩) (k + n) cu (rawL L k).reverse := ⟨own_base hown3, isB_reverse (isB_rawL hp.byte k), fun g hg => by
          have e : gu = g := Option.some.inj hg
          rw [← e]
          exact Nat.le_trans hgr.size hgl⟩
        have hG3 := grown_trans hgr hgw
        have hgen3 := hgen.keep hgw
        clear hown3 hgr3 hgw hgen H8 gAd gd hgu hgl hmk
        obtain ⟨U, hUU⟩ : ∃ U, U = (rawL L k).reverse := ⟨_, rfl⟩
        rw [← hUU] at hU
        have HU : Hid (U = (rawL L k).reverse) := hUU
        clear hUU
        obtain ⟨N, hNN⟩ : ∃ N, N = k + n := ⟨_, rfl⟩
        rw [← hNN] at hU ⊢
        have hN2 : N ≤ 255 := by omega
        have HN : Hid (N = k + n) := hNN
        clear hNN
        go_wp2_with (go_at_call 28; refine (rover_all (some ⟨gu, 0, none⟩) ag N ng cu cg U (genN k) w3 hU.rd hgen3.rd).mono ?_; rintro e w4 ⟨aq, nq, cq, ar, nr, cr, rfl, _, hr4, g34⟩)
        have hUl := hU.len
        have hRl := ovT_small U (genN k)
        have hnrl := hr4.len
        have hnr : nr ≤ N := by omega
        have hU4 := hU.keep g34
        have hgu3 : gu < w3.heap.size := by
          rcases hU.cases with ⟨h, _⟩ | ⟨g, h, _, h2⟩
          · cases h
          · cases h; exact h2
        have hgul : w.heap.size ≤ gu := hU.new gu rfl
        obtain ⟨R, hR⟩ : ∃ R, R = ovT U (genN k) := ⟨_, rfl⟩
        rw [← hR] at hr4 hnrl
        have HR : Hid (R = chkL L k) := by show _ = _; rw [hR, HU.out]; rfl
        clear hR hRl
        go_loopw [12] (fun i wx => ∃ q : Nat, q ≤ nr ∧ i = .int .i64 q ∧ w4.grownBy wx (some gu) ∧ ∃ D, Ans wx w.heap.size (some ⟨gu, 0, none⟩) N cu D ∧ ∀ i, i < N → nth D i = if i < q then nth R i else nth U i) (fun i _ => nr - (intOf i).toNat)
        case atStart => exact ⟨0, by omega, rfl, World.grownBy.refl _ _, U, hU4, fun i hi => by rw [if_neg (by omega)]⟩
        case round =>
          obtain ⟨q, hq, rfl, hgx, D, hD, hDn⟩ := hrel
          have HD : Hid (∀ i, i < N → nth D i = if i < q then nth R i else nth U i) := hDn
          have HDl : Hid (D.length = N) := hD.len
          by_cases hlq : q < nr
          · have hr4' := hr4.rd.grown' hgx (fun _ b off e => by
              rcases hr4.cases with ⟨h1, _⟩ | ⟨g, h1, h2, _⟩
              · rw [h1] at e; cases e
              · rw [h1] at e; cases e; simp; omega)
            obtain ⟨b1, off1, hb1e, hbw1, hcc⟩ := hr4'.at' (by omega)
            subst hb1e
            have hck := hcc q hlq
            have hbk := hr4.byte.nth q
            have hcu := own_cell hD.own q (by omega)
            have hfu := hD.own.frozenAt q
            have hS := hD.set q (nth R q) hbk
            have hqN : q < N := by omega
            clear hcc hDn
            go_wp2
            go_roundw
            case rel =>
              refine ⟨q + 1, by omega, by go_num, grown_trans hgx (grown_set _ _ _ _), _, hS, fun i hi => ?_⟩
              rw [nth_set _ _ _ _ (by rw [HDl.out]; omega)]
              by_cases e : q = i
              · subst e; rw [if_pos rfl, if_pos (by omega)]
              · rw [if_neg e, HD.out i hi]
                by_cases e2 : i < q
                · rw [if_pos e2, if_pos (by omega)]
                · rw [if_neg e2, if_neg (by omega)]
            case measure => simp [intOf]; omega
          · have hqe : q = nr := by omega
            have HE : Hid (D.reverse = encL L k) := by
              show _ = _
              have e1 := HN.out
              have e2 := HL.out
              have e3 := HDl.out
              refine list_ext (by rw [List.length_reverse, encL_len, e2]; omega) fun i hi => ?_
              rw [List.length_reverse, e3] at hi
              rw [nth_encL _ _ _ (by rw [e2]; omega), nth_reverse D i (by omega), hDn _ (by omega), e3]
              unfold encF
              rw [← HR.out, e2, hnrl, show n + k - 1 - i = N - 1 - i by omega, hqe]
              by_cases e4 : N - 1 - i < nr
              · rw [if_pos e4, if_pos e4]
              · rw [if_neg e4, if_neg e4, HU.out, nth_reverse _ _ (by rw [rawL_len, e2]; omega), rawL_len, e2]
                congr 1; omega
            clear hDn
            go_wp2_with (go_at_call 27; refine (backward_any _ N cu D _ hD.rd (by omega)).mono ?_; rintro e w6 ⟨a6, c6, rfl, h6, g6⟩)
            rw [HE.out] at h6
            go_ret2
            have gx := grown_far (grown_trans hG3 g34) hgx (fun g e => by cases e; exact hgul)
            exact ⟨_, _, _, rfl, h6.wide gx.size, grown_trans gx g6⟩
end Go.Proofs.Ytbgbohddkfaacaa
