import Derived.Test.YtlaiocefbhoccaaDoorYPd
import Derived.Test.YtlaiocefbhoccaaDoorYNu
namespace Go.Proofs.YtlaiocefbhoccaaDoor
open Go.RowKit
set_option maxRecDepth 100000
set_option linter.unusedVariables false
set_option linter.unusedSimpArgs false
/-- a byte under its block -/
def cvB (W : Nat → Nat) (c : Nat) (B : List Nat) (i : Nat) : Nat := nth B i ^^^ padB W c (1 + i / 64) (i % 64)
def cvT (W : Nat → Nat) (c : Nat) (B : List Nat) (k : Nat) : List Nat := (List.range B.length).map fun i => if i < k then cvB W c B i else nth B i
def cvL (W : Nat → Nat) (c : Nat) (B : List Nat) : List Nat := (List.range B.length).map (cvB W c B)
theorem padB_lt (W : Nat → Nat) (c x i : Nat) : padB W c x i < 256 := Nat.mod_lt _ (by decide)
theorem cvB_lt (W : Nat → Nat) (c : Nat) {B : List Nat} (hB : IsB B) (i : Nat) : cvB W c B i < 256 := Nat.xor_lt_two_pow (n := 8) (hB.nth i) (padB_lt _ _ _ _)
theorem cvT_len (W : Nat → Nat) (c : Nat) (B : List Nat) (k : Nat) : (cvT W c B k).length = B.length := by simp [cvT]
theorem cvT_at (W : Nat → Nat) (c : Nat) (B : List Nat) (k i : Nat) (h : i < B.length) : nth (cvT W c B k) i = if i < k then cvB W c B i else nth B i := by
  unfold nth cvT
  rw [List.getD_eq_getElem?_getD, List.getElem?_map, List.getElem?_range h]; rfl
theorem cvT_isB (W : Nat → Nat) (c : Nat) {B : List Nat} (hB : IsB B) (k : Nat) : IsB (cvT W c B k) := by
  intro y hy
  obtain ⟨i, _, rfl⟩ := List.mem_map.1 hy
  show (if i < k then cvB W c B i else nth B i) < 256
  split
  · exact cvB_lt W c hB i
  · exact hB.nth i
theorem list_nth (L : List Nat) : L = (List.range L.length).map (nth L) := by
  apply List.ext_getElem?
  intro i
  by_cases h : i < L.length
  · rw [List.getElem?_map, List.getElem?_range h]
    unfold nth
    simp [h]
  · rw [List.getElem?_eq_none (by omega), List.getElem?_eq_none (by simp; omega)]
theorem cvT_zero (W : Nat → Nat) (c : Nat) (B : List Nat) : cvT W c B 0 = B := by
  conv => rhs; rw [list_nth B]
  unfold cvT
  apply List.map_congr_left
  intro i _
  rw [if_neg (by omega)]
theorem cvT_set (W : Nat → Nat) (c : Nat) (B : List Nat) (k : Nat) (hk : k < B.length) : (cvT W c B k).set k (cvB W c B k) = cvT W c B (k + 1) := by
  apply List.ext_getElem?
  intro i
  rw [List.getElem?_set]
  by_cases e : k = i
  · subst e
    rw [if_pos rfl, if_pos (by rw [cvT_len]; exact hk)]
    unfold cvT
    rw [List.getElem?_map, List.getElem?_range hk]; simp
  · rw [if_neg e]
    unfold cvT
    rw [List.getElem?_map, List.getElem?_map]
    by_cases hi : i < B.length
    · rw [List.getElem?_range hi]
      show some (if i < k then _ else _) = some (if i < k + 1 then _ else _)
      by_cases h2 : i < k
      · rw [if_pos h2, if_pos (by omega)]
      · rw [if_neg h2, if_neg (by omega)]
    · rw [List.getElem?_eq_none (by simp; omega)]; rfl
theorem cvT_end (W : Nat → Nat) (c : Nat) (B : List Nat) : cvT W c B B.length = cvL W c B := by
  unfold cvT cvL
  apply List.map_congr_left
  intro i hi
  rw [if_pos (List.mem_range.1 hi)]
theorem cells_rd {w : World} {a : Addr} {n cap : Nat} {L : List Nat} (h : Rd w (some a) n cap L) (h0 : 0 < n) : ∀ j u, (bys L)[j]? = some u → w.cell? (a.add j) = some u := by
  obtain ⟨b, off, e, hbw, hcc⟩ := h.at' h0
  cases e
  intro j u hu
  have hj : j < L.length := by
    have := (List.getElem?_eq_some_iff.1 hu).1
    rw [bys_length] at this; exact this
  rw [nth_bys L j hj] at hu
  rw [← hu, addr_add]
  exact hcc j (by rw [← h.len]; exact hj)
set_option maxHeartbeats 4000000 in
theorem covered_some (a : Option Addr) (b off cap c n cb : Nat) (S : List Int) (W : Nat → Nat) (B : List Nat) (w : World) (hp : RdI w a 8 cap S) (hW : ∀ i, i < 8 → nthI S i = (W i : Int) ∧ W i < 4294967296) (hc : c < 281474976710656) (hb : Rd w (some ⟨b, off, none⟩) n cb B) (hn : n ≤ 1000) (h0 : 0 < n) :
    Calls Tryd.prog 38 #[.slice a 8 cap, .int .i64 c, .slice (some ⟨b, off, none⟩) n cb] w fun e w' => ∃ a' c', e = .returned (.slice a' n c') ∧ Ans w' w.heap.size a' n c' (cvL W c B) ∧ w.grownBy w' none := by
  have hBl := hb.len
  have hB := hb.byte
  have hBn := hb.byte
  go_enter Tryd.func38, Tryd.ntmps38
  go_wp2_with (at_builtin; refine wpList_joinB w w w.heap.size rfl _ _ rfl none 0 0 [] rfl (ans_nil _ _) (Nat.le_refl _) (Nat.le_refl _) (World.grownBy.refl _ _) ⟨b, off, none⟩ n cb B rfl hBl hB (cells_rd hb h0) h0 (by omega) ?_; intro go co w1 hA1 hG1 hgo hgr1)
  simp only [Nat.zero_add, List.nil_append] at hA1
  have hgl : w.heap.size ≤ go := hA1.new go rfl
  rw [← cvT_zero W c B] at hA1
  go_loopw [8, 9] (fun s8 i wr => ∃ k : Nat, k ≤ n ∧ i = .int .i64 (k : Nat) ∧ w.grownBy wr none ∧ Ans wr w.heap.size (some ⟨go, 0, none⟩) n co (cvT W c B k) ∧ (0 < k → ∃ gp cp, s8 = .slice (some ⟨gp, 0, none⟩) 64 cp ∧ Ans wr w.heap.size (some ⟨gp, 0, none⟩) 64 cp (padL W c (1 + (k - 1) / 64)) ∧ gp ≠ go)) (fun _ i _ => n - (intOf i).toNat)
  case atStart => exact ⟨0, by omega, rfl, hG1, hA1, fun h => by omega⟩
  case round =>
    obtain ⟨k, hk, rfl, hGr, hAr, hPr⟩ := hrel
    by_cases hlt : k < n
    · have hki : (k : Int) < (n : Int) := by omega
      have co1 := own_cell hAr.own k hlt
      rw [cvT_at W c B k k (by omega), if_neg (by omega)] at co1
      by_cases h64 : k % 64 = 0
      · have e1 : (k : Int).tmod 64 = 0 := by rw [Int.tmod_eq_emod_of_nonneg (by omega)]; omega
        obtain ⟨q, hq⟩ : ∃ q, q = k / 64 := ⟨_, rfl⟩
        have e2 : (k : Int).tdiv 64 = (q : Int) := by rw [Int.tdiv_eq_ediv_of_nonneg (by omega)]; omega
        have hP := pad_ok a cap c (1 + q) S W wr (hp.keep hGr) hW hc (by omega)
        rw [show ((1 + q : Nat) : Int) = 1 + (q : Int) by omega] at hP
        have HX0 : Hid (1 + q = 1 + k / 64) := by rw [hq]; rfl
        have H64 : Hid (k % 64 = 0) := h64
        have hq20 : q < 20 := by omega
        have HC1 : Hid _ := co1
        have HAR : Hid _ := hAr
        have HGR : Hid _ := hGr
        clear hPr hq h64 co1 hAr hGr hA1 hG1
        go_wp2_with (go_at_call 10; refine hP.mono ?_; rintro e w2 ⟨ap, cp, rfl, hA2, g2⟩)
        have h64 := H64.out
        have co1 := HC1.out
        have hAr := HAR.out
        have hGr := HGR.out
        obtain ⟨x, hx1⟩ : ∃ x, x = 1 + q := ⟨_, rfl⟩
        rw [← hx1] at hA2
        have hx : x = 1 + k / 64 := by rw [hx1]; exact HX0.out
        clear hx1 HX0
        rcases hA2.cases with ⟨_, h, _⟩ | ⟨gp, rfl, _, hpl⟩
        · omega
        have hAk := hAr.keep g2
        have hgn : gp ≠ go := fun e => by
          have h1 := hA2.new gp rfl
          have h2 : go < wr.heap.size := by
            rcases hAr.cases with ⟨h, _⟩ | ⟨g', h, _, hl⟩
            · cases h
            · cases h; exact hl
          omega
        have cp1 := own_cell hA2.own (k % 64) (by omega)
        rw [padL_at W c x (k % 64) (by omega)] at cp1
        have GW := grown_trans hGr g2
        have hA2' : Ans w2 w.heap.size (some ⟨gp, 0, none⟩) 64 cp (padL W c x) := ⟨hA2.own, hA2.byte, fun g h => Nat.le_trans hGr.size (hA2.new g h)⟩
        clear hA2 hP e1 e2 HC1 HAR HGR H64
        have cq1 := own_cell hAk.own k hlt
        rw [cvT_at W c B k k (by omega), if_neg (by omega)] at cq1
        have fq1 := hAk.own.frozenAt k
        have R := own_set hAk.own k (cvB W c B k)
        rw [cvT_set W c B k (by omega)] at R
        have hbn := hBn.nth k
        have hpn := padB_lt W c x (k % 64)
        have hxr : bits .xor .u8 (nth B k : Nat) (padB W c x (k % 64) : Nat) = ((cvB W c B k : Nat) : Int) := by
          rw [u8_xor_nat _ _ hbn hpn]; unfold cvB; rw [hx]
        obtain ⟨r, hr⟩ : ∃ r, r = k % 64 := ⟨_, rfl⟩
        have e3 : (k : Int).tmod 64 = (r : Int) := by rw [Int.tmod_eq_emod_of_nonneg (by omega)]; omega
        have hr64 : r < 64 := by omega
        have hri : (r : Int) < 64 := by omega
        rw [← hr] at cp1 hxr
        have HX : Hid (x = 1 + k / 64) := hx
        have HAN : Hid (Ans w2 w.heap.size (some ⟨gp, 0, none⟩) 64 cp (padL W c x)) := hA2'
        have hone : cvB W c B k < 256 := cvB_lt W c hBn k
        have HBB : Hid (IsB (cvT W c B (k + 1))) := cvT_isB W c hBn (k + 1)
        generalize padB W c x r = pv at *
        generalize nth B k = bv at *
        generalize cvB W c B k = cv at *
        clear hx hr hAk hA2' hAr co1
        go_wp2
        go_region
        all_goals
          go_wp2
          go_roundw
          case rel =>
            refine ⟨k + 1, by omega, by go_num, grown_far GW (grown_trans (grown_set _ _ _ _) (grown_drew _ _)) (fun g e => by cases e; exact hgl), ⟨?_, HBB.out, fun g h => by have e : go = g := Option.some.inj h; omega⟩, fun _ => ⟨gp, cp, rfl, ?_, hgn⟩⟩
            · exact R
            · rw [show 1 + (k + 1 - 1) / 64 = x by rw [HX.out]; omega]
              exact HAN.out.kept (grown_trans (grown_set _ _ _ _) (grown_drew _ _)) (.inr (by simp [Value.ownBlock]; exact hgn))
          case measure => simp [intOf] <;> omega
      · have hkp : 0 < k := by omega
        obtain ⟨gp, cp, rfl, hA2', hgn⟩ := hPr hkp
        clear hPr
        obtain ⟨x, hx⟩ : ∃ x, x = 1 + k / 64 := ⟨_, rfl⟩
        rw [show 1 + (k - 1) / 64 = x by omega] at hA2'
        obtain ⟨w2, hw2⟩ : ∃ w2, w2 = wr := ⟨_, rfl⟩
        rw [← hw2] at hAr hA2' hGr co1 ⊢
        clear hw2
        have hAk := hAr
        have GW := hGr
        have cp1 := own_cell hA2'.own (k % 64) (by omega)
        rw [padL_at W c x (k % 64) (by omega)] at cp1
        have hk64 : ¬ (k : Int).tmod 64 = 0 := by rw [Int.tmod_eq_emod_of_nonneg (by omega)]; omega
        have cq1 := own_cell hAk.own k hlt
        rw [cvT_at W c B k k (by omega), if_neg (by omega)] at cq1
        have fq1 := hAk.own.frozenAt k
        have R := own_set hAk.own k (cvB W c B k)
        rw [cvT_set W c B k (by omega)] at R
        have hbn := hBn.nth k
        have hpn := padB_lt W c x (k % 64)
        have hxr : bits .xor .u8 (nth B k : Nat) (padB W c x (k % 64) : Nat) = ((cvB W c B k : Nat) : Int) := by
          rw [u8_xor_nat _ _ hbn hpn]; unfold cvB; rw [hx]
        obtain ⟨r, hr⟩ : ∃ r, r = k % 64 := ⟨_, rfl⟩
        have e3 : (k : Int).tmod 64 = (r : Int) := by rw [Int.tmod_eq_emod_of_nonneg (by omega)]; omega
        have hr64 : r < 64 := by omega
        have hri : (r : Int) < 64 := by omega
        rw [← hr] at cp1 hxr
        have HX : Hid (x = 1 + k / 64) := hx
        have HAN : Hid (Ans w2 w.heap.size (some ⟨gp, 0, none⟩) 64 cp (padL W c x)) := hA2'
        have hone : cvB W c B k < 256 := cvB_lt W c hBn k
        have HBB : Hid (IsB (cvT W c B (k + 1))) := cvT_isB W c hBn (k + 1)
        generalize padB W c x r = pv at *
        generalize nth B k = bv at *
        generalize cvB W c B k = cv at *
        clear hx hr hAk hA2' hAr co1
        go_wp2
        go_region
        all_goals
          go_wp2
          go_roundw
          case rel =>
            refine ⟨k + 1, by omega, by go_num, grown_far GW (grown_trans (grown_set _ _ _ _) (grown_drew _ _)) (fun g e => by cases e; exact hgl), ⟨?_, HBB.out, fun g h => by have e : go = g := Option.some.inj h; omega⟩, fun _ => ⟨gp, cp, rfl, ?_, hgn⟩⟩
            · exact R
            · rw [show 1 + (k + 1 - 1) / 64 = x by rw [HX.out]; omega]
              exact HAN.out.kept (grown_trans (grown_set _ _ _ _) (grown_drew _ _)) (.inr (by simp [Value.ownBlock]; exact hgn))
          case measure => simp [intOf] <;> omega
    · obtain rfl : k = n := by omega
      go_wp2
      go_ret
      exact ⟨_, co, rfl, by rw [← cvT_end, hBl]; exact hAr, hGr⟩
theorem cvL_len (W : Nat → Nat) (c : Nat) (B : List Nat) : (cvL W c B).length = B.length := by simp [cvL]
theorem cvL_isB (W : Nat → Nat) (c : Nat) {B : List Nat} (hB : IsB B) : IsB (cvL W c B) := by
  rw [← cvT_end]; exact cvT_isB W c hB _
theorem covered_any (a bo : Option Addr) (cap c n cb : Nat) (S : List Int) (W : Nat → Nat) (B : List Nat) (w : World) (hp : RdI w a 8 cap S) (hW : ∀ i, i < 8 → nthI S i = (W i : Int) ∧ W i < 4294967296) (hc : c < 281474976710656) (hb : Rd w bo n cb B) (hn : n ≤ 1000) :
    Calls Tryd.prog 38 #[.slice a 8 cap, .int .i64 c, .slice bo n cb] w fun e w' => ∃ a' c', e = .returned (.slice a' n c') ∧ Ans w' w.heap.size a' n c' (cvL W c B) ∧ w.grownBy w' none := by
  by_cases h0 : 0 < n
  · obtain ⟨b, off, rfl, _, _⟩ := hb.at' h0
    exact covered_some a b off cap c n cb S W B w hp hW hc hb hn h0
  · obtain rfl : n = 0 := by omega
    have hBz : B = [] := List.eq_nil_of_length_eq_zero hb.len
    subst hBz
    have hcb := hb.max
    unfold maxLen at hcb
    obtain ⟨i0, hi, hz0, hz1, hz2⟩ := info_parts Tryd.info_u8
    cases bo with
    | none =>
      have hc0 : cb = 0 := hb.nil rfl
      subst hc0
      go_enter Tryd.func38, Tryd.ntmps38
      go_wp2_with (at_builtin; refine wpList_append_own_none rfl _ _ 24 rfl 0 5 i0 1 Tryd.underlying24 hi (.slice none 0 0) 0 [] rfl (World.ownsRow_nil _ _ _ _) rfl ?_)
      refine wp_loop_rounds 1 ?_; rw [rounds_succ]
      go_wp2
      go_ret
      exact ⟨none, 0, rfl, ans_nil _ _, World.grownBy.refl _ _⟩
    | some ad =>
      go_enter Tryd.func38, Tryd.ntmps38
      go_wp2_with (at_builtin; refine wpList_append_own w rfl _ _ 24 rfl w.heap.size 5 i0 (.int .u8 0) 1 1 Tryd.underlying24 hi hz0 hz1 hz2 rfl (by decide) (.slice none 0 0) 0 [] rfl (World.ownsRow_nil _ _ _ _) ad 0 cb [] rfl rfl (fun j u h => by simp at h) (fun u h => by simp at h) (by unfold maxLen; omega) (by omega) (Nat.le_refl _) ?_; intro v' w' hown' hgr hnil; have hv : v' = .slice none 0 0 := hnil.2 ⟨rfl, rfl⟩; subst hv; clear hnil hown')
      refine wp_loop_rounds 1 ?_; rw [rounds_succ]
      go_wp2
      go_ret
      exact ⟨none, 0, rfl, ans_nil _ _, hgr⟩
end Go.Proofs.YtlaiocefbhoccaaDoor
