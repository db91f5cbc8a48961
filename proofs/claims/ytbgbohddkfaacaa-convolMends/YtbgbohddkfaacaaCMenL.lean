import Derived.Test.YtbgbohddkfaacaaCMn1
import Derived.Test.YtbgbohddkfaacaaCBst
namespace Go.Proofs.Ytbgbohddkfaacaa
open Go.RowKit
set_option maxRecDepth 100000
set_option linter.unusedVariables false
set_option linter.unusedSimpArgs false

def bL (P : List Nat) (i : Nat) : List Nat := (List.range i).map fun j => nth P j % 2
theorem bL_len (P : List Nat) (i : Nat) : (bL P i).length = i := by simp [bL]
theorem bL_bit (P : List Nat) (k : Nat) : IsBit (bL P k) := by
  intro i
  by_cases h : i < k
  · unfold bL; rw [nth_map_range _ _ _ h]; exact Nat.mod_lt _ (by decide)
  · rw [nth_out _ _ (by rw [bL_len]; omega)]; decide
theorem bL_succ (P : List Nat) (i : Nat) : bL P (i + 1) = bL P i ++ [nth P i % 2] := by
  unfold bL; rw [List.range_succ, List.map_append]; rfl
theorem u8_one (x : Nat) (h : x < 256) : bits .and .u8 (x : Int) 1 = ((x % 2 : Nat) : Int) := by
  have := u8_and_nat x 1 h (by decide)
  simp only [Nat.and_one_is_mod] at this
  exact this
theorem bad_set (m : Nat) (f f' : Nat → Int) (L : List Nat) (v : Nat) (h : ∀ i, i ≠ v → f' i = f i) : ∀ i, i ≤ m → badN (lisI m f') L i ≤ badN (lisI m f) L i + (if v < i then 1 else 0) := by
  intro i
  induction i with
  | zero => intro _; exact Nat.zero_le _
  | succ i ih =>
    intro hi
    have h0 := ih (by omega)
    show badN (lisI m f') L i + (if nthI (lisI m f') i = 7 * (2 * (nth L i : Int) - 1) then 0 else 1) ≤ badN (lisI m f) L i + (if nthI (lisI m f) i = 7 * (2 * (nth L i : Int) - 1) then 0 else 1) + _
    rw [lisI_at m f' i (by omega), lisI_at m f i (by omega)]
    by_cases e : i = v
    · rw [if_neg (show ¬ v < i by omega)] at h0
      rw [if_pos (show v < i + 1 by omega)]
      split <;> split <;> omega
    · rw [h i e]
      by_cases e2 : v < i
      · rw [if_pos e2] at h0; rw [if_pos (show v < i + 1 by omega)]; omega
      · rw [if_neg e2] at h0; rw [if_neg (show ¬ v < i + 1 by omega)]; omega
theorem bad_none (m : Nat) (f : Nat → Int) (L : List Nat) (h : ∀ i, i < m → f i = 7 * (2 * (nth L i : Int) - 1)) : ∀ i, i ≤ m → badN (lisI m f) L i = 0 := by
  intro i
  induction i with
  | zero => intro _; rfl
  | succ i ih =>
    intro hi
    show badN (lisI m f) L i + (if nthI (lisI m f) i = 7 * (2 * (nth L i : Int) - 1) then 0 else 1) = 0
    rw [ih (by omega), lisI_at m f i (by omega), if_pos (h i (by omega))]
theorem few_cell (w : World) (q : Nat) (h1 : 1 ≤ q) (h2 : q ≤ 5) : (w.alloc (.cells #[.int .i64 0, .int .i64 4, .int .i64 2, .int .i64 2, .int .i64 1, .int .i64 1] 3)).cell? ⟨w.heap.size, q, none⟩ = some (.int .i64 (fewN q : Nat)) := by
  rw [cell_of_row _ _ _ _ _ _ (heap_alloc_new w _)]
  rcases (by omega : q = 1 ∨ q = 2 ∨ q = 3 ∨ q = 4 ∨ q = 5) with rfl | rfl | rfl | rfl | rfl <;> rfl
set_option maxHeartbeats 8000000 in
theorem mends_walk (a a' : Option Addr) (n0 cap0 n1 cap1 : Nat) (zr : Int) (P : List Nat) (S0 : List Int) (w : World) (hp : Rd w a n0 cap0 P) (hat : RdI w a' n1 cap1 S0) (hr : ∀ i, -9223372036854775808 ≤ nthI S0 i ∧ nthI S0 i ≤ 9223372036854775807)
    (hr1 : -9223372036854775808 ≤ zr) (hr2 : zr ≤ 9223372036854775807) :
    Calls Try.prog 8 #[.slice a n0 cap0, .int .i64 zr, .slice a' n1 cap1] w fun e w' => e = .returned (.bool true) ∧ Below w.heap.size w w' := by
  have hm1 := hp.le; have hm2 := hp.max
  have hm3 := hat.le; have hm4 := hat.max
  unfold maxLen at hm2 hm4
  go_enter Try.func8, Try.ntmps8
  go_wp2_with (go_at_call 22; refine (picked_any zr 5 w hr1 hr2 (by decide) (by decide)).mono ?_; rintro e w1 ⟨r, hr5, rfl, hw⟩; have hw := hw.symm; subst hw; obtain ⟨q, hq1, hq5, hqe⟩ : ∃ q : Nat, 1 ≤ q ∧ q ≤ 5 ∧ 1 + (r : Int) = (q : Int) := ⟨r + 1, by omega, by omega, by omega⟩)
  clear hqe hr5
  go_loopw [8, 9] (fun o i wr => ∃ (k co : Nat) (ao : Option Addr), k ≤ n0 ∧ k ≤ 2000 ∧ i = .int .i64 k ∧ o = .slice ao k co ∧ w.grownBy wr none ∧ Ans wr w.heap.size ao k co (bL P k)) (fun _ i _ => 2000 - (intOf i).toNat)
  case atStart => exact ⟨0, 0, none, by omega, by omega, rfl, rfl, World.grownBy.refl _ _, ans_nil _ _⟩
  case round =>
    obtain ⟨k, co, ao, hk1, hk2, rfl, rfl, hgr, hA⟩ := hrel
    by_cases hlt : k < n0 ∧ k < 2000
    · obtain ⟨hl0, hl2⟩ := hlt
      obtain ⟨b, off, e, hbw, hcc⟩ := (hp.keep hgr).at' (by omega)
      subst e
      have c0 := hcc k hl0
      have hb := hp.byte.nth k
      have hu := u8_one (nth P k) hb
      have HB : Hid (bL P (k + 1) = bL P k ++ [nth P k % 2]) := bL_succ P k
      have hxl : nth P k % 2 < 2 := Nat.mod_lt _ (by decide)
      clear hcc
      generalize nth P k % 2 = x at *
      go_wp2_with (at_builtin; refine wpList_push w wr rfl (.tmp 31) (.tmp 37) rfl ao k co x (bL P k) rfl hA hgr (by omega) rfl (by omega) ?_; intro gx cx w4 hA4 hG4)
      go_roundw
      case rel => exact ⟨k + 1, cx, some ⟨gx, 0, none⟩, by omega, by omega, by go_num, rfl, hG4, by rw [HB.out]; exact hA4⟩
      case measure => simp [intOf]; omega
    · have hSp := Spread_ok ao k co q (bL P k) wr hA.rd (by omega) (bL_bit P k) hq1 hq5
      have hcl := cntN_le q (k + 6)
      have hc6 := cnt_pos q k hq1 hq5
      have hc66 : ¬ ((cntN q (k + 6) : Nat) : Int) < 6 := by
        have := cnt_mono q (show 6 ≤ k + 6 by omega)
        have e : 6 < cntN q 6 := by
          rcases (by omega : q = 1 ∨ q = 2 ∨ q = 3 ∨ q = 4 ∨ q = 5) with rfl | rfl | rfl | rfl | rfl <;> decide +kernel
        omega
      have hob := out_bit q (bL P k) (k + 6)
      obtain ⟨m, hm⟩ : ∃ m, m = cntN q (k + 6) := ⟨_, rfl⟩
      have HM : Hid (m = cntN q (k + 6)) := hm
      rw [← hm] at hcl hc6 hc66 hSp
      obtain ⟨L, hL⟩ : ∃ L, L = outN q (bL P k) (k + 6) := ⟨_, rfl⟩
      have HL : Hid (L = outN q (bL P k) (k + 6)) := hL
      rw [← hL] at hSp hob
      clear hm hL
      by_cases hlm : k < n0
      · have hln : ¬ k < 2000 := fun h => hlt ⟨hlm, h⟩
        clear hlt
        go_wp2_with (first
          | (go_at_call 17; refine hSp.mono ?_; rintro e w2 ⟨a2, c2, rfl, hA2, g2⟩)
          | (at_make; refine wpList_mkI _ rfl _ _ rfl m rfl rfl (by omega) ?_; intro w3 hI3 g3))
        have hG3 := grown_trans hgr (grown_trans g2 g3)
        have hgl : w.heap.size ≤ w2.heap.size := Nat.le_trans hgr.size g2.size
        have hs3 := hA2.rd.keep g3
        have hs3n := hA2.rd.ne (Nat.le_refl w2.heap.size)
        have hl3 := (hA.rd.keep g2).keep g3
        have hl3n := (hA.rd.keep g2).ne (Nat.le_refl w2.heap.size)
        have hatn : ∀ b off, a' = some ⟨b, off, none⟩ → 0 < n1 → b < w2.heap.size := by
          intro b off e h0
          obtain ⟨b', off', e', hb, _⟩ := hat.at' h0
          rw [e'] at e
          cases e
          exact Nat.lt_of_lt_of_le hb hgl
        generalize w2.heap.size = gl at *
        clear hA2 g2 g3 hSp hA hgr
        go_loopw [13] (fun i wx => ∃ j : Nat, j ≤ m ∧ i = .int .i64 j ∧ w3.grownBy wx (some gl) ∧ IRow wx gl 3 m (fun i => if i < j then 7 * (2 * (nth L i : Int) - 1) else 0)) (fun i _ => m - (intOf i).toNat)
        case atStart => exact ⟨0, by omega, rfl, World.grownBy.refl _ _, hI3.congr (fun i hi => by rw [if_neg (by omega)])⟩
        case round =>
          obtain ⟨j, hj, rfl, hgx, hI⟩ := hrel
          by_cases hlj : j < m
          · obtain ⟨b, off, e, hbw, hcc⟩ := (hs3.grown' hgx hs3n).at' (by omega)
            subst e
            have c0 := hcc j hlj
            have c1 := hI.cell j hlj
            have f1 := hI.free j
            have hb := hob j
            have HS := hI.set j (7 * (2 * (nth L j : Int) - 1))
            have HX : Hid (7 * (2 * (nth L j : Int) - 1) = 7 * (2 * (nth L j : Int) - 1)) := rfl
            clear hcc
            go_wp2
            go_roundw
            case rel =>
              refine ⟨j + 1, by omega, by go_num, grown_trans hgx (grown_set _ _ _ _), HS.congr (fun i hi => ?_)⟩
              by_cases e : i = j
              · subst e; rw [if_pos rfl, if_pos (by omega)]
              · rw [if_neg e]
                by_cases e2 : i < j
                · rw [if_pos e2, if_pos (by omega)]
                · rw [if_neg e2, if_neg (by omega)]
            case measure => simp [intOf]; omega
          · obtain rfl : j = m := by omega
            have hIr := hI.congr (f' := fun i => 7 * (2 * (nth L i : Int) - 1)) (fun i hi => by rw [if_pos hi])
            have hsm : ∀ i, i < j → (fun i => 7 * (2 * (nth L i : Int) - 1)) i = 7 ∨ (fun i => 7 * (2 * (nth L i : Int) - 1)) i = -7 := by
              intro i hi
              have := hob i
              rcases (by omega : nth L i = 0 ∨ nth L i = 1) with e | e
              · right; simp [e]
              · left; simp [e]
            have hbz := bad_none j (fun i => 7 * (2 * (nth L i : Int) - 1)) L (fun i hi => rfl) j (Nat.le_refl _)
            have hlx := hl3.grown' hgx hl3n
            have hGx := grown_far hG3 hgx (fun g e => by cases e; exact hgl)
            have hglx := hIr.lt
            clear hI
            generalize (fun i => 7 * (2 * (nth L i : Int) - 1)) = f0 at *
            have hfc := few_cell wr q hq1 hq5
            have gA := World.grownBy_alloc wr (.cells #[.int .i64 0, .int .i64 4, .int .i64 2, .int .i64 2, .int .i64 1, .int .i64 1] 3) none
            have hIb := hIr.keep gA
            have hlb := hlx.keep gA
            have hGb := grown_trans hGx gA
            have hfl := World.block_lt_of_cell? _ _ hfc
            go_wp2
            generalize wr.alloc (.cells #[.int .i64 0, .int .i64 4, .int .i64 2, .int .i64 2, .int .i64 1, .int .i64 1] 3) = wb at *
            generalize wr.heap.size = gf at *
            have hnf : some gf ≠ some gl := by simp; omega
            have HHL : Hid (0 < j) := hc6
            clear gA hIr hlx hGx hgx hs3 hl3 hI3 hG3 hc66
            go_loopw [15] (fun i wy => ∃ (x : Nat) (f : Nat → Int), x ≤ n1 ∧ x ≤ fewN q ∧ i = .int .i64 x ∧ wb.grownBy wy (some gl) ∧ IRow wy gl 3 j f ∧ (∀ i, i < j → f i = 7 ∨ f i = -7) ∧ badN (lisI j f) L j ≤ x) (fun i _ => fewN q - (intOf i).toNat)
            case atStart => exact ⟨0, f0, by omega, by omega, rfl, World.grownBy.refl _ _, hIb, hsm, by rw [hbz]; exact Nat.le_refl _⟩
            case round =>
              obtain ⟨x, f, hx1, hx2, rfl, hgy, hI, hfs, hbd⟩ := hrel
              have HFS : Hid (∀ i, i < j → f i = 7 ∨ f i = -7) := hfs
              have HBD : Hid (badN (lisI j f) L j ≤ x) := hbd
              have hGy := grown_far hGb hgy (fun g e => by cases e; exact hgl)
              have cfew := (World.cell?_of_block (w := wb) (a := ⟨gf, q, none⟩) (hgy.block gf hfl hnf)).trans hfc
              have hq6 : (q : Int) < 6 := by omega
              clear hfs hbd
              by_cases hl2 : x < n1 ∧ x < fewN q
              · obtain ⟨hla, hlb2⟩ := hl2
                obtain ⟨b, off, e, hbw, hcc⟩ := (hat.keep hGy).at' (by omega)
                subst e
                have c0 := hcc x hla
                have hrj := hr x
                have hj32 : (j : Int) ≤ 9223372036854775807 := by omega
                have hj0 : (0 : Int) < (j : Int) := by omega
                generalize hfe : fewN q = fw at *
                clear hcc
                go_wp2_with (go_at_call 22; refine (picked_any _ j _ hrj.1 hrj.2 hj0 hj32).mono ?_; rintro e w1 ⟨v, hv, rfl, hw⟩; have hw := hw.symm; subst hw; have hvj : v < j := (by omega); have c1 := hI.cell v hvj; have f1 := hI.free v; have hy := HFS.out v hvj; have HST := fun y => hI.set v y; generalize hfv : f v = y at c1 hy; have hyb : -7 ≤ y ∧ y ≤ 7 := (by omega); obtain ⟨hyb1, hyb2⟩ := hyb)
                go_roundw
                case rel =>
                  refine ⟨x + 1, fun i => if i = v then -y else f i, by omega, by omega, by go_num, grown_trans hgy (grown_set _ _ _ _), HST (-y), fun i hi => ?_, ?_⟩
                  · show (if i = v then -y else f i) = 7 ∨ (if i = v then -y else f i) = -7
                    by_cases e : i = v
                    · rw [if_pos e]; omega
                    · rw [if_neg e]; exact HFS.out i hi
                  · have t1 := bad_set j f (fun i => if i = v then -y else f i) L v (fun i hi => if_neg hi) j (Nat.le_refl _)
                    have t2 := HBD.out
                    rw [if_pos hvj] at t1
                    omega
                case measure => simp [intOf]; omega
              · have hRd := hI.rdI (by omega)
                have hSb := lisI_bd j f (fun i hi => by have := HFS.out i hi; omega)
                have hgot : gotN (prV q (lisI j f)) k = bL P k := by
                  refine mends_fact q (bL P k) k (lisI j f) (bL_len P k) (bL_bit P k) hq1 hq5 ?_ ?_
                  · intro i hi
                    rw [← HM.out] at hi
                    rw [lisI_at j f i hi]; exact HFS.out i hi
                  · rw [← HM.out, ← HL.out]
                    exact Nat.le_trans HBD.out hx2
                have hGa := Gather_ok (some ⟨gl, 0, none⟩) j j k q (lisI j f) wr hRd (by omega) hq1 hq5 HM.out hSb
                rw [hgot] at hGa
                have hlr := hlb.grown' hgy hl3n
                generalize vN (prV q (lisI j f)) k (k + 6) 0 = cc at hGa
                clear hgot hSb hRd hI HBD HFS
                by_cases hla : x < n1
                · have hlf : ¬ x < fewN q := fun h => hl2 ⟨hla, h⟩
                  clear hl2
                  go_wp2_with (go_at_call 20; refine hGa.mono ?_; rintro e w5 ⟨a5, c5, rfl, hA5, g5⟩; have e1 := str_any w5 a5 k c5 (bL P k) hA5.rd; have e2 := str_any w5 ao k co (bL P k) (hlr.keep g5))
                  go_ret
                  exact ⟨rfl, (Below.refl _ _).grown (grown_trans hGy g5) (Nat.le_refl _) (fun k hk => by cases hk)⟩
                · clear hl2
                  go_wp2_with (go_at_call 20; refine hGa.mono ?_; rintro e w5 ⟨a5, c5, rfl, hA5, g5⟩; have e1 := str_any w5 a5 k c5 (bL P k) hA5.rd; have e2 := str_any w5 ao k co (bL P k) (hlr.keep g5))
                  go_ret
                  exact ⟨rfl, (Below.refl _ _).grown (grown_trans hGy g5) (Nat.le_refl _) (fun k hk => by cases hk)⟩
      · clear hlt
        go_wp2_with (first
          | (go_at_call 17; refine hSp.mono ?_; rintro e w2 ⟨a2, c2, rfl, hA2, g2⟩)
          | (at_make; refine wpList_mkI _ rfl _ _ rfl m rfl rfl (by omega) ?_; intro w3 hI3 g3))
        have hG3 := grown_trans hgr (grown_trans g2 g3)
        have hgl : w.heap.size ≤ w2.heap.size := Nat.le_trans hgr.size g2.size
        have hs3 := hA2.rd.keep g3
        have hs3n := hA2.rd.ne (Nat.le_refl w2.heap.size)
        have hl3 := (hA.rd.keep g2).keep g3
        have hl3n := (hA.rd.keep g2).ne (Nat.le_refl w2.heap.size)
        have hatn : ∀ b off, a' = some ⟨b, off, none⟩ → 0 < n1 → b < w2.heap.size := by
          intro b off e h0
          obtain ⟨b', off', e', hb, _⟩ := hat.at' h0
          rw [e'] at e
          cases e
          exact Nat.lt_of_lt_of_le hb hgl
        generalize w2.heap.size = gl at *
        clear hA2 g2 g3 hSp hA hgr
        go_loopw [13] (fun i wx => ∃ j : Nat, j ≤ m ∧ i = .int .i64 j ∧ w3.grownBy wx (some gl) ∧ IRow wx gl 3 m (fun i => if i < j then 7 * (2 * (nth L i : Int) - 1) else 0)) (fun i _ => m - (intOf i).toNat)
        case atStart => exact ⟨0, by omega, rfl, World.grownBy.refl _ _, hI3.congr (fun i hi => by rw [if_neg (by omega)])⟩
        case round =>
          obtain ⟨j, hj, rfl, hgx, hI⟩ := hrel
          by_cases hlj : j < m
          · obtain ⟨b, off, e, hbw, hcc⟩ := (hs3.grown' hgx hs3n).at' (by omega)
            subst e
            have c0 := hcc j hlj
            have c1 := hI.cell j hlj
            have f1 := hI.free j
            have hb := hob j
            have HS := hI.set j (7 * (2 * (nth L j : Int) - 1))
            have HX : Hid (7 * (2 * (nth L j : Int) - 1) = 7 * (2 * (nth L j : Int) - 1)) := rfl
            clear hcc
            go_wp2
            go_roundw
            case rel =>
              refine ⟨j + 1, by omega, by go_num, grown_trans hgx (grown_set _ _ _ _), HS.congr (fun i hi => ?_)⟩
              by_cases e : i = j
              · subst e; rw [if_pos rfl, if_pos (by omega)]
              · rw [if_neg e]
                by_cases e2 : i < j
                · rw [if_pos e2, if_pos (by omega)]
                · rw [if_neg e2, if_neg (by omega)]
            case measure => simp [intOf]; omega
          · obtain rfl : j = m := by omega
            have hIr := hI.congr (f' := fun i => 7 * (2 * (nth L i : Int) - 1)) (fun i hi => by rw [if_pos hi])
            have hsm : ∀ i, i < j → (fun i => 7 * (2 * (nth L i : Int) - 1)) i = 7 ∨ (fun i => 7 * (2 * (nth L i : Int) - 1)) i = -7 := by
              intro i hi
              have := hob i
              rcases (by omega : nth L i = 0 ∨ nth L i = 1) with e | e
              · right; simp [e]
              · left; simp [e]
            have hbz := bad_none j (fun i => 7 * (2 * (nth L i : Int) - 1)) L (fun i hi => rfl) j (Nat.le_refl _)
            have hlx := hl3.grown' hgx hl3n
            have hGx := grown_far hG3 hgx (fun g e => by cases e; exact hgl)
            have hglx := hIr.lt
            clear hI
            generalize (fun i => 7 * (2 * (nth L i : Int) - 1)) = f0 at *
            have hfc := few_cell wr q hq1 hq5
            have gA := World.grownBy_alloc wr (.cells #[.int .i64 0, .int .i64 4, .int .i64 2, .int .i64 2, .int .i64 1, .int .i64 1] 3) none
            have hIb := hIr.keep gA
            have hlb := hlx.keep gA
            have hGb := grown_trans hGx gA
            have hfl := World.block_lt_of_cell? _ _ hfc
            go_wp2
            generalize wr.alloc (.cells #[.int .i64 0, .int .i64 4, .int .i64 2, .int .i64 2, .int .i64 1, .int .i64 1] 3) = wb at *
            generalize wr.heap.size = gf at *
            have hnf : some gf ≠ some gl := by simp; omega
            have HHL : Hid (0 < j) := hc6
            clear gA hIr hlx hGx hgx hs3 hl3 hI3 hG3 hc66
            go_loopw [15] (fun i wy => ∃ (x : Nat) (f : Nat → Int), x ≤ n1 ∧ x ≤ fewN q ∧ i = .int .i64 x ∧ wb.grownBy wy (some gl) ∧ IRow wy gl 3 j f ∧ (∀ i, i < j → f i = 7 ∨ f i = -7) ∧ badN (lisI j f) L j ≤ x) (fun i _ => fewN q - (intOf i).toNat)
            case atStart => exact ⟨0, f0, by omega, by omega, rfl, World.grownBy.refl _ _, hIb, hsm, by rw [hbz]; exact Nat.le_refl _⟩
            case round =>
              obtain ⟨x, f, hx1, hx2, rfl, hgy, hI, hfs, hbd⟩ := hrel
              have HFS : Hid (∀ i, i < j → f i = 7 ∨ f i = -7) := hfs
              have HBD : Hid (badN (lisI j f) L j ≤ x) := hbd
              have hGy := grown_far hGb hgy (fun g e => by cases e; exact hgl)
              have cfew := (World.cell?_of_block (w := wb) (a := ⟨gf, q, none⟩) (hgy.block gf hfl hnf)).trans hfc
              have hq6 : (q : Int) < 6 := by omega
              clear hfs hbd
              by_cases hl2 : x < n1 ∧ x < fewN q
              · obtain ⟨hla, hlb2⟩ := hl2
                obtain ⟨b, off, e, hbw, hcc⟩ := (hat.keep hGy).at' (by omega)
                subst e
                have c0 := hcc x hla
                have hrj := hr x
                have hj32 : (j : Int) ≤ 9223372036854775807 := by omega
                have hj0 : (0 : Int) < (j : Int) := by omega
                generalize hfe : fewN q = fw at *
                clear hcc
                go_wp2_with (go_at_call 22; refine (picked_any _ j _ hrj.1 hrj.2 hj0 hj32).mono ?_; rintro e w1 ⟨v, hv, rfl, hw⟩; have hw := hw.symm; subst hw; have hvj : v < j := (by omega); have c1 := hI.cell v hvj; have f1 := hI.free v; have hy := HFS.out v hvj; have HST := fun y => hI.set v y; generalize hfv : f v = y at c1 hy; have hyb : -7 ≤ y ∧ y ≤ 7 := (by omega); obtain ⟨hyb1, hyb2⟩ := hyb)
                go_roundw
                case rel =>
                  refine ⟨x + 1, fun i => if i = v then -y else f i, by omega, by omega, by go_num, grown_trans hgy (grown_set _ _ _ _), HST (-y), fun i hi => ?_, ?_⟩
                  · show (if i = v then -y else f i) = 7 ∨ (if i = v then -y else f i) = -7
                    by_cases e : i = v
                    · rw [if_pos e]; omega
                    · rw [if_neg e]; exact HFS.out i hi
                  · have t1 := bad_set j f (fun i => if i = v then -y else f i) L v (fun i hi => if_neg hi) j (Nat.le_refl _)
                    have t2 := HBD.out
                    rw [if_pos hvj] at t1
                    omega
                case measure => simp [intOf]; omega
              · have hRd := hI.rdI (by omega)
                have hSb := lisI_bd j f (fun i hi => by have := HFS.out i hi; omega)
                have hgot : gotN (prV q (lisI j f)) k = bL P k := by
                  refine mends_fact q (bL P k) k (lisI j f) (bL_len P k) (bL_bit P k) hq1 hq5 ?_ ?_
                  · intro i hi
                    rw [← HM.out] at hi
                    rw [lisI_at j f i hi]; exact HFS.out i hi
                  · rw [← HM.out, ← HL.out]
                    exact Nat.le_trans HBD.out hx2
                have hGa := Gather_ok (some ⟨gl, 0, none⟩) j j k q (lisI j f) wr hRd (by omega) hq1 hq5 HM.out hSb
                rw [hgot] at hGa
                have hlr := hlb.grown' hgy hl3n
                generalize vN (prV q (lisI j f)) k (k + 6) 0 = cc at hGa
                clear hgot hSb hRd hI HBD HFS
                by_cases hla : x < n1
                · have hlf : ¬ x < fewN q := fun h => hl2 ⟨hla, h⟩
                  clear hl2
                  go_wp2_with (go_at_call 20; refine hGa.mono ?_; rintro e w5 ⟨a5, c5, rfl, hA5, g5⟩; have e1 := str_any w5 a5 k c5 (bL P k) hA5.rd; have e2 := str_any w5 ao k co (bL P k) (hlr.keep g5))
                  go_ret
                  exact ⟨rfl, (Below.refl _ _).grown (grown_trans hGy g5) (Nat.le_refl _) (fun k hk => by cases hk)⟩
                · clear hl2
                  go_wp2_with (go_at_call 20; refine hGa.mono ?_; rintro e w5 ⟨a5, c5, rfl, hA5, g5⟩; have e1 := str_any w5 a5 k c5 (bL P k) hA5.rd; have e2 := str_any w5 ao k co (bL P k) (hlr.keep g5))
                  go_ret
                  exact ⟨rfl, (Below.refl _ _).grown (grown_trans hGy g5) (Nat.le_refl _) (fun k hk => by cases hk)⟩
end Go.Proofs.Ytbgbohddkfaacaa
