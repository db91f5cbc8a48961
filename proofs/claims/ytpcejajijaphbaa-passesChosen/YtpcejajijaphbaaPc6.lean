import Derived.Test.YtpcejajijaphbaaPc4
namespace Go.Proofs.Ytpcejajijaphbaa
open Go.RowKit
set_option maxRecDepth 100000
set_option linter.unusedVariables false
set_option linter.unusedSimpArgs false

section
theorem wpAnyY_skipR {P : Program} {ops : Array Oper} {Q : Exit → Act → World → Prop} {md : Region.Mode} {S : World → Prop} {Z : List Nat} (i : Nat) {oi : Oper} {fuel : Nat} {listed : Array Bool} {a : Act} {w : World} (hi : ops[i]? = some oi)
    (hs : (Region.noSelect ops && Region.free md ops listed i && (Region.ready md ops listed).contains i) = true)
    (hQ : ∀ c a w, Q (.panic c) (a.put oi.dst undef) w → Q (.panic c) a w) (hw : Region.wanted oi (yielded ops a.tmps) = false)
    (h : wpAnyY P md ops Q S Z fuel (listed.setIfInBounds i true) (a.put oi.dst undef) w) : wpAnyY P md ops Q S Z (fuel + 1) listed a w := by
  simp only [Bool.and_eq_true, List.contains_iff_mem] at hs
  exact wpAnyY_firstF hi (Region.noSelect_spec hs.1.1) hQ fuel listed a w (Region.free_spec hi hs.1.2) hs.2 (.inr ⟨hw, rfl⟩) h
set_option maxHeartbeats 32000000 in
theorem best_A (w : World) (lo g5 g2 g8 g3 i : Nat) (ra : Option Addr) (rn rc : Nat) (gs : List Nat) (Rs : List Rv) (la : Option Addr) (ln lc : Nat) (F : Nat → Pa) (g : Int) (b5 : BxS w g5 52 #[.slice ra rn rc]) (hR : RsM w lo ra rn rc gs Rs) (b2 : BxS w g2 22 #[.slice la ln lc]) (hP : RdPa w la ln lc F) (b8 : BxS w g8 3 #[.int .i64 (i : Int)]) (b3 : BxS w g3 3 #[.int .i64 g]) (hi : i < ln) (hok : (F i).ok) (hg : 0 ≤ g ∧ g ≤ 1000) (hin : ∀ r, r ∈ Rs → hdP r < ln) (hlo : lo ≤ w.heap.size) (hrn : rn ≤ 1000) :
    Calls Try.prog 19 #[.func (.func 22) #[] #[.pointer (some ⟨g2, 0, none⟩), .pointer (some ⟨g8, 0, none⟩), .pointer (some ⟨g3, 0, none⟩)], .pointer (some ⟨g5, 0, none⟩), .pointer (some ⟨g2, 0, none⟩)] w fun e w' => ∃ gt, e = .returned (.pointer (some ⟨gt, 0, none⟩)) ∧ Nd w' lo (topF (fun p => mf (F i) (F p) g) Rs ([], 0)).1 (topF (fun p => mf (F i) (F p) g) Rs ([], 0)).2 gt ∧ w.grownBy w' none := by
  obtain ⟨may, hmay⟩ : ∃ may : Nat → Bool, may = (fun p => mf (F i) (F p) g) := ⟨_, rfl⟩
  have HMay : ∀ wz, w.grownBy wz none → ∀ q, Calls Try.prog 22 #[.agg (F q).arr, .pointer (some ⟨g2, 0, none⟩), .pointer (some ⟨g8, 0, none⟩), .pointer (some ⟨g3, 0, none⟩)] wz fun e w' => e = .returned (.bool (may q)) ∧ wz.grownBy w' none := fun wz gz q => by
    rw [hmay]
    exact may_any wz g2 g8 g3 la ln lc i F g (F q) (b2.keep gz (by simp)) (hP.keep gz) (b8.keep gz (by simp)) (b3.keep gz (by simp)) hi hok hg
  rw [← hmay]
  clear hmay
  have HIN : Hid _ := hin
  clear hin
  have hnl := hR.nl
  have HNL : Hid _ := hnl
  have c5 : w.cell? ⟨g5, 0, none⟩ = some (.slice ra rn rc) := b5.cell1
  have hZ := BxS.new w 49 #[.int .i64 0, .pointer none, .int .i64 0, .int .i64 0]
  have GZ := World.grownBy_alloc w (.cells #[.int .i64 0, .pointer none, .int .i64 0, .int .i64 0] 49) none
  have hT0 : Nd (w.alloc (.cells #[.int .i64 0, .pointer none, .int .i64 0, .int .i64 0] 49)) lo [] 0 w.heap.size := ⟨hlo, rfl, hZ⟩
  have c51 : (w.alloc (.cells #[.int .i64 0, .pointer none, .int .i64 0, .int .i64 0] 49)).cell? ⟨g5, 0, none⟩ = some (.slice ra rn rc) := (b5.keep GZ (by simp)).cell1
  have hcap := hR.o.max
  unfold maxLen at hcap
  clear hnl
  go_enter Try.func19, Try.ntmps19
  refine wp_seq_k fun K0 hK0 => ?_
  have HK0 : Hid _ := hK0
  clear hK0
  go_wp2
  refine HK0.out _ _ ?_
  clear HK0
  refine wp_seq_k fun K1 hK1 => ?_
  have HK1 : Hid _ := hK1
  clear hK1
  go_wp2
  refine HK1.out _ _ ?_
  clear HK1
  change Code.wp Try.prog _ _ _ (w.alloc (.cells #[.int .i64 0, .pointer none, .int .i64 0, .int .i64 0] 49))
  generalize w.alloc (.cells #[.int .i64 0, .pointer none, .int .i64 0, .int .i64 0] 49) = w1 at *
  obtain ⟨g0, hg0⟩ : ∃ g, w.heap.size = g := ⟨_, rfl⟩
  rw [hg0] at hT0 ⊢
  clear hg0
  refine wp_seq_k fun K3 hK3 => ?_
  have HK3 : Hid _ := hK3
  clear hK3
  go_wp2
  go_loopw [12, 5, 7] (fun v12 v5 v7 wr => ∃ (k gt : Nat), k ≤ rn ∧ v12 = .int .i64 k ∧ v5 = .pointer (some ⟨gt, 0, none⟩) ∧ Nd wr lo (topF may (Rs.take k) ([], 0)).1 (topF may (Rs.take k) ([], 0)).2 gt ∧ w.grownBy wr none) (fun v12 v5 v7 _ => rn - (intOf v12).toNat)
  case atStart => exact ⟨0, g0, Nat.zero_le _, rfl, rfl, hT0, GZ⟩
  case round =>
    obtain ⟨k, gt, hk, rfl, rfl, hT, GR⟩ := hrel
    by_cases hlt : k < rn
    · have lk : (k : Int) < (rn : Int) := by omega
      have hnl := HNL.out
      obtain ⟨r, hrk⟩ : ∃ r, Rs[k]? = some r := ⟨Rs[k]'(by omega), List.getElem?_eq_getElem _⟩
      have hgl := hR.len
      obtain ⟨gk, hgk⟩ : ∃ gk, gs[k]? = some gk := ⟨gs[k]'(by omega), List.getElem?_eq_getElem _⟩
      have hRr := hR.keep GR
      have hrn := hRr.nd k gk r hgk hrk
      obtain ⟨pk, hpk, bk⟩ := hrn.box
      obtain ⟨pt, hpt, hbt⟩ := hT.box
      have hq := HIN.out r (List.mem_of_getElem? hrk)
      have HRK : Hid _ := hrk
      have hPr := hP.keep GR
      obtain ⟨lb, lf, hla, hlbr, hlr⟩ := hPr.at' (by omega)
      have hrr := hlr _ hq
      have b2r := b2.keep GR (by simp)
      rw [hla] at b2r
      have hqi : (hdP r : Int) < (ln : Int) := by omega
      have hpmx := hP.max
      have hple := hP.le
      unfold maxLen at hpmx
      rcases hRr.o.cases with ⟨_, h9, _⟩ | ⟨gr, hra, _, _⟩
      · omega
      have cr : wr.cell? ⟨gr, k, none⟩ = some (.pointer (some ⟨gk, 0, none⟩)) := by
        have hO := hRr.o
        rw [hra] at hO
        exact hO.cell k _ (by rw [List.getElem?_map, hgk]; rfl)
      subst hra
      clear hlr hla hgk hrk hnl hgl hRr hPr hR hP
      obtain ⟨mv, hmv⟩ : ∃ mv, may (hdP r) = mv := ⟨_, rfl⟩
      have HMV : Hid _ := hmv
      clear hmv
      refine wp_seq_k fun K1 hK1 => ?_
      have HK1 : Hid _ := hK1
      clear hK1
      go_wp2
      refine HK1.out _ _ ?_
      clear HK1
      refine wp_seq_k fun K4 hK4 => ?_
      have HK4 : Hid _ := hK4
      clear hK4
      go_wp2
      refine HK4.out _ _ ?_
      clear HK4
      refine wp_seq_k fun K2 hK2 => ?_
      have HK2 : Hid _ := hK2
      clear hK2
      refine wp_block ?_
      refine wp_seq_k fun K6 hK6 => ?_
      have HK6 : Hid _ := hK6
      clear hK6
      go_wp2
      refine HK6.out _ _ ?_
      clear HK6
      cases mv with
      | false =>
        refine wp_seq_k fun K5 hK5 => ?_
        have HK5 : Hid _ := hK5
        clear hK5
        have Gd := grown_drew wr none
        have bd := b2r.keep Gd (by simp)
        have bkd := bk.keep Gd (by simp)
        have hrd := range_keep hrr hlbr Gd
        have hTd := hT.keep Gd
        have SS : BxS wr.drew g2 22 #[.slice (some ⟨lb, lf, none⟩) ln lc] ∧ BxS wr.drew gk 49 #[.int .i64 (hdP r : Int), pk, .int .i64 r.2, .int .i64 (r.1.length : Int)] ∧ wr.drew.rangeAt lb (lf + hdP r * 4) (F (hdP r)).cells := ⟨bd, bkd, hrd⟩
        refine wp_regionM (fun wz => BxS wz g2 22 #[.slice (some ⟨lb, lf, none⟩) ln lc] ∧ BxS wz gk 49 #[.int .i64 (hdP r : Int), pk, .int .i64 r.2, .int .i64 (r.1.length : Int)] ∧ wz.rangeAt lb (lf + hdP r * 4) (F (hdP r)).cells) [] #[false, false, false, false, false, false, false, false, false, false, false, false, false, false] rfl (by kernel_rfl) ?_
        have GW := grown_trans GR Gd
        generalize wr.drew = wd at *
        refine wpAnyY_takeF 0 (.func (.func 22) #[] #[.pointer (some ⟨g2, 0, none⟩), .pointer (some ⟨g8, 0, none⟩), .pointer (some ⟨g3, 0, none⟩)]) rfl (by kernel_rfl) (fun _ _ _ h => h) rfl (by intro wz; go_simp; try rfl) ?_
        try simp only [List.getElem_toArray, List.getElem_cons_succ, List.getElem_cons_zero, Act.put, List.setIfInBounds_toArray, List.set_cons_zero, List.set_cons_succ]
        refine wpAnyY_take [] 1 (.slice (some ⟨lb, lf, none⟩) ln lc) rfl (by kernel_rfl) (fun _ _ _ h => h) SS rfl (by rintro wz ⟨z1, z2, z3⟩; have z := z1.cell1; go_simp) ?_
        try simp only [List.getElem_toArray, List.getElem_cons_succ, List.getElem_cons_zero, Act.put, List.setIfInBounds_toArray, List.set_cons_zero, List.set_cons_succ]
        refine wpAnyY_takeF 2 (.pointer (some ⟨gk, 0, none⟩)) rfl (by kernel_rfl) (fun _ _ _ h => h) rfl (by intro wz; go_simp; try rfl) ?_
        try simp only [List.getElem_toArray, List.getElem_cons_succ, List.getElem_cons_zero, Act.put, List.setIfInBounds_toArray, List.set_cons_zero, List.set_cons_succ]
        refine wpAnyY_takeF 3 (.pointer (some ⟨gk, 0, none⟩)) rfl (by kernel_rfl) (fun _ _ _ h => h) rfl (by intro wz; go_simp; try rfl) ?_
        try simp only [List.getElem_toArray, List.getElem_cons_succ, List.getElem_cons_zero, Act.put, List.setIfInBounds_toArray, List.set_cons_zero, List.set_cons_succ]
        refine wpAnyY_takeF 4 (.pointer (some ⟨gk, 0, none⟩)) rfl (by kernel_rfl) (fun _ _ _ h => h) rfl (by intro wz; go_simp; try rfl) ?_
        try simp only [List.getElem_toArray, List.getElem_cons_succ, List.getElem_cons_zero, Act.put, List.setIfInBounds_toArray, List.set_cons_zero, List.set_cons_succ]
        refine wpAnyY_take [] 5 (.int .i64 (hdP r : Int)) rfl (by kernel_rfl) (fun _ _ _ h => h) SS rfl (by rintro wz ⟨z1, z2, z3⟩; have z : wz.cell? ⟨gk, 0, none⟩ = some (.int .i64 (hdP r : Int)) := z2.cell 0 (by show 0 < 4; decide); go_simp) ?_
        try simp only [List.getElem_toArray, List.getElem_cons_succ, List.getElem_cons_zero, Act.put, List.setIfInBounds_toArray, List.set_cons_zero, List.set_cons_succ]
        refine wpAnyY_takeF 6 (.pointer (some ⟨lb, lf + hdP r * 4, none⟩)) rfl (by kernel_rfl) (fun _ _ _ h => h) rfl (by intro wz; go_simp; try rfl) ?_
        try simp only [List.getElem_toArray, List.getElem_cons_succ, List.getElem_cons_zero, Act.put, List.setIfInBounds_toArray, List.set_cons_zero, List.set_cons_succ]
        refine wpAnyY_take [] 7 (.agg #[.int .i64 (F (hdP r)).st, .int .i64 (F (hdP r)).fr, .int .i64 (F (hdP r)).to', .int .i64 (F (hdP r)).wo]) rfl (by kernel_rfl) (fun _ _ _ h => h) SS rfl (by rintro wz ⟨z1, z2, z3⟩; exact ldMR rfl rfl z3 Try.underlying29 rfl Try.info_pa) ?_
        try simp only [List.getElem_toArray, List.getElem_cons_succ, List.getElem_cons_zero, Act.put, List.setIfInBounds_toArray, List.set_cons_zero, List.set_cons_succ]
        refine wpAnyY_oneB 8 rfl (by kernel_rfl) (fun KK hKK => ?_)
        go_simp
        go_at_call 22
        refine (HMay wd GW (hdP r)).mono ?_
        rintro e w6 ⟨rfl, y6⟩
        dsimp only
        rw [HMV.out]
        refine hKK _ _ (fun h _ => ⟨h.1.keep y6 (by simp), h.2.1.keep y6 (by simp), range_keep h.2.2 (Nat.lt_of_lt_of_le hlbr Gd.size) y6⟩) ?_
        try simp only [List.getElem_toArray, List.getElem_cons_succ, List.getElem_cons_zero, Act.put, List.setIfInBounds_toArray, List.set_cons_zero, List.set_cons_succ]
        refine wpAnyY_takeF 9 (.bool false) rfl (by kernel_rfl) (fun _ _ _ h => h) rfl (by intro wz; go_simp; try rfl) ?_
        try simp only [List.getElem_toArray, List.getElem_cons_succ, List.getElem_cons_zero, Act.put, List.setIfInBounds_toArray, List.set_cons_zero, List.set_cons_succ]
        refine wpAnyY_skipR 10 rfl (by kernel_rfl) (fun _ _ _ h => h) rfl ?_
        try simp only [List.getElem_toArray, List.getElem_cons_succ, List.getElem_cons_zero, Act.put, List.setIfInBounds_toArray, List.set_cons_zero, List.set_cons_succ]
        refine wpAnyY_skipR 11 rfl (by kernel_rfl) (fun _ _ _ h => h) rfl ?_
        try simp only [List.getElem_toArray, List.getElem_cons_succ, List.getElem_cons_zero, Act.put, List.setIfInBounds_toArray, List.set_cons_zero, List.set_cons_succ]
        refine wpAnyY_skipR 12 rfl (by kernel_rfl) (fun _ _ _ h => h) rfl ?_
        try simp only [List.getElem_toArray, List.getElem_cons_succ, List.getElem_cons_zero, Act.put, List.setIfInBounds_toArray, List.set_cons_zero, List.set_cons_succ]
        refine wpAnyY_takeF 13 (.bool false) rfl (by kernel_rfl) (fun _ _ _ h => h) rfl (by intro wz; go_simp; try rfl) ?_
        try simp only [List.getElem_toArray, List.getElem_cons_succ, List.getElem_cons_zero, Act.put, List.setIfInBounds_toArray, List.set_cons_zero, List.set_cons_succ]
        refine wpAnyY_doneB (by kernel_rfl) ?_ _
        refine HK5.out _ _ ?_
        clear HK5
        go_wp2
        refine HK2.out _ _ ?_
        clear HK2
        go_wp2
        go_roundw
        case rel =>
          refine ⟨k + 1, gt, by omega, by go_num, rfl, ?_, grown_trans GR (grown_trans Gd y6)⟩
          have e : topF may (Rs.take (k + 1)) ([], 0) = topF may (Rs.take k) ([], 0) := by
            rw [List.take_add_one, HRK.out]
            show topF may (Rs.take k ++ [r]) ([], 0) = _
            rw [top_app, HMV.out]
            rfl
          rw [e]
          exact hT.keep (grown_trans Gd y6)
        case measure => simp [intOf] <;> omega
      | true =>
        obtain ⟨bt, hbtv⟩ : ∃ bt, btB r (topF may (Rs.take k) ([], 0)) = bt := ⟨_, rfl⟩
        have HBT : Hid _ := hbtv
        clear hbtv
        cases bt with
        | false =>
          refine wp_seq_k fun K5 hK5 => ?_
          have HK5 : Hid _ := hK5
          clear hK5
          have Gd := grown_drew wr none
          have bd := b2r.keep Gd (by simp)
          have bkd := bk.keep Gd (by simp)
          have hrd := range_keep hrr hlbr Gd
          have hTd := hT.keep Gd
          have SS : BxS wr.drew g2 22 #[.slice (some ⟨lb, lf, none⟩) ln lc] ∧ BxS wr.drew gk 49 #[.int .i64 (hdP r : Int), pk, .int .i64 r.2, .int .i64 (r.1.length : Int)] ∧ wr.drew.rangeAt lb (lf + hdP r * 4) (F (hdP r)).cells := ⟨bd, bkd, hrd⟩
          refine wp_regionM (fun wz => BxS wz g2 22 #[.slice (some ⟨lb, lf, none⟩) ln lc] ∧ BxS wz gk 49 #[.int .i64 (hdP r : Int), pk, .int .i64 r.2, .int .i64 (r.1.length : Int)] ∧ wz.rangeAt lb (lf + hdP r * 4) (F (hdP r)).cells) [] #[false, false, false, false, false, false, false, false, false, false, false, false, false, false] rfl (by kernel_rfl) ?_
          have GW := grown_trans GR Gd
          generalize wr.drew = wd at *
          refine wpAnyY_takeF 0 (.func (.func 22) #[] #[.pointer (some ⟨g2, 0, none⟩), .pointer (some ⟨g8, 0, none⟩), .pointer (some ⟨g3, 0, none⟩)]) rfl (by kernel_rfl) (fun _ _ _ h => h) rfl (by intro wz; go_simp; try rfl) ?_
          try simp only [List.getElem_toArray, List.getElem_cons_succ, List.getElem_cons_zero, Act.put, List.setIfInBounds_toArray, List.set_cons_zero, List.set_cons_succ]
          refine wpAnyY_take [] 1 (.slice (some ⟨lb, lf, none⟩) ln lc) rfl (by kernel_rfl) (fun _ _ _ h => h) SS rfl (by rintro wz ⟨z1, z2, z3⟩; have z := z1.cell1; go_simp) ?_
          try simp only [List.getElem_toArray, List.getElem_cons_succ, List.getElem_cons_zero, Act.put, List.setIfInBounds_toArray, List.set_cons_zero, List.set_cons_succ]
          refine wpAnyY_takeF 2 (.pointer (some ⟨gk, 0, none⟩)) rfl (by kernel_rfl) (fun _ _ _ h => h) rfl (by intro wz; go_simp; try rfl) ?_
          try simp only [List.getElem_toArray, List.getElem_cons_succ, List.getElem_cons_zero, Act.put, List.setIfInBounds_toArray, List.set_cons_zero, List.set_cons_succ]
          refine wpAnyY_takeF 3 (.pointer (some ⟨gk, 0, none⟩)) rfl (by kernel_rfl) (fun _ _ _ h => h) rfl (by intro wz; go_simp; try rfl) ?_
          try simp only [List.getElem_toArray, List.getElem_cons_succ, List.getElem_cons_zero, Act.put, List.setIfInBounds_toArray, List.set_cons_zero, List.set_cons_succ]
          refine wpAnyY_takeF 4 (.pointer (some ⟨gk, 0, none⟩)) rfl (by kernel_rfl) (fun _ _ _ h => h) rfl (by intro wz; go_simp; try rfl) ?_
          try simp only [List.getElem_toArray, List.getElem_cons_succ, List.getElem_cons_zero, Act.put, List.setIfInBounds_toArray, List.set_cons_zero, List.set_cons_succ]
          refine wpAnyY_take [] 5 (.int .i64 (hdP r : Int)) rfl (by kernel_rfl) (fun _ _ _ h => h) SS rfl (by rintro wz ⟨z1, z2, z3⟩; have z : wz.cell? ⟨gk, 0, none⟩ = some (.int .i64 (hdP r : Int)) := z2.cell 0 (by show 0 < 4; decide); go_simp) ?_
          try simp only [List.getElem_toArray, List.getElem_cons_succ, List.getElem_cons_zero, Act.put, List.setIfInBounds_toArray, List.set_cons_zero, List.set_cons_succ]
          refine wpAnyY_takeF 6 (.pointer (some ⟨lb, lf + hdP r * 4, none⟩)) rfl (by kernel_rfl) (fun _ _ _ h => h) rfl (by intro wz; go_simp; try rfl) ?_
          try simp only [List.getElem_toArray, List.getElem_cons_succ, List.getElem_cons_zero, Act.put, List.setIfInBounds_toArray, List.set_cons_zero, List.set_cons_succ]
          refine wpAnyY_take [] 7 (.agg #[.int .i64 (F (hdP r)).st, .int .i64 (F (hdP r)).fr, .int .i64 (F (hdP r)).to', .int .i64 (F (hdP r)).wo]) rfl (by kernel_rfl) (fun _ _ _ h => h) SS rfl (by rintro wz ⟨z1, z2, z3⟩; exact ldMR rfl rfl z3 Try.underlying29 rfl Try.info_pa) ?_
          try simp only [List.getElem_toArray, List.getElem_cons_succ, List.getElem_cons_zero, Act.put, List.setIfInBounds_toArray, List.set_cons_zero, List.set_cons_succ]
          refine wpAnyY_oneB 8 rfl (by kernel_rfl) (fun KK hKK => ?_)
          go_simp
          go_at_call 22
          refine (HMay wd GW (hdP r)).mono ?_
          rintro e w6 ⟨rfl, y6⟩
          dsimp only
          rw [HMV.out]
          refine hKK _ _ (fun h _ => ⟨h.1.keep y6 (by simp), h.2.1.keep y6 (by simp), range_keep h.2.2 (Nat.lt_of_lt_of_le hlbr Gd.size) y6⟩) ?_
          try simp only [List.getElem_toArray, List.getElem_cons_succ, List.getElem_cons_zero, Act.put, List.setIfInBounds_toArray, List.set_cons_zero, List.set_cons_succ]
          refine wpAnyY_takeF 9 (.bool true) rfl (by kernel_rfl) (fun _ _ _ h => h) rfl (by intro wz; go_simp; try rfl) ?_
          try simp only [List.getElem_toArray, List.getElem_cons_succ, List.getElem_cons_zero, Act.put, List.setIfInBounds_toArray, List.set_cons_zero, List.set_cons_succ]
          refine wpAnyY_takeF 10 (.pointer (some ⟨gk, 0, none⟩)) rfl (by kernel_rfl) (fun _ _ _ h => h) rfl (by intro wz; go_simp; try rfl) ?_
          try simp only [List.getElem_toArray, List.getElem_cons_succ, List.getElem_cons_zero, Act.put, List.setIfInBounds_toArray, List.set_cons_zero, List.set_cons_succ]
          refine wpAnyY_takeF 11 (.pointer (some ⟨gt, 0, none⟩)) rfl (by kernel_rfl) (fun _ _ _ h => h) rfl (by intro wz; go_simp; try rfl) ?_
          try simp only [List.getElem_toArray, List.getElem_cons_succ, List.getElem_cons_zero, Act.put, List.setIfInBounds_toArray, List.set_cons_zero, List.set_cons_succ]
          refine wpAnyY_oneB 12 rfl (by kernel_rfl) (fun KK hKK => ?_)
          go_simp
          go_at_call 20
          refine (better_any r (topF may (Rs.take k) ([], 0)) gk gt pk pt w6 (bkd.keep y6 (by simp)) ((hbt.keep Gd (by simp)).keep y6 (by simp))).mono ?_
          rintro e w7 ⟨rfl, y7⟩
          dsimp only
          rw [HBT.out]
          refine hKK _ _ (fun h _ => ⟨h.1.keep y7 (by simp), h.2.1.keep y7 (by simp), range_keep h.2.2 (Nat.lt_of_lt_of_le (Nat.lt_of_lt_of_le hlbr Gd.size) y6.size) y7⟩) ?_
          try simp only [List.getElem_toArray, List.getElem_cons_succ, List.getElem_cons_zero, Act.put, List.setIfInBounds_toArray, List.set_cons_zero, List.set_cons_succ]
          refine wpAnyY_takeF 13 (.bool false) rfl (by kernel_rfl) (fun _ _ _ h => h) rfl (by intro wz; go_simp; try rfl) ?_
          try simp only [List.getElem_toArray, List.getElem_cons_succ, List.getElem_cons_zero, Act.put, List.setIfInBounds_toArray, List.set_cons_zero, List.set_cons_succ]
          refine wpAnyY_doneB (by kernel_rfl) ?_ _
          refine HK5.out _ _ ?_
          clear HK5
          go_wp2
          refine HK2.out _ _ ?_
          clear HK2
          go_wp2
          go_roundw
          case rel =>
            refine ⟨k + 1, gt, by omega, by go_num, rfl, ?_, grown_trans GR (grown_trans Gd (grown_trans y6 y7))⟩
            have e : topF may (Rs.take (k + 1)) ([], 0) = topF may (Rs.take k) ([], 0) := by
              rw [List.take_add_one, HRK.out]
              show topF may (Rs.take k ++ [r]) ([], 0) = _
              rw [top_app, HMV.out, HBT.out]
              rfl
            rw [e]
            exact hT.keep (grown_trans Gd (grown_trans y6 y7))
          case measure => simp [intOf] <;> omega
        | true =>
          refine wp_seq_k fun K5 hK5 => ?_
          have HK5 : Hid _ := hK5
          clear hK5
          have Gd := grown_drew wr none
          have bd := b2r.keep Gd (by simp)
          have bkd := bk.keep Gd (by simp)
          have hrd := range_keep hrr hlbr Gd
          have hTd := hT.keep Gd
          have SS : BxS wr.drew g2 22 #[.slice (some ⟨lb, lf, none⟩) ln lc] ∧ BxS wr.drew gk 49 #[.int .i64 (hdP r : Int), pk, .int .i64 r.2, .int .i64 (r.1.length : Int)] ∧ wr.drew.rangeAt lb (lf + hdP r * 4) (F (hdP r)).cells := ⟨bd, bkd, hrd⟩
          refine wp_regionM (fun wz => BxS wz g2 22 #[.slice (some ⟨lb, lf, none⟩) ln lc] ∧ BxS wz gk 49 #[.int .i64 (hdP r : Int), pk, .int .i64 r.2, .int .i64 (r.1.length : Int)] ∧ wz.rangeAt lb (lf + hdP r * 4) (F (hdP r)).cells) [] #[false, false, false, false, false, false, false, false, false, false, false, false, false, false] rfl (by kernel_rfl) ?_
          have GW := grown_trans GR Gd
          generalize wr.drew = wd at *
          refine wpAnyY_takeF 0 (.func (.func 22) #[] #[.pointer (some ⟨g2, 0, none⟩), .pointer (some ⟨g8, 0, none⟩), .pointer (some ⟨g3, 0, none⟩)]) rfl (by kernel_rfl) (fun _ _ _ h => h) rfl (by intro wz; go_simp; try rfl) ?_
          try simp only [List.getElem_toArray, List.getElem_cons_succ, List.getElem_cons_zero, Act.put, List.setIfInBounds_toArray, List.set_cons_zero, List.set_cons_succ]
          refine wpAnyY_take [] 1 (.slice (some ⟨lb, lf, none⟩) ln lc) rfl (by kernel_rfl) (fun _ _ _ h => h) SS rfl (by rintro wz ⟨z1, z2, z3⟩; have z := z1.cell1; go_simp) ?_
          try simp only [List.getElem_toArray, List.getElem_cons_succ, List.getElem_cons_zero, Act.put, List.setIfInBounds_toArray, List.set_cons_zero, List.set_cons_succ]
          refine wpAnyY_takeF 2 (.pointer (some ⟨gk, 0, none⟩)) rfl (by kernel_rfl) (fun _ _ _ h => h) rfl (by intro wz; go_simp; try rfl) ?_
          try simp only [List.getElem_toArray, List.getElem_cons_succ, List.getElem_cons_zero, Act.put, List.setIfInBounds_toArray, List.set_cons_zero, List.set_cons_succ]
          refine wpAnyY_takeF 3 (.pointer (some ⟨gk, 0, none⟩)) rfl (by kernel_rfl) (fun _ _ _ h => h) rfl (by intro wz; go_simp; try rfl) ?_
          try simp only [List.getElem_toArray, List.getElem_cons_succ, List.getElem_cons_zero, Act.put, List.setIfInBounds_toArray, List.set_cons_zero, List.set_cons_succ]
          refine wpAnyY_takeF 4 (.pointer (some ⟨gk, 0, none⟩)) rfl (by kernel_rfl) (fun _ _ _ h => h) rfl (by intro wz; go_simp; try rfl) ?_
          try simp only [List.getElem_toArray, List.getElem_cons_succ, List.getElem_cons_zero, Act.put, List.setIfInBounds_toArray, List.set_cons_zero, List.set_cons_succ]
          refine wpAnyY_take [] 5 (.int .i64 (hdP r : Int)) rfl (by kernel_rfl) (fun _ _ _ h => h) SS rfl (by rintro wz ⟨z1, z2, z3⟩; have z : wz.cell? ⟨gk, 0, none⟩ = some (.int .i64 (hdP r : Int)) := z2.cell 0 (by show 0 < 4; decide); go_simp) ?_
          try simp only [List.getElem_toArray, List.getElem_cons_succ, List.getElem_cons_zero, Act.put, List.setIfInBounds_toArray, List.set_cons_zero, List.set_cons_succ]
          refine wpAnyY_takeF 6 (.pointer (some ⟨lb, lf + hdP r * 4, none⟩)) rfl (by kernel_rfl) (fun _ _ _ h => h) rfl (by intro wz; go_simp; try rfl) ?_
          try simp only [List.getElem_toArray, List.getElem_cons_succ, List.getElem_cons_zero, Act.put, List.setIfInBounds_toArray, List.set_cons_zero, List.set_cons_succ]
          refine wpAnyY_take [] 7 (.agg #[.int .i64 (F (hdP r)).st, .int .i64 (F (hdP r)).fr, .int .i64 (F (hdP r)).to', .int .i64 (F (hdP r)).wo]) rfl (by kernel_rfl) (fun _ _ _ h => h) SS rfl (by rintro wz ⟨z1, z2, z3⟩; exact ldMR rfl rfl z3 Try.underlying29 rfl Try.info_pa) ?_
          try simp only [List.getElem_toArray, List.getElem_cons_succ, List.getElem_cons_zero, Act.put, List.setIfInBounds_toArray, List.set_cons_zero, List.set_cons_succ]
          refine wpAnyY_oneB 8 rfl (by kernel_rfl) (fun KK hKK => ?_)
          go_simp
          go_at_call 22
          refine (HMay wd GW (hdP r)).mono ?_
          rintro e w6 ⟨rfl, y6⟩
          dsimp only
          rw [HMV.out]
          refine hKK _ _ (fun h _ => ⟨h.1.keep y6 (by simp), h.2.1.keep y6 (by simp), range_keep h.2.2 (Nat.lt_of_lt_of_le hlbr Gd.size) y6⟩) ?_
          try simp only [List.getElem_toArray, List.getElem_cons_succ, List.getElem_cons_zero, Act.put, List.setIfInBounds_toArray, List.set_cons_zero, List.set_cons_succ]
          refine wpAnyY_takeF 9 (.bool true) rfl (by kernel_rfl) (fun _ _ _ h => h) rfl (by intro wz; go_simp; try rfl) ?_
          try simp only [List.getElem_toArray, List.getElem_cons_succ, List.getElem_cons_zero, Act.put, List.setIfInBounds_toArray, List.set_cons_zero, List.set_cons_succ]
          refine wpAnyY_takeF 10 (.pointer (some ⟨gk, 0, none⟩)) rfl (by kernel_rfl) (fun _ _ _ h => h) rfl (by intro wz; go_simp; try rfl) ?_
          try simp only [List.getElem_toArray, List.getElem_cons_succ, List.getElem_cons_zero, Act.put, List.setIfInBounds_toArray, List.set_cons_zero, List.set_cons_succ]
          refine wpAnyY_takeF 11 (.pointer (some ⟨gt, 0, none⟩)) rfl (by kernel_rfl) (fun _ _ _ h => h) rfl (by intro wz; go_simp; try rfl) ?_
          try simp only [List.getElem_toArray, List.getElem_cons_succ, List.getElem_cons_zero, Act.put, List.setIfInBounds_toArray, List.set_cons_zero, List.set_cons_succ]
          refine wpAnyY_oneB 12 rfl (by kernel_rfl) (fun KK hKK => ?_)
          go_simp
          go_at_call 20
          refine (better_any r (topF may (Rs.take k) ([], 0)) gk gt pk pt w6 (bkd.keep y6 (by simp)) ((hbt.keep Gd (by simp)).keep y6 (by simp))).mono ?_
          rintro e w7 ⟨rfl, y7⟩
          dsimp only
          rw [HBT.out]
          refine hKK _ _ (fun h _ => ⟨h.1.keep y7 (by simp), h.2.1.keep y7 (by simp), range_keep h.2.2 (Nat.lt_of_lt_of_le (Nat.lt_of_lt_of_le hlbr Gd.size) y6.size) y7⟩) ?_
          try simp only [List.getElem_toArray, List.getElem_cons_succ, List.getElem_cons_zero, Act.put, List.setIfInBounds_toArray, List.set_cons_zero, List.set_cons_succ]
          refine wpAnyY_takeF 13 (.bool true) rfl (by kernel_rfl) (fun _ _ _ h => h) rfl (by intro wz; go_simp; try rfl) ?_
          try simp only [List.getElem_toArray, List.getElem_cons_succ, List.getElem_cons_zero, Act.put, List.setIfInBounds_toArray, List.set_cons_zero, List.set_cons_succ]
          refine wpAnyY_doneB (by kernel_rfl) ?_ _
          refine HK5.out _ _ ?_
          clear HK5
          go_wp2
          refine HK2.out _ _ ?_
          clear HK2
          go_wp2
          go_roundw
          case rel =>
            refine ⟨k + 1, gk, by omega, by go_num, rfl, ?_, grown_trans GR (grown_trans Gd (grown_trans y6 y7))⟩
            have e : topF may (Rs.take (k + 1)) ([], 0) = r := by
              rw [List.take_add_one, HRK.out]
              show topF may (Rs.take k ++ [r]) ([], 0) = _
              rw [top_app, HMV.out, HBT.out]
              rfl
            rw [e]
            exact hrn.keep (grown_trans Gd (grown_trans y6 y7))
          case measure => simp [intOf] <;> omega
    · obtain rfl : k = rn := by omega
      have lk : ¬ (k : Int) < (k : Int) := by omega
      have hnl := HNL.out
      have e : Rs.take k = Rs := List.take_of_length_le (by omega)
      rw [e] at hT
      clear e hnl
      go_wp2
      refine HK3.out _ _ ?_
      clear HK3
      go_wp2
      first | go_ret | skip
      exact ⟨gt, rfl, hT, GR⟩
set_option maxHeartbeats 32000000 in
theorem best_B (w : World) (lo g5 g2 : Nat) (ra : Option Addr) (rn rc : Nat) (gs : List Nat) (Rs : List Rv) (la : Option Addr) (ln lc : Nat) (F : Nat → Pa) (b5 : BxS w g5 52 #[.slice ra rn rc]) (hR : RsM w lo ra rn rc gs Rs) (b2 : BxS w g2 22 #[.slice la ln lc]) (hP : RdPa w la ln lc F) (hin : ∀ r, r ∈ Rs → hdP r < ln) (hlo : lo ≤ w.heap.size) (hrn : rn ≤ 1000) :
    Calls Try.prog 19 #[.func (.func 24) #[] #[], .pointer (some ⟨g5, 0, none⟩), .pointer (some ⟨g2, 0, none⟩)] w fun e w' => ∃ gt, e = .returned (.pointer (some ⟨gt, 0, none⟩)) ∧ Nd w' lo (topF (fun _ => true) Rs ([], 0)).1 (topF (fun _ => true) Rs ([], 0)).2 gt ∧ w.grownBy w' none := by
  obtain ⟨may, hmay⟩ : ∃ may : Nat → Bool, may = (fun _ => true) := ⟨_, rfl⟩
  have HMay : ∀ wz, w.grownBy wz none → ∀ q, Calls Try.prog 24 #[.agg (F q).arr] wz fun e w' => e = .returned (.bool (may q)) ∧ wz.grownBy w' none := fun wz gz q => by
    rw [hmay]
    exact mayT_any wz (F q)
  rw [← hmay]
  clear hmay
  have HIN : Hid _ := hin
  clear hin
  have hnl := hR.nl
  have HNL : Hid _ := hnl
  have c5 : w.cell? ⟨g5, 0, none⟩ = some (.slice ra rn rc) := b5.cell1
  have hZ := BxS.new w 49 #[.int .i64 0, .pointer none, .int .i64 0, .int .i64 0]
  have GZ := World.grownBy_alloc w (.cells #[.int .i64 0, .pointer none, .int .i64 0, .int .i64 0] 49) none
  have hT0 : Nd (w.alloc (.cells #[.int .i64 0, .pointer none, .int .i64 0, .int .i64 0] 49)) lo [] 0 w.heap.size := ⟨hlo, rfl, hZ⟩
  have c51 : (w.alloc (.cells #[.int .i64 0, .pointer none, .int .i64 0, .int .i64 0] 49)).cell? ⟨g5, 0, none⟩ = some (.slice ra rn rc) := (b5.keep GZ (by simp)).cell1
  have hcap := hR.o.max
  unfold maxLen at hcap
  clear hnl
  go_enter Try.func19, Try.ntmps19
  refine wp_seq_k fun K0 hK0 => ?_
  have HK0 : Hid _ := hK0
  clear hK0
  go_wp2
  refine HK0.out _ _ ?_
  clear HK0
  refine wp_seq_k fun K1 hK1 => ?_
  have HK1 : Hid _ := hK1
  clear hK1
  go_wp2
  refine HK1.out _ _ ?_
  clear HK1
  change Code.wp Try.prog _ _ _ (w.alloc (.cells #[.int .i64 0, .pointer none, .int .i64 0, .int .i64 0] 49))
  generalize w.alloc (.cells #[.int .i64 0, .pointer none, .int .i64 0, .int .i64 0] 49) = w1 at *
  obtain ⟨g0, hg0⟩ : ∃ g, w.heap.size = g := ⟨_, rfl⟩
  rw [hg0] at hT0 ⊢
  clear hg0
  refine wp_seq_k fun K3 hK3 => ?_
  have HK3 : Hid _ := hK3
  clear hK3
  go_wp2
  go_loopw [12, 5, 7] (fun v12 v5 v7 wr => ∃ (k gt : Nat), k ≤ rn ∧ v12 = .int .i64 k ∧ v5 = .pointer (some ⟨gt, 0, none⟩) ∧ Nd wr lo (topF may (Rs.take k) ([], 0)).1 (topF may (Rs.take k) ([], 0)).2 gt ∧ w.grownBy wr none) (fun v12 v5 v7 _ => rn - (intOf v12).toNat)
  case atStart => exact ⟨0, g0, Nat.zero_le _, rfl, rfl, hT0, GZ⟩
  case round =>
    obtain ⟨k, gt, hk, rfl, rfl, hT, GR⟩ := hrel
    by_cases hlt : k < rn
    · have lk : (k : Int) < (rn : Int) := by omega
      have hnl := HNL.out
      obtain ⟨r, hrk⟩ : ∃ r, Rs[k]? = some r := ⟨Rs[k]'(by omega), List.getElem?_eq_getElem _⟩
      have hgl := hR.len
      obtain ⟨gk, hgk⟩ : ∃ gk, gs[k]? = some gk := ⟨gs[k]'(by omega), List.getElem?_eq_getElem _⟩
      have hRr := hR.keep GR
      have hrn := hRr.nd k gk r hgk hrk
      obtain ⟨pk, hpk, bk⟩ := hrn.box
      obtain ⟨pt, hpt, hbt⟩ := hT.box
      have hq := HIN.out r (List.mem_of_getElem? hrk)
      have HRK : Hid _ := hrk
      have hPr := hP.keep GR
      obtain ⟨lb, lf, hla, hlbr, hlr⟩ := hPr.at' (by omega)
      have hrr := hlr _ hq
      have b2r := b2.keep GR (by simp)
      rw [hla] at b2r
      have hqi : (hdP r : Int) < (ln : Int) := by omega
      have hpmx := hP.max
      have hple := hP.le
      unfold maxLen at hpmx
      rcases hRr.o.cases with ⟨_, h9, _⟩ | ⟨gr, hra, _, _⟩
      · omega
      have cr : wr.cell? ⟨gr, k, none⟩ = some (.pointer (some ⟨gk, 0, none⟩)) := by
        have hO := hRr.o
        rw [hra] at hO
        exact hO.cell k _ (by rw [List.getElem?_map, hgk]; rfl)
      subst hra
      clear hlr hla hgk hrk hnl hgl hRr hPr hR hP
      obtain ⟨mv, hmv⟩ : ∃ mv, may (hdP r) = mv := ⟨_, rfl⟩
      have HMV : Hid _ := hmv
      clear hmv
      refine wp_seq_k fun K1 hK1 => ?_
      have HK1 : Hid _ := hK1
      clear hK1
      go_wp2
      refine HK1.out _ _ ?_
      clear HK1
      refine wp_seq_k fun K4 hK4 => ?_
      have HK4 : Hid _ := hK4
      clear hK4
      go_wp2
      refine HK4.out _ _ ?_
      clear HK4
      refine wp_seq_k fun K2 hK2 => ?_
      have HK2 : Hid _ := hK2
      clear hK2
      refine wp_block ?_
      refine wp_seq_k fun K6 hK6 => ?_
      have HK6 : Hid _ := hK6
      clear hK6
      go_wp2
      refine HK6.out _ _ ?_
      clear HK6
      cases mv with
      | false =>
        refine wp_seq_k fun K5 hK5 => ?_
        have HK5 : Hid _ := hK5
        clear hK5
        have Gd := grown_drew wr none
        have bd := b2r.keep Gd (by simp)
        have bkd := bk.keep Gd (by simp)
        have hrd := range_keep hrr hlbr Gd
        have hTd := hT.keep Gd
        have SS : BxS wr.drew g2 22 #[.slice (some ⟨lb, lf, none⟩) ln lc] ∧ BxS wr.drew gk 49 #[.int .i64 (hdP r : Int), pk, .int .i64 r.2, .int .i64 (r.1.length : Int)] ∧ wr.drew.rangeAt lb (lf + hdP r * 4) (F (hdP r)).cells := ⟨bd, bkd, hrd⟩
        refine wp_regionM (fun wz => BxS wz g2 22 #[.slice (some ⟨lb, lf, none⟩) ln lc] ∧ BxS wz gk 49 #[.int .i64 (hdP r : Int), pk, .int .i64 r.2, .int .i64 (r.1.length : Int)] ∧ wz.rangeAt lb (lf + hdP r * 4) (F (hdP r)).cells) [] #[false, false, false, false, false, false, false, false, false, false, false, false, false, false] rfl (by kernel_rfl) ?_
        have GW := grown_trans GR Gd
        generalize wr.drew = wd at *
        refine wpAnyY_takeF 0 (.func (.func 24) #[] #[]) rfl (by kernel_rfl) (fun _ _ _ h => h) rfl (by intro wz; go_simp; try rfl) ?_
        try simp only [List.getElem_toArray, List.getElem_cons_succ, List.getElem_cons_zero, Act.put, List.setIfInBounds_toArray, List.set_cons_zero, List.set_cons_succ]
        refine wpAnyY_take [] 1 (.slice (some ⟨lb, lf, none⟩) ln lc) rfl (by kernel_rfl) (fun _ _ _ h => h) SS rfl (by rintro wz ⟨z1, z2, z3⟩; have z := z1.cell1; go_simp) ?_
        try simp only [List.getElem_toArray, List.getElem_cons_succ, List.getElem_cons_zero, Act.put, List.setIfInBounds_toArray, List.set_cons_zero, List.set_cons_succ]
        refine wpAnyY_takeF 2 (.pointer (some ⟨gk, 0, none⟩)) rfl (by kernel_rfl) (fun _ _ _ h => h) rfl (by intro wz; go_simp; try rfl) ?_
        try simp only [List.getElem_toArray, List.getElem_cons_succ, List.getElem_cons_zero, Act.put, List.setIfInBounds_toArray, List.set_cons_zero, List.set_cons_succ]
        refine wpAnyY_takeF 3 (.pointer (some ⟨gk, 0, none⟩)) rfl (by kernel_rfl) (fun _ _ _ h => h) rfl (by intro wz; go_simp; try rfl) ?_
        try simp only [List.getElem_toArray, List.getElem_cons_succ, List.getElem_cons_zero, Act.put, List.setIfInBounds_toArray, List.set_cons_zero, List.set_cons_succ]
        refine wpAnyY_takeF 4 (.pointer (some ⟨gk, 0, none⟩)) rfl (by kernel_rfl) (fun _ _ _ h => h) rfl (by intro wz; go_simp; try rfl) ?_
        try simp only [List.getElem_toArray, List.getElem_cons_succ, List.getElem_cons_zero, Act.put, List.setIfInBounds_toArray, List.set_cons_zero, List.set_cons_succ]
        refine wpAnyY_take [] 5 (.int .i64 (hdP r : Int)) rfl (by kernel_rfl) (fun _ _ _ h => h) SS rfl (by rintro wz ⟨z1, z2, z3⟩; have z : wz.cell? ⟨gk, 0, none⟩ = some (.int .i64 (hdP r : Int)) := z2.cell 0 (by show 0 < 4; decide); go_simp) ?_
        try simp only [List.getElem_toArray, List.getElem_cons_succ, List.getElem_cons_zero, Act.put, List.setIfInBounds_toArray, List.set_cons_zero, List.set_cons_succ]
        refine wpAnyY_takeF 6 (.pointer (some ⟨lb, lf + hdP r * 4, none⟩)) rfl (by kernel_rfl) (fun _ _ _ h => h) rfl (by intro wz; go_simp; try rfl) ?_
        try simp only [List.getElem_toArray, List.getElem_cons_succ, List.getElem_cons_zero, Act.put, List.setIfInBounds_toArray, List.set_cons_zero, List.set_cons_succ]
        refine wpAnyY_take [] 7 (.agg #[.int .i64 (F (hdP r)).st, .int .i64 (F (hdP r)).fr, .int .i64 (F (hdP r)).to', .int .i64 (F (hdP r)).wo]) rfl (by kernel_rfl) (fun _ _ _ h => h) SS rfl (by rintro wz ⟨z1, z2, z3⟩; exact ldMR rfl rfl z3 Try.underlying29 rfl Try.info_pa) ?_
        try simp only [List.getElem_toArray, List.getElem_cons_succ, List.getElem_cons_zero, Act.put, List.setIfInBounds_toArray, List.set_cons_zero, List.set_cons_succ]
        refine wpAnyY_oneB 8 rfl (by kernel_rfl) (fun KK hKK => ?_)
        go_simp
        go_at_call 24
        refine (HMay wd GW (hdP r)).mono ?_
        rintro e w6 ⟨rfl, y6⟩
        dsimp only
        rw [HMV.out]
        refine hKK _ _ (fun h _ => ⟨h.1.keep y6 (by simp), h.2.1.keep y6 (by simp), range_keep h.2.2 (Nat.lt_of_lt_of_le hlbr Gd.size) y6⟩) ?_
        try simp only [List.getElem_toArray, List.getElem_cons_succ, List.getElem_cons_zero, Act.put, List.setIfInBounds_toArray, List.set_cons_zero, List.set_cons_succ]
        refine wpAnyY_takeF 9 (.bool false) rfl (by kernel_rfl) (fun _ _ _ h => h) rfl (by intro wz; go_simp; try rfl) ?_
        try simp only [List.getElem_toArray, List.getElem_cons_succ, List.getElem_cons_zero, Act.put, List.setIfInBounds_toArray, List.set_cons_zero, List.set_cons_succ]
        refine wpAnyY_skipR 10 rfl (by kernel_rfl) (fun _ _ _ h => h) rfl ?_
        try simp only [List.getElem_toArray, List.getElem_cons_succ, List.getElem_cons_zero, Act.put, List.setIfInBounds_toArray, List.set_cons_zero, List.set_cons_succ]
        refine wpAnyY_skipR 11 rfl (by kernel_rfl) (fun _ _ _ h => h) rfl ?_
        try simp only [List.getElem_toArray, List.getElem_cons_succ, List.getElem_cons_zero, Act.put, List.setIfInBounds_toArray, List.set_cons_zero, List.set_cons_succ]
        refine wpAnyY_skipR 12 rfl (by kernel_rfl) (fun _ _ _ h => h) rfl ?_
        try simp only [List.getElem_toArray, List.getElem_cons_succ, List.getElem_cons_zero, Act.put, List.setIfInBounds_toArray, List.set_cons_zero, List.set_cons_succ]
        refine wpAnyY_takeF 13 (.bool false) rfl (by kernel_rfl) (fun _ _ _ h => h) rfl (by intro wz; go_simp; try rfl) ?_
        try simp only [List.getElem_toArray, List.getElem_cons_succ, List.getElem_cons_zero, Act.put, List.setIfInBounds_toArray, List.set_cons_zero, List.set_cons_succ]
        refine wpAnyY_doneB (by kernel_rfl) ?_ _
        refine HK5.out _ _ ?_
        clear HK5
        go_wp2
        refine HK2.out _ _ ?_
        clear HK2
        go_wp2
        go_roundw
        case rel =>
          refine ⟨k + 1, gt, by omega, by go_num, rfl, ?_, grown_trans GR (grown_trans Gd y6)⟩
          have e : topF may (Rs.take (k + 1)) ([], 0) = topF may (Rs.take k) ([], 0) := by
            rw [List.take_add_one, HRK.out]
            show topF may (Rs.take k ++ [r]) ([], 0) = _
            rw [top_app, HMV.out]
            rfl
          rw [e]
          exact hT.keep (grown_trans Gd y6)
        case measure => simp [intOf] <;> omega
      | true =>
        obtain ⟨bt, hbtv⟩ : ∃ bt, btB r (topF may (Rs.take k) ([], 0)) = bt := ⟨_, rfl⟩
        have HBT : Hid _ := hbtv
        clear hbtv
        cases bt with
        | false =>
          refine wp_seq_k fun K5 hK5 => ?_
          have HK5 : Hid _ := hK5
          clear hK5
          have Gd := grown_drew wr none
          have bd := b2r.keep Gd (by simp)
          have bkd := bk.keep Gd (by simp)
          have hrd := range_keep hrr hlbr Gd
          have hTd := hT.keep Gd
          have SS : BxS wr.drew g2 22 #[.slice (some ⟨lb, lf, none⟩) ln lc] ∧ BxS wr.drew gk 49 #[.int .i64 (hdP r : Int), pk, .int .i64 r.2, .int .i64 (r.1.length : Int)] ∧ wr.drew.rangeAt lb (lf + hdP r * 4) (F (hdP r)).cells := ⟨bd, bkd, hrd⟩
          refine wp_regionM (fun wz => BxS wz g2 22 #[.slice (some ⟨lb, lf, none⟩) ln lc] ∧ BxS wz gk 49 #[.int .i64 (hdP r : Int), pk, .int .i64 r.2, .int .i64 (r.1.length : Int)] ∧ wz.rangeAt lb (lf + hdP r * 4) (F (hdP r)).cells) [] #[false, false, false, false, false, false, false, false, false, false, false, false, false, false] rfl (by kernel_rfl) ?_
          have GW := grown_trans GR Gd
          generalize wr.drew = wd at *
          refine wpAnyY_takeF 0 (.func (.func 24) #[] #[]) rfl (by kernel_rfl) (fun _ _ _ h => h) rfl (by intro wz; go_simp; try rfl) ?_
          try simp only [List.getElem_toArray, List.getElem_cons_succ, List.getElem_cons_zero, Act.put, List.setIfInBounds_toArray, List.set_cons_zero, List.set_cons_succ]
          refine wpAnyY_take [] 1 (.slice (some ⟨lb, lf, none⟩) ln lc) rfl (by kernel_rfl) (fun _ _ _ h => h) SS rfl (by rintro wz ⟨z1, z2, z3⟩; have z := z1.cell1; go_simp) ?_
          try simp only [List.getElem_toArray, List.getElem_cons_succ, List.getElem_cons_zero, Act.put, List.setIfInBounds_toArray, List.set_cons_zero, List.set_cons_succ]
          refine wpAnyY_takeF 2 (.pointer (some ⟨gk, 0, none⟩)) rfl (by kernel_rfl) (fun _ _ _ h => h) rfl (by intro wz; go_simp; try rfl) ?_
          try simp only [List.getElem_toArray, List.getElem_cons_succ, List.getElem_cons_zero, Act.put, List.setIfInBounds_toArray, List.set_cons_zero, List.set_cons_succ]
          refine wpAnyY_takeF 3 (.pointer (some ⟨gk, 0, none⟩)) rfl (by kernel_rfl) (fun _ _ _ h => h) rfl (by intro wz; go_simp; try rfl) ?_
          try simp only [List.getElem_toArray, List.getElem_cons_succ, List.getElem_cons_zero, Act.put, List.setIfInBounds_toArray, List.set_cons_zero, List.set_cons_succ]
          refine wpAnyY_takeF 4 (.pointer (some ⟨gk, 0, none⟩)) rfl (by kernel_rfl) (fun _ _ _ h => h) rfl (by intro wz; go_simp; try rfl) ?_
          try simp only [List.getElem_toArray, List.getElem_cons_succ, List.getElem_cons_zero, Act.put, List.setIfInBounds_toArray, List.set_cons_zero, List.set_cons_succ]
          refine wpAnyY_take [] 5 (.int .i64 (hdP r : Int)) rfl (by kernel_rfl) (fun _ _ _ h => h) SS rfl (by rintro wz ⟨z1, z2, z3⟩; have z : wz.cell? ⟨gk, 0, none⟩ = some (.int .i64 (hdP r : Int)) := z2.cell 0 (by show 0 < 4; decide); go_simp) ?_
          try simp only [List.getElem_toArray, List.getElem_cons_succ, List.getElem_cons_zero, Act.put, List.setIfInBounds_toArray, List.set_cons_zero, List.set_cons_succ]
          refine wpAnyY_takeF 6 (.pointer (some ⟨lb, lf + hdP r * 4, none⟩)) rfl (by kernel_rfl) (fun _ _ _ h => h) rfl (by intro wz; go_simp; try rfl) ?_
          try simp only [List.getElem_toArray, List.getElem_cons_succ, List.getElem_cons_zero, Act.put, List.setIfInBounds_toArray, List.set_cons_zero, List.set_cons_succ]
          refine wpAnyY_take [] 7 (.agg #[.int .i64 (F (hdP r)).st, .int .i64 (F (hdP r)).fr, .int .i64 (F (hdP r)).to', .int .i64 (F (hdP r)).wo]) rfl (by kernel_rfl) (fun _ _ _ h => h) SS rfl (by rintro wz ⟨z1, z2, z3⟩; exact ldMR rfl rfl z3 Try.underlying29 rfl Try.info_pa) ?_
          try simp only [List.getElem_toArray, List.getElem_cons_succ, List.getElem_cons_zero, Act.put, List.setIfInBounds_toArray, List.set_cons_zero, List.set_cons_succ]
          refine wpAnyY_oneB 8 rfl (by kernel_rfl) (fun KK hKK => ?_)
          go_simp
          go_at_call 24
          refine (HMay wd GW (hdP r)).mono ?_
          rintro e w6 ⟨rfl, y6⟩
          dsimp only
          rw [HMV.out]
          refine hKK _ _ (fun h _ => ⟨h.1.keep y6 (by simp), h.2.1.keep y6 (by simp), range_keep h.2.2 (Nat.lt_of_lt_of_le hlbr Gd.size) y6⟩) ?_
          try simp only [List.getElem_toArray, List.getElem_cons_succ, List.getElem_cons_zero, Act.put, List.setIfInBounds_toArray, List.set_cons_zero, List.set_cons_succ]
          refine wpAnyY_takeF 9 (.bool true) rfl (by kernel_rfl) (fun _ _ _ h => h) rfl (by intro wz; go_simp; try rfl) ?_
          try simp only [List.getElem_toArray, List.getElem_cons_succ, List.getElem_cons_zero, Act.put, List.setIfInBounds_toArray, List.set_cons_zero, List.set_cons_succ]
          refine wpAnyY_takeF 10 (.pointer (some ⟨gk, 0, none⟩)) rfl (by kernel_rfl) (fun _ _ _ h => h) rfl (by intro wz; go_simp; try rfl) ?_
          try simp only [List.getElem_toArray, List.getElem_cons_succ, List.getElem_cons_zero, Act.put, List.setIfInBounds_toArray, List.set_cons_zero, List.set_cons_succ]
          refine wpAnyY_takeF 11 (.pointer (some ⟨gt, 0, none⟩)) rfl (by kernel_rfl) (fun _ _ _ h => h) rfl (by intro wz; go_simp; try rfl) ?_
          try simp only [List.getElem_toArray, List.getElem_cons_succ, List.getElem_cons_zero, Act.put, List.setIfInBounds_toArray, List.set_cons_zero, List.set_cons_succ]
          refine wpAnyY_oneB 12 rfl (by kernel_rfl) (fun KK hKK => ?_)
          go_simp
          go_at_call 20
          refine (better_any r (topF may (Rs.take k) ([], 0)) gk gt pk pt w6 (bkd.keep y6 (by simp)) ((hbt.keep Gd (by simp)).keep y6 (by simp))).mono ?_
          rintro e w7 ⟨rfl, y7⟩
          dsimp only
          rw [HBT.out]
          refine hKK _ _ (fun h _ => ⟨h.1.keep y7 (by simp), h.2.1.keep y7 (by simp), range_keep h.2.2 (Nat.lt_of_lt_of_le (Nat.lt_of_lt_of_le hlbr Gd.size) y6.size) y7⟩) ?_
          try simp only [List.getElem_toArray, List.getElem_cons_succ, List.getElem_cons_zero, Act.put, List.setIfInBounds_toArray, List.set_cons_zero, List.set_cons_succ]
          refine wpAnyY_takeF 13 (.bool false) rfl (by kernel_rfl) (fun _ _ _ h => h) rfl (by intro wz; go_simp; try rfl) ?_
          try simp only [List.getElem_toArray, List.getElem_cons_succ, List.getElem_cons_zero, Act.put, List.setIfInBounds_toArray, List.set_cons_zero, List.set_cons_succ]
          refine wpAnyY_doneB (by kernel_rfl) ?_ _
          refine HK5.out _ _ ?_
          clear HK5
          go_wp2
          refine HK2.out _ _ ?_
          clear HK2
          go_wp2
          go_roundw
          case rel =>
            refine ⟨k + 1, gt, by omega, by go_num, rfl, ?_, grown_trans GR (grown_trans Gd (grown_trans y6 y7))⟩
            have e : topF may (Rs.take (k + 1)) ([], 0) = topF may (Rs.take k) ([], 0) := by
              rw [List.take_add_one, HRK.out]
              show topF may (Rs.take k ++ [r]) ([], 0) = _
              rw [top_app, HMV.out, HBT.out]
              rfl
            rw [e]
            exact hT.keep (grown_trans Gd (grown_trans y6 y7))
          case measure => simp [intOf] <;> omega
        | true =>
          refine wp_seq_k fun K5 hK5 => ?_
          have HK5 : Hid _ := hK5
          clear hK5
          have Gd := grown_drew wr none
          have bd := b2r.keep Gd (by simp)
          have bkd := bk.keep Gd (by simp)
          have hrd := range_keep hrr hlbr Gd
          have hTd := hT.keep Gd
          have SS : BxS wr.drew g2 22 #[.slice (some ⟨lb, lf, none⟩) ln lc] ∧ BxS wr.drew gk 49 #[.int .i64 (hdP r : Int), pk, .int .i64 r.2, .int .i64 (r.1.length : Int)] ∧ wr.drew.rangeAt lb (lf + hdP r * 4) (F (hdP r)).cells := ⟨bd, bkd, hrd⟩
          refine wp_regionM (fun wz => BxS wz g2 22 #[.slice (some ⟨lb, lf, none⟩) ln lc] ∧ BxS wz gk 49 #[.int .i64 (hdP r : Int), pk, .int .i64 r.2, .int .i64 (r.1.length : Int)] ∧ wz.rangeAt lb (lf + hdP r * 4) (F (hdP r)).cells) [] #[false, false, false, false, false, false, false, false, false, false, false, false, false, false] rfl (by kernel_rfl) ?_
          have GW := grown_trans GR Gd
          generalize wr.drew = wd at *
          refine wpAnyY_takeF 0 (.func (.func 24) #[] #[]) rfl (by kernel_rfl) (fun _ _ _ h => h) rfl (by intro wz; go_simp; try rfl) ?_
          try simp only [List.getElem_toArray, List.getElem_cons_succ, List.getElem_cons_zero, Act.put, List.setIfInBounds_toArray, List.set_cons_zero, List.set_cons_succ]
          refine wpAnyY_take [] 1 (.slice (some ⟨lb, lf, none⟩) ln lc) rfl (by kernel_rfl) (fun _ _ _ h => h) SS rfl (by rintro wz ⟨z1, z2, z3⟩; have z := z1.cell1; go_simp) ?_
          try simp only [List.getElem_toArray, List.getElem_cons_succ, List.getElem_cons_zero, Act.put, List.setIfInBounds_toArray, List.set_cons_zero, List.set_cons_succ]
          refine wpAnyY_takeF 2 (.pointer (some ⟨gk, 0, none⟩)) rfl (by kernel_rfl) (fun _ _ _ h => h) rfl (by intro wz; go_simp; try rfl) ?_
          try simp only [List.getElem_toArray, List.getElem_cons_succ, List.getElem_cons_zero, Act.put, List.setIfInBounds_toArray, List.set_cons_zero, List.set_cons_succ]
          refine wpAnyY_takeF 3 (.pointer (some ⟨gk, 0, none⟩)) rfl (by kernel_rfl) (fun _ _ _ h => h) rfl (by intro wz; go_simp; try rfl) ?_
          try simp only [List.getElem_toArray, List.getElem_cons_succ, List.getElem_cons_zero, Act.put, List.setIfInBounds_toArray, List.set_cons_zero, List.set_cons_succ]
          refine wpAnyY_takeF 4 (.pointer (some ⟨gk, 0, none⟩)) rfl (by kernel_rfl) (fun _ _ _ h => h) rfl (by intro wz; go_simp; try rfl) ?_
          try simp only [List.getElem_toArray, List.getElem_cons_succ, List.getElem_cons_zero, Act.put, List.setIfInBounds_toArray, List.set_cons_zero, List.set_cons_succ]
          refine wpAnyY_take [] 5 (.int .i64 (hdP r : Int)) rfl (by kernel_rfl) (fun _ _ _ h => h) SS rfl (by rintro wz ⟨z1, z2, z3⟩; have z : wz.cell? ⟨gk, 0, none⟩ = some (.int .i64 (hdP r : Int)) := z2.cell 0 (by show 0 < 4; decide); go_simp) ?_
          try simp only [List.getElem_toArray, List.getElem_cons_succ, List.getElem_cons_zero, Act.put, List.setIfInBounds_toArray, List.set_cons_zero, List.set_cons_succ]
          refine wpAnyY_takeF 6 (.pointer (some ⟨lb, lf + hdP r * 4, none⟩)) rfl (by kernel_rfl) (fun _ _ _ h => h) rfl (by intro wz; go_simp; try rfl) ?_
          try simp only [List.getElem_toArray, List.getElem_cons_succ, List.getElem_cons_zero, Act.put, List.setIfInBounds_toArray, List.set_cons_zero, List.set_cons_succ]
          refine wpAnyY_take [] 7 (.agg #[.int .i64 (F (hdP r)).st, .int .i64 (F (hdP r)).fr, .int .i64 (F (hdP r)).to', .int .i64 (F (hdP r)).wo]) rfl (by kernel_rfl) (fun _ _ _ h => h) SS rfl (by rintro wz ⟨z1, z2, z3⟩; exact ldMR rfl rfl z3 Try.underlying29 rfl Try.info_pa) ?_
          try simp only [List.getElem_toArray, List.getElem_cons_succ, List.getElem_cons_zero, Act.put, List.setIfInBounds_toArray, List.set_cons_zero, List.set_cons_succ]
          refine wpAnyY_oneB 8 rfl (by kernel_rfl) (fun KK hKK => ?_)
          go_simp
          go_at_call 24
          refine (HMay wd GW (hdP r)).mono ?_
          rintro e w6 ⟨rfl, y6⟩
          dsimp only
          rw [HMV.out]
          refine hKK _ _ (fun h _ => ⟨h.1.keep y6 (by simp), h.2.1.keep y6 (by simp), range_keep h.2.2 (Nat.lt_of_lt_of_le hlbr Gd.size) y6⟩) ?_
          try simp only [List.getElem_toArray, List.getElem_cons_succ, List.getElem_cons_zero, Act.put, List.setIfInBounds_toArray, List.set_cons_zero, List.set_cons_succ]
          refine wpAnyY_takeF 9 (.bool true) rfl (by kernel_rfl) (fun _ _ _ h => h) rfl (by intro wz; go_simp; try rfl) ?_
          try simp only [List.getElem_toArray, List.getElem_cons_succ, List.getElem_cons_zero, Act.put, List.setIfInBounds_toArray, List.set_cons_zero, List.set_cons_succ]
          refine wpAnyY_takeF 10 (.pointer (some ⟨gk, 0, none⟩)) rfl (by kernel_rfl) (fun _ _ _ h => h) rfl (by intro wz; go_simp; try rfl) ?_
          try simp only [List.getElem_toArray, List.getElem_cons_succ, List.getElem_cons_zero, Act.put, List.setIfInBounds_toArray, List.set_cons_zero, List.set_cons_succ]
          refine wpAnyY_takeF 11 (.pointer (some ⟨gt, 0, none⟩)) rfl (by kernel_rfl) (fun _ _ _ h => h) rfl (by intro wz; go_simp; try rfl) ?_
          try simp only [List.getElem_toArray, List.getElem_cons_succ, List.getElem_cons_zero, Act.put, List.setIfInBounds_toArray, List.set_cons_zero, List.set_cons_succ]
          refine wpAnyY_oneB 12 rfl (by kernel_rfl) (fun KK hKK => ?_)
          go_simp
          go_at_call 20
          refine (better_any r (topF may (Rs.take k) ([], 0)) gk gt pk pt w6 (bkd.keep y6 (by simp)) ((hbt.keep Gd (by simp)).keep y6 (by simp))).mono ?_
          rintro e w7 ⟨rfl, y7⟩
          dsimp only
          rw [HBT.out]
          refine hKK _ _ (fun h _ => ⟨h.1.keep y7 (by simp), h.2.1.keep y7 (by simp), range_keep h.2.2 (Nat.lt_of_lt_of_le (Nat.lt_of_lt_of_le hlbr Gd.size) y6.size) y7⟩) ?_
          try simp only [List.getElem_toArray, List.getElem_cons_succ, List.getElem_cons_zero, Act.put, List.setIfInBounds_toArray, List.set_cons_zero, List.set_cons_succ]
          refine wpAnyY_takeF 13 (.bool true) rfl (by kernel_rfl) (fun _ _ _ h => h) rfl (by intro wz; go_simp; try rfl) ?_
          try simp only [List.getElem_toArray, List.getElem_cons_succ, List.getElem_cons_zero, Act.put, List.setIfInBounds_toArray, List.set_cons_zero, List.set_cons_succ]
          refine wpAnyY_doneB (by kernel_rfl) ?_ _
          refine HK5.out _ _ ?_
          clear HK5
          go_wp2
          refine HK2.out _ _ ?_
          clear HK2
          go_wp2
          go_roundw
          case rel =>
            refine ⟨k + 1, gk, by omega, by go_num, rfl, ?_, grown_trans GR (grown_trans Gd (grown_trans y6 y7))⟩
            have e : topF may (Rs.take (k + 1)) ([], 0) = r := by
              rw [List.take_add_one, HRK.out]
              show topF may (Rs.take k ++ [r]) ([], 0) = _
              rw [top_app, HMV.out, HBT.out]
              rfl
            rw [e]
            exact hrn.keep (grown_trans Gd (grown_trans y6 y7))
          case measure => simp [intOf] <;> omega
    · obtain rfl : k = rn := by omega
      have lk : ¬ (k : Int) < (k : Int) := by omega
      have hnl := HNL.out
      have e : Rs.take k = Rs := List.take_of_length_le (by omega)
      rw [e] at hT
      clear e hnl
      go_wp2
      refine HK3.out _ _ ?_
      clear HK3
      go_wp2
      first | go_ret | skip
      exact ⟨gt, rfl, hT, GR⟩
end
end Go.Proofs.Ytpcejajijaphbaa
