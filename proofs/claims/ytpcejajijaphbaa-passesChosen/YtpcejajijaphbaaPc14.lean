import Derived.Test.YtpcejajijaphbaaPc13
namespace Go.Proofs.Ytpcejajijaphbaa
open Go.RowKit
set_option maxRecDepth 100000
set_option linter.unusedVariables false
set_option linter.unusedSimpArgs false

section
set_option maxHeartbeats 32000000 in
theorem ch_t22 {u2 u3 u4 u5 u6 u7 u8 u13 u14 u15 u16 u17 u18 u19 u20 u21 u22 u23 u24 u25 u26 u27 u28 u29 u30 u31 u32 u33 u34 u35 u36 u37 u38 u39 u40 u41 u42 u43 u44 u45 u46 u47 u48 u49 u50 u51 u52 u53 u54 u55 u56 u57 u58 u59 u60 u61 u62 u63 u64 u65 u66 u67 u68 u69 u70 u71 u72 u73 u74 u75 u76 u77 u78 u79 u80 u81 u82 u83 u84 u85 u86 u87 u88 u89 u90 u91 u92 u93 u94 u95 u96 u97 u98 u99 u100 u101 u102 u103 u104 u105 u106 u107 u108 u109 u110 u111 u112 u113 u114 u115 u116 u117 u118 u119 u120 u121 u122 u123 u124 u125 u126 u127 u128 u129 u130 u131 u132 u133 u134 u135 u136 u137 u138 u139 u140 u141 u142 u143 u144 u145 u146 u147 u148 u149 u150 u151 u152 u153 u154 u155 u156 u157 u158 u159 u160 u161 u162 u163 u164 u165 u166 u167 u168 u169 u170 u171 u172 u173 u174 u175 u176 u177 u178 u179 u180 u181 u182 u183 u184 u185 u186 u187 u188 u189 u190 u191 u192 : Value} (Q : Exit → Act → World → Prop) (hPn : ∀ c (a1 a2 : Act) w, a1.defers = a2.defers → Q (.panic c) a1 w → Q (.panic c) a2 w) (wB w : World) (lb lf ln lc : Nat) (F : Nat → Pa) (g : Int) (hP : ∀ j, j < ln → wB.rangeAt lb (lf + j * 4) (F j).cells) (hlc : ln ≤ lc ∧ lc ≤ 9223372036854775807) (h2 : ln ≤ 200) (GB : wB.grownBy w none) (hg : 0 ≤ g ∧ g ≤ 1000) (hok : ∀ i, (F i).ok) (gb gd ga lo : Nat) (hlw : lo ≤ w.heap.size) (hlo : wB.heap.size ≤ lo) (q : Nat) (hq : q < ln) (D : Nat → Bool) (R : Nat → Rv) (P : Nat → Option Addr) (C : Nat → Nat) (W : Rv) (hI : DI F g ln q D R W) (hT : TB w lo gb ln D R P C) (k : Nat) (hk : k < ln) (hDn : ∀ j, D j = true → j < ln) (hDk : D k = false) (hmax : ∀ u, u < ln → D u = false → (F u).fr ≤ (F k).fr) (hD : TD w lo gd ln D) (pw : Option Addr) (cw : Nat) (hW : CB w lo ga W pw cw) (hne : gb ≠ ga)
    (hQ : ∀ v14 v15 v16 v100 v101 v102 v103 v104 v105 v106 v107 v108 v109 v110 v111 v112 v113 v114 v115 v116 v117 v118 v119 v120 v121 v122 v123 v124 v125 v126 v127 v128 v129 v130 v131 v132 v133 v134 v135 v136 v137 v138 v139 v140 v141 v142 v143 v144 v145 v146 v147 v148 v149 v150 v151 v152 v153 v154 v155 v156 v157 v158 v159 v160 v161 v162 v163 v164 v165 v166 v167 v168 v169 v170 v171 v172 v173 v174 v175 v176 v177 v178 v179 v180 v181 v182 v183 v184 v185 v186 v187 (W' : Rv) (R' : Nat → Rv) (P' : Nat → Option Addr) (C' : Nat → Nat) (pw' : Option Addr) (cw' : Nat) (w' : World), DI F g ln (q + 1) (setB D k) R' W' → TB w' lo gb ln (setB D k) R' P' C' → TD w' lo gd ln (setB D k) → CB w' lo ga W' pw' cw' → wB.grownBy w' none → lo ≤ w'.heap.size → Q .normal (Act.mk (List.toArray ((.slice (some ⟨lb, lf, none⟩) ln lc) :: (.int .i64 g) :: u2 :: u3 :: u4 :: u5 :: u6 :: u7 :: u8 :: (.slice (some ⟨gb, 0, none⟩) ln ln) :: (.slice (some ⟨gd, 0, none⟩) ln ln) :: (.pointer (some ⟨ga, 0, none⟩)) :: (.int .i64 (k : Int)) :: u13 :: v14 :: v15 :: v16 :: u17 :: u18 :: u19 :: u20 :: u21 :: u22 :: u23 :: u24 :: u25 :: u26 :: u27 :: u28 :: u29 :: u30 :: u31 :: u32 :: u33 :: u34 :: u35 :: u36 :: u37 :: u38 :: u39 :: u40 :: u41 :: u42 :: u43 :: u44 :: u45 :: u46 :: u47 :: u48 :: u49 :: u50 :: u51 :: u52 :: u53 :: u54 :: u55 :: u56 :: u57 :: u58 :: u59 :: u60 :: u61 :: u62 :: u63 :: u64 :: u65 :: u66 :: u67 :: u68 :: u69 :: u70 :: u71 :: u72 :: u73 :: u74 :: u75 :: u76 :: u77 :: u78 :: u79 :: u80 :: u81 :: u82 :: u83 :: u84 :: u85 :: u86 :: u87 :: u88 :: u89 :: u90 :: u91 :: u92 :: u93 :: u94 :: u95 :: u96 :: u97 :: u98 :: u99 :: v100 :: v101 :: v102 :: v103 :: v104 :: v105 :: v106 :: v107 :: v108 :: v109 :: v110 :: v111 :: v112 :: v113 :: v114 :: v115 :: v116 :: v117 :: v118 :: v119 :: v120 :: v121 :: v122 :: v123 :: v124 :: v125 :: v126 :: v127 :: v128 :: v129 :: v130 :: v131 :: v132 :: v133 :: v134 :: v135 :: v136 :: v137 :: v138 :: v139 :: v140 :: v141 :: v142 :: v143 :: v144 :: v145 :: v146 :: v147 :: v148 :: v149 :: v150 :: v151 :: v152 :: v153 :: v154 :: v155 :: v156 :: v157 :: v158 :: v159 :: v160 :: v161 :: v162 :: v163 :: v164 :: v165 :: v166 :: v167 :: v168 :: v169 :: v170 :: v171 :: v172 :: v173 :: v174 :: v175 :: v176 :: v177 :: v178 :: v179 :: v180 :: v181 :: v182 :: v183 :: v184 :: v185 :: v186 :: v187 :: u188 :: u189 :: u190 :: u191 :: u192 :: [])) []) w') :
    Code.wp Try.prog (tailR 22 (Try.f5.body.getD .skip)) Q (Act.mk (List.toArray ((.slice (some ⟨lb, lf, none⟩) ln lc) :: (.int .i64 g) :: u2 :: u3 :: u4 :: u5 :: u6 :: u7 :: u8 :: (.slice (some ⟨gb, 0, none⟩) ln ln) :: (.slice (some ⟨gd, 0, none⟩) ln ln) :: (.pointer (some ⟨ga, 0, none⟩)) :: (.int .i64 (k : Int)) :: u13 :: u14 :: u15 :: u16 :: u17 :: u18 :: u19 :: u20 :: u21 :: u22 :: u23 :: u24 :: u25 :: u26 :: u27 :: u28 :: u29 :: u30 :: u31 :: u32 :: u33 :: u34 :: u35 :: u36 :: u37 :: u38 :: u39 :: u40 :: u41 :: u42 :: u43 :: u44 :: u45 :: u46 :: u47 :: u48 :: u49 :: u50 :: u51 :: u52 :: u53 :: u54 :: u55 :: u56 :: u57 :: u58 :: u59 :: u60 :: u61 :: u62 :: u63 :: u64 :: u65 :: u66 :: u67 :: u68 :: u69 :: u70 :: u71 :: u72 :: u73 :: u74 :: u75 :: u76 :: u77 :: u78 :: u79 :: u80 :: u81 :: u82 :: u83 :: u84 :: u85 :: u86 :: u87 :: u88 :: u89 :: u90 :: u91 :: u92 :: u93 :: u94 :: u95 :: u96 :: u97 :: u98 :: u99 :: u100 :: u101 :: u102 :: u103 :: u104 :: u105 :: u106 :: u107 :: u108 :: u109 :: u110 :: u111 :: u112 :: u113 :: u114 :: u115 :: u116 :: u117 :: u118 :: u119 :: u120 :: u121 :: u122 :: u123 :: u124 :: u125 :: u126 :: u127 :: u128 :: u129 :: u130 :: u131 :: u132 :: u133 :: u134 :: u135 :: u136 :: u137 :: u138 :: u139 :: u140 :: u141 :: u142 :: u143 :: u144 :: u145 :: u146 :: u147 :: u148 :: u149 :: u150 :: u151 :: u152 :: u153 :: u154 :: u155 :: u156 :: u157 :: u158 :: u159 :: u160 :: u161 :: u162 :: u163 :: u164 :: u165 :: u166 :: u167 :: u168 :: u169 :: u170 :: u171 :: u172 :: u173 :: u174 :: u175 :: u176 :: u177 :: u178 :: u179 :: u180 :: u181 :: u182 :: u183 :: u184 :: u185 :: u186 :: u187 :: u188 :: u189 :: u190 :: u191 :: u192 :: [])) []) w := by
  conv => enter [2]; whnf
  have HQ : Hid _ := hQ
  have HPR : Hid _ := hP
  have HI : Hid _ := hI
  have HDK : Hid _ := hDk
  have HMX : Hid _ := hmax
  have HOK : Hid _ := hok
  have lkk : (k : Int) < (ln : Int) := by omega
  have ck : w.cell? ⟨gd, k, none⟩ = some (.bool false) := by rw [hD.cell hk, hDk]
  obtain ⟨B, bB, hBs, _⟩ := hD.bx
  have fk := bB.free k
  have G0 := grown_set w gd k (.bool true)
  have bB1 : BxS (w.setCell ⟨gd, k, none⟩ (.bool true)) gd 4 (B.setIfInBounds k (.bool true)) := by unfold BxS; rw [heap_setCell_same w gd k _ _ _ bB]
  have hnd : gd ≠ gb := fun e => by
    obtain ⟨A, k1, _⟩ := hT.bx
    subst e
    exact BxS.apart k1 bB (by decide) rfl
  have hnd2 : gd ≠ ga := fun e => by
    subst e
    exact BxS.apart hW.bx bB (by decide) rfl
  have D1 : Hid _ := hD.put bB bB1
  have T1 : Hid _ := hT.box bB (by decide) hnd G0
  have W1 : Hid _ := hW.box bB (by decide) hnd2 G0
  have GB1 : wB.grownBy (w.setCell ⟨gd, k, none⟩ (.bool true)) none := grown_far GB G0 (fun z e => by have e := Option.some.inj e; subst e; exact Nat.le_trans hlo hD.lo')
  have hlw1 : lo ≤ (w.setCell ⟨gd, k, none⟩ (.bool true)).heap.size := Nat.le_trans hlw G0.size
  have HR : Hid (∀ j, selK F g D k j = true → hdP (R j) = j ∧ (R j).1 ≠ []) := fun j hs => by
    have hd : D j = true := (Bool.and_eq_true_iff.1 (Bool.and_eq_true_iff.1 hs).1).1
    exact hI.hd (hDn j hd) hd
  have hgbl : gb < w.heap.size := hT.lt
  have hgal : ga < w.heap.size := hW.bx.lt
  clear hQ hP hI hDk hDn hmax hok hD hT hW bB bB1
  refine wp_seq_k fun K0 hK0 => ?_
  have HK0 : Hid _ := hK0
  clear hK0
  go_wp2
  refine HK0.out _ _ ?_
  clear HK0
  have hw1s : w.heap.size ≤ (w.setCell ⟨gd, k, none⟩ (.bool true)).heap.size := G0.size
  generalize w.setCell ⟨gd, k, none⟩ (.bool true) = w1 at *
  refine wp_seq_k fun K1 hK1 => ?_
  have HK1 : Hid _ := hK1
  clear hK1
  go_wp2
  refine HK1.out _ _ ?_
  clear HK1
  have b2 := BxS.new w1 42 (chA ([], 0) none 0)
  have G2 := World.grownBy_alloc w1 (.cells (chA ([], 0) none 0) 42) none
  have r2 : CB (w1.alloc (.cells (chA ([], 0) none 0) 42)) lo w1.heap.size ([], 0) none 0 := ⟨hlw1, b2, Pl.none _ _⟩
  clear b2
  have e2 : w1.alloc (.cells (chA ([], 0) none 0) 42) = w1.alloc (.cells #[.int .i64 0, .int .i64 0, .slice none 0 0] 42) := rfl
  rw [e2] at G2 r2
  clear e2
  have T2 : Hid _ := T1.out.keep G2
  have D2 : Hid _ := D1.out.keep G2
  have W2 : Hid _ := W1.out.keep G2
  have GB2 := grown_trans GB1 G2
  have HNE : Hid (w1.heap.size ≠ gb ∧ w1.heap.size ≠ ga) := ⟨by omega, by omega⟩
  have hlw2 := Nat.le_trans hlw1 G2.size
  clear T1 D1 W1 GB1 fk ck hgbl hgal hw1s
  generalize w1.alloc (.cells #[.int .i64 0, .int .i64 0, .slice none 0 0] 42) = w2 at *
  generalize w1.heap.size = gr at *
  refine wp_seq_k fun K2 hK2 => ?_
  have HK2 : Hid _ := hK2
  clear hK2
  go_wp2
  go_loopw [15] (fun v15 wr => ∃ (i : Nat) (T : Rv) (pt : Option Addr) (ct : Nat), i ≤ ln ∧ v15 = .int .i64 i ∧ Hid (KyM R (selK F g D k) i T) ∧ CB wr lo gr T pt ct ∧ TB wr lo gb ln D R P C ∧ TD wr lo gd ln (setB D k) ∧ CB wr lo ga W pw cw ∧ wB.grownBy wr none) (fun v15 _ => ln - (intOf v15).toNat)
  case atStart => exact ⟨0, ([], 0), none, 0, Nat.zero_le _, rfl, KyM.first _ _, r2, T2.out, D2.out, W2.out, GB2⟩
  case round =>
    obtain ⟨i, T, pt, ct, hi, rfl, HKY, hrr, hTT, hDD, hWW, GR⟩ := hrel
    have HRR : Hid _ := hrr
    have HTT : Hid _ := hTT
    have HDD : Hid _ := hDD
    have HWW : Hid _ := hWW
    have hll : lo ≤ wr.heap.size := Nat.le_trans hrr.lo' (Nat.le_of_lt hrr.bx.lt)
    clear hrr hTT hDD hWW
    by_cases hlt : i < ln
    · have lii : (i : Int) < (ln : Int) := by omega
      have HU : Hid (D i = true → T.1.length ≠ (R i).1.length ∨ hdP T ≠ hdP (R i)) := fun hd => by
        have h1 := HI.out.hd hlt hd
        exact KyM.unlike HR.out HKY.out h1.2 (fun j hj _ => by rw [h1.1]; omega)
      have rk := range_kp (HPR.out k hk) GR
      have ri := range_kp (HPR.out i hlt) GR
      have ctk : wr.cell? ⟨lb, lf + k * 4 + 2, none⟩ = some (.int .i64 (F k).to') := rk 2 _ rfl
      have csk : wr.cell? ⟨lb, lf + k * 4, none⟩ = some (.int .i64 (F k).st) := rk 0 _ rfl
      have csi : wr.cell? ⟨lb, lf + i * 4, none⟩ = some (.int .i64 (F i).st) := ri 0 _ rfl
      have htk : 0 ≤ (F k).to' ∧ (F k).to' ≤ 1000000 := by have h1 := (HOK.out k).to'; have h2 := (HOK.out k).fr; omega
      clear rk ri
      obtain ⟨fr, hfr⟩ : ∃ fr, (F k).to' + (if (F k).st = (F i).st then 0 else g) = fr := ⟨_, rfl⟩
      have HFR0 : Hid _ := hfr
      clear hfr
      obtain ⟨tk, htk9⟩ : ∃ x, (F k).to' = x := ⟨_, rfl⟩
      obtain ⟨sk, hsk9⟩ : ∃ x, (F k).st = x := ⟨_, rfl⟩
      obtain ⟨si, hsi9⟩ : ∃ x, (F i).st = x := ⟨_, rfl⟩
      rw [htk9] at ctk htk
      rw [hsk9] at csk
      rw [hsi9] at csi
      have HTK : Hid _ := htk9
      have HSK : Hid _ := hsk9
      have HSI : Hid _ := hsi9
      clear htk9 hsk9 hsi9
      by_cases heq : si = sk
      · have HFR : Hid (tk = (F k).to' + (if (F k).st = (F i).st then 0 else g)) := by
          show tk = _
          rw [HTK.out, HSK.out, HSI.out, if_pos heq.symm, Int.add_zero]
        subst heq
        clear HTK HSK HSI HFR0
        refine wp_seq_k fun K3 hK3 => ?_
        have HK3 : Hid _ := hK3
        clear hK3
        go_wp2
        refine HK3.out _ _ ?_
        clear HK3
        refine wp_seq_k fun K4 hK4 => ?_
        have HK4 : Hid _ := hK4
        clear hK4
        refine wp_block ?_
        refine wp_seq_k fun K5 hK5 => ?_
        have HK5 : Hid _ := hK5
        clear hK5
        go_wp2
        refine HK5.out _ _ ?_
        clear HK5
        refine wp_seq_k fun K6 hK6 => ?_
        have HK6 : Hid _ := hK6
        clear hK6
        refine wp_seq_k fun K7 hK7 => ?_
        have HK7 : Hid _ := hK7
        clear hK7
        have Gd8 := grown_drew wr none
        have SS : wr.drew.cell? ⟨lb, lf + i * 4, none⟩ = some (.int .i64 si) ∧ wr.drew.cell? ⟨lb, lf + k * 4, none⟩ = some (.int .i64 si) := ⟨cell_drew _ csi, cell_drew _ csk⟩
        refine wp_regionM (fun wz => wz.cell? ⟨lb, lf + i * 4, none⟩ = some (.int .i64 si) ∧ wz.cell? ⟨lb, lf + k * 4, none⟩ = some (.int .i64 si)) [] #[false, false, false, false, false, false, false, false, false, false, false] rfl (by kernel_rfl) ?_
        generalize wr.drew = w8 at *
        refine wpAnyY_takeF 0 (.slice (some ⟨lb, lf, none⟩) ln lc) rfl (by kernel_rfl) (fun _ _ _ h => hPn _ _ _ _ (by rfl) h) rfl (by intro wz; go_simp; try rfl) ?_
        try simp only [List.getElem_toArray, List.getElem_cons_succ, List.getElem_cons_zero, Act.put, List.setIfInBounds_toArray, List.set_cons_zero, List.set_cons_succ]
        refine wpAnyY_takeF 1 (.int .i64 (i : Int)) rfl (by kernel_rfl) (fun _ _ _ h => hPn _ _ _ _ (by rfl) h) rfl (by intro wz; go_simp; try rfl) ?_
        try simp only [List.getElem_toArray, List.getElem_cons_succ, List.getElem_cons_zero, Act.put, List.setIfInBounds_toArray, List.set_cons_zero, List.set_cons_succ]
        refine wpAnyY_takeF 2 (.pointer (some ⟨lb, lf + i * 4, none⟩)) rfl (by kernel_rfl) (fun _ _ _ h => hPn _ _ _ _ (by rfl) h) rfl (by intro wz; go_simp; try rfl) ?_
        try simp only [List.getElem_toArray, List.getElem_cons_succ, List.getElem_cons_zero, Act.put, List.setIfInBounds_toArray, List.set_cons_zero, List.set_cons_succ]
        refine wpAnyY_takeF 3 (.pointer (some ⟨lb, lf + i * 4, none⟩)) rfl (by kernel_rfl) (fun _ _ _ h => hPn _ _ _ _ (by rfl) h) rfl (by intro wz; go_simp; try rfl) ?_
        try simp only [List.getElem_toArray, List.getElem_cons_succ, List.getElem_cons_zero, Act.put, List.setIfInBounds_toArray, List.set_cons_zero, List.set_cons_succ]
        refine wpAnyY_take [] 4 (.int .i64 si) rfl (by kernel_rfl) (fun _ _ _ h => hPn _ _ _ _ (by rfl) h) SS rfl (by rintro wz ⟨z1, z2⟩; go_simp) ?_
        try simp only [List.getElem_toArray, List.getElem_cons_succ, List.getElem_cons_zero, Act.put, List.setIfInBounds_toArray, List.set_cons_zero, List.set_cons_succ]
        refine wpAnyY_takeF 5 (.slice (some ⟨lb, lf, none⟩) ln lc) rfl (by kernel_rfl) (fun _ _ _ h => hPn _ _ _ _ (by rfl) h) rfl (by intro wz; go_simp; try rfl) ?_
        try simp only [List.getElem_toArray, List.getElem_cons_succ, List.getElem_cons_zero, Act.put, List.setIfInBounds_toArray, List.set_cons_zero, List.set_cons_succ]
        refine wpAnyY_takeF 6 (.int .i64 (k : Int)) rfl (by kernel_rfl) (fun _ _ _ h => hPn _ _ _ _ (by rfl) h) rfl (by intro wz; go_simp; try rfl) ?_
        try simp only [List.getElem_toArray, List.getElem_cons_succ, List.getElem_cons_zero, Act.put, List.setIfInBounds_toArray, List.set_cons_zero, List.set_cons_succ]
        refine wpAnyY_takeF 7 (.pointer (some ⟨lb, lf + k * 4, none⟩)) rfl (by kernel_rfl) (fun _ _ _ h => hPn _ _ _ _ (by rfl) h) rfl (by intro wz; go_simp; try rfl) ?_
        try simp only [List.getElem_toArray, List.getElem_cons_succ, List.getElem_cons_zero, Act.put, List.setIfInBounds_toArray, List.set_cons_zero, List.set_cons_succ]
        refine wpAnyY_takeF 8 (.pointer (some ⟨lb, lf + k * 4, none⟩)) rfl (by kernel_rfl) (fun _ _ _ h => hPn _ _ _ _ (by rfl) h) rfl (by intro wz; go_simp; try rfl) ?_
        try simp only [List.getElem_toArray, List.getElem_cons_succ, List.getElem_cons_zero, Act.put, List.setIfInBounds_toArray, List.set_cons_zero, List.set_cons_succ]
        refine wpAnyY_take [] 9 (.int .i64 si) rfl (by kernel_rfl) (fun _ _ _ h => hPn _ _ _ _ (by rfl) h) SS rfl (by rintro wz ⟨z1, z2⟩; go_simp) ?_
        try simp only [List.getElem_toArray, List.getElem_cons_succ, List.getElem_cons_zero, Act.put, List.setIfInBounds_toArray, List.set_cons_zero, List.set_cons_succ]
        refine wpAnyY_takeF 10 (.bool false) rfl (by kernel_rfl) (fun _ _ _ h => hPn _ _ _ _ (by rfl) h) rfl (by intro wz; go_simp; try rfl) ?_
        try simp only [List.getElem_toArray, List.getElem_cons_succ, List.getElem_cons_zero, Act.put, List.setIfInBounds_toArray, List.set_cons_zero, List.set_cons_succ]
        refine wpAnyY_doneB (by kernel_rfl) ?_ _
        refine HK7.out _ _ ?_
        clear HK7
        go_wp2
        refine HK6.out _ _ ?_
        clear HK6
        have hr8 := HRR.out.keep Gd8
        have T8 := HTT.out.keep Gd8
        have D8 := HDD.out.keep Gd8
        have W8 := HWW.out.keep Gd8
        have G8 := grown_trans GR Gd8
        refine ch_t30 _ (by intro c a1 a2 w9 hd h; exact hPn c a1 a2 w9 hd h) wB w8 lb lf ln lc F g HPR.out hlc h2 G8 gb gd gr lo D R P C T8 k hk D8 T pt ct hr8 i hlt HDK.out HU.out _ HFR.out ?_
        intro v128 v129 v130 v131 v132 v133 v134 v135 v136 v137 v138 v139 v140 v141 v142 v143 v144 v145 v146 v147 v148 v149 v150 v151 v152 v153 v154 v155 v156 v157 pt' ct' w9 hr9 g9
        obtain ⟨bxr, hbxr⟩ : ∃ X, BxS w8 gr 42 X := ⟨_, hr8.bx⟩
        have T9 := T8.box hbxr (by decide) HNE.out.1 g9
        have D9 := D8.box hbxr (by decide) g9
        have W9 := W8.box hbxr (by decide) HNE.out.2 g9
        have G9 := grown_far G8 g9 (fun z e => by have e := Option.some.inj e; subst e; exact Nat.le_trans hlo hr8.lo')
        have HT9 : Hid _ := T9
        have HD9 : Hid _ := D9
        have HW9 : Hid _ := W9
        have HR9 : Hid _ := hr9
        have HK9 : Hid _ := KyM.step HR.out HKY.out
        clear T9 D9 W9 hr9 T8 D8 W8 hr8 hbxr
        (try simp only [Exit.inBlock, Exit.then])
        refine HK4.out _ _ ?_
        clear HK4
        go_wp2
        go_roundw
        case rel => exact ⟨i + 1, _, pt', ct', by omega, by go_num, HK9.out, HR9.out, HT9.out, HD9.out, HW9.out, G9⟩
        case measure => simp [intOf] <;> omega
      · have HFR : Hid (tk + g = (F k).to' + (if (F k).st = (F i).st then 0 else g)) := by
          show tk + g = _
          rw [HTK.out, HSK.out, HSI.out, if_neg (fun e => heq e.symm)]
        clear HTK HSK HSI HFR0
        refine wp_seq_k fun K3 hK3 => ?_
        have HK3 : Hid _ := hK3
        clear hK3
        go_wp2
        refine HK3.out _ _ ?_
        clear HK3
        refine wp_seq_k fun K4 hK4 => ?_
        have HK4 : Hid _ := hK4
        clear hK4
        refine wp_block ?_
        refine wp_seq_k fun K5 hK5 => ?_
        have HK5 : Hid _ := hK5
        clear hK5
        go_wp2
        refine HK5.out _ _ ?_
        clear HK5
        refine wp_seq_k fun K6 hK6 => ?_
        have HK6 : Hid _ := hK6
        clear hK6
        refine wp_seq_k fun K7 hK7 => ?_
        have HK7 : Hid _ := hK7
        clear hK7
        have Gd8 := grown_drew wr none
        have SS : wr.drew.cell? ⟨lb, lf + i * 4, none⟩ = some (.int .i64 si) ∧ wr.drew.cell? ⟨lb, lf + k * 4, none⟩ = some (.int .i64 sk) := ⟨cell_drew _ csi, cell_drew _ csk⟩
        refine wp_regionM (fun wz => wz.cell? ⟨lb, lf + i * 4, none⟩ = some (.int .i64 si) ∧ wz.cell? ⟨lb, lf + k * 4, none⟩ = some (.int .i64 sk)) [] #[false, false, false, false, false, false, false, false, false, false, false] rfl (by kernel_rfl) ?_
        generalize wr.drew = w8 at *
        refine wpAnyY_takeF 0 (.slice (some ⟨lb, lf, none⟩) ln lc) rfl (by kernel_rfl) (fun _ _ _ h => hPn _ _ _ _ (by rfl) h) rfl (by intro wz; go_simp; try rfl) ?_
        try simp only [List.getElem_toArray, List.getElem_cons_succ, List.getElem_cons_zero, Act.put, List.setIfInBounds_toArray, List.set_cons_zero, List.set_cons_succ]
        refine wpAnyY_takeF 1 (.int .i64 (i : Int)) rfl (by kernel_rfl) (fun _ _ _ h => hPn _ _ _ _ (by rfl) h) rfl (by intro wz; go_simp; try rfl) ?_
        try simp only [List.getElem_toArray, List.getElem_cons_succ, List.getElem_cons_zero, Act.put, List.setIfInBounds_toArray, List.set_cons_zero, List.set_cons_succ]
        refine wpAnyY_takeF 2 (.pointer (some ⟨lb, lf + i * 4, none⟩)) rfl (by kernel_rfl) (fun _ _ _ h => hPn _ _ _ _ (by rfl) h) rfl (by intro wz; go_simp; try rfl) ?_
        try simp only [List.getElem_toArray, List.getElem_cons_succ, List.getElem_cons_zero, Act.put, List.setIfInBounds_toArray, List.set_cons_zero, List.set_cons_succ]
        refine wpAnyY_takeF 3 (.pointer (some ⟨lb, lf + i * 4, none⟩)) rfl (by kernel_rfl) (fun _ _ _ h => hPn _ _ _ _ (by rfl) h) rfl (by intro wz; go_simp; try rfl) ?_
        try simp only [List.getElem_toArray, List.getElem_cons_succ, List.getElem_cons_zero, Act.put, List.setIfInBounds_toArray, List.set_cons_zero, List.set_cons_succ]
        refine wpAnyY_take [] 4 (.int .i64 si) rfl (by kernel_rfl) (fun _ _ _ h => hPn _ _ _ _ (by rfl) h) SS rfl (by rintro wz ⟨z1, z2⟩; go_simp) ?_
        try simp only [List.getElem_toArray, List.getElem_cons_succ, List.getElem_cons_zero, Act.put, List.setIfInBounds_toArray, List.set_cons_zero, List.set_cons_succ]
        refine wpAnyY_takeF 5 (.slice (some ⟨lb, lf, none⟩) ln lc) rfl (by kernel_rfl) (fun _ _ _ h => hPn _ _ _ _ (by rfl) h) rfl (by intro wz; go_simp; try rfl) ?_
        try simp only [List.getElem_toArray, List.getElem_cons_succ, List.getElem_cons_zero, Act.put, List.setIfInBounds_toArray, List.set_cons_zero, List.set_cons_succ]
        refine wpAnyY_takeF 6 (.int .i64 (k : Int)) rfl (by kernel_rfl) (fun _ _ _ h => hPn _ _ _ _ (by rfl) h) rfl (by intro wz; go_simp; try rfl) ?_
        try simp only [List.getElem_toArray, List.getElem_cons_succ, List.getElem_cons_zero, Act.put, List.setIfInBounds_toArray, List.set_cons_zero, List.set_cons_succ]
        refine wpAnyY_takeF 7 (.pointer (some ⟨lb, lf + k * 4, none⟩)) rfl (by kernel_rfl) (fun _ _ _ h => hPn _ _ _ _ (by rfl) h) rfl (by intro wz; go_simp; try rfl) ?_
        try simp only [List.getElem_toArray, List.getElem_cons_succ, List.getElem_cons_zero, Act.put, List.setIfInBounds_toArray, List.set_cons_zero, List.set_cons_succ]
        refine wpAnyY_takeF 8 (.pointer (some ⟨lb, lf + k * 4, none⟩)) rfl (by kernel_rfl) (fun _ _ _ h => hPn _ _ _ _ (by rfl) h) rfl (by intro wz; go_simp; try rfl) ?_
        try simp only [List.getElem_toArray, List.getElem_cons_succ, List.getElem_cons_zero, Act.put, List.setIfInBounds_toArray, List.set_cons_zero, List.set_cons_succ]
        refine wpAnyY_take [] 9 (.int .i64 sk) rfl (by kernel_rfl) (fun _ _ _ h => hPn _ _ _ _ (by rfl) h) SS rfl (by rintro wz ⟨z1, z2⟩; go_simp) ?_
        try simp only [List.getElem_toArray, List.getElem_cons_succ, List.getElem_cons_zero, Act.put, List.setIfInBounds_toArray, List.set_cons_zero, List.set_cons_succ]
        refine wpAnyY_takeF 10 (.bool true) rfl (by kernel_rfl) (fun _ _ _ h => hPn _ _ _ _ (by rfl) h) rfl (by intro wz; go_simp; try rfl) ?_
        try simp only [List.getElem_toArray, List.getElem_cons_succ, List.getElem_cons_zero, Act.put, List.setIfInBounds_toArray, List.set_cons_zero, List.set_cons_succ]
        refine wpAnyY_doneB (by kernel_rfl) ?_ _
        refine HK7.out _ _ ?_
        clear HK7
        go_wp2
        refine HK6.out _ _ ?_
        clear HK6
        have hr8 := HRR.out.keep Gd8
        have T8 := HTT.out.keep Gd8
        have D8 := HDD.out.keep Gd8
        have W8 := HWW.out.keep Gd8
        have G8 := grown_trans GR Gd8
        refine ch_t30 _ (by intro c a1 a2 w9 hd h; exact hPn c a1 a2 w9 hd h) wB w8 lb lf ln lc F g HPR.out hlc h2 G8 gb gd gr lo D R P C T8 k hk D8 T pt ct hr8 i hlt HDK.out HU.out _ HFR.out ?_
        intro v128 v129 v130 v131 v132 v133 v134 v135 v136 v137 v138 v139 v140 v141 v142 v143 v144 v145 v146 v147 v148 v149 v150 v151 v152 v153 v154 v155 v156 v157 pt' ct' w9 hr9 g9
        obtain ⟨bxr, hbxr⟩ : ∃ X, BxS w8 gr 42 X := ⟨_, hr8.bx⟩
        have T9 := T8.box hbxr (by decide) HNE.out.1 g9
        have D9 := D8.box hbxr (by decide) g9
        have W9 := W8.box hbxr (by decide) HNE.out.2 g9
        have G9 := grown_far G8 g9 (fun z e => by have e := Option.some.inj e; subst e; exact Nat.le_trans hlo hr8.lo')
        have HT9 : Hid _ := T9
        have HD9 : Hid _ := D9
        have HW9 : Hid _ := W9
        have HR9 : Hid _ := hr9
        have HK9 : Hid _ := KyM.step HR.out HKY.out
        clear T9 D9 W9 hr9 T8 D8 W8 hr8 hbxr
        (try simp only [Exit.inBlock, Exit.then])
        refine HK4.out _ _ ?_
        clear HK4
        go_wp2
        go_roundw
        case rel => exact ⟨i + 1, _, pt', ct', by omega, by go_num, HK9.out, HR9.out, HT9.out, HD9.out, HW9.out, G9⟩
        case measure => simp [intOf] <;> omega
    · have lii : ¬ (i : Int) < (ln : Int) := by omega
      have hil : i = ln := by omega
      have HKY2 : Hid (KyM R (selK F g D k) ln T) := by rw [← hil]; exact HKY.out
      clear hil
      have hT1 : T.1.length ≤ 200 ∧ 0 ≤ T.2 ∧ T.2 ≤ 1000000000 := by
        rcases HKY.out.1 with e | ⟨j, hj, hs, e⟩
        · rw [e]; exact ⟨Nat.zero_le _, Int.le_refl _, by decide⟩
        · have hd : D j = true := (Bool.and_eq_true_iff.1 (Bool.and_eq_true_iff.1 hs).1).1
          have h3 := HI.out.len j (by omega) hd
          rw [e]
          exact ⟨by omega, h3.2.1, by have := h3.2.2; have := h3.1; omega⟩
      have hu : W.1.length ≠ T.1.length + 1 ∨ hdP W ≠ k := by
        rcases HI.out.top.1 with e | ⟨j, hj, hs, e⟩
        · left
          rw [e]
          exact fun h => by cases h
        · right
          rw [e, (HI.out.hd (by omega) hs).1]
          intro h
          rw [h, HDK.out] at hs
          cases hs
      have HST : Hid _ := DI.step (fun x => by have := (HOK.out x).to'; omega) (fun x _ => (HOK.out x).wo) hg.1 HI.out hk HDK.out HMX.out HKY2.out
      have hwk := (HOK.out k).wo
      go_wp2
      (try simp only [Exit.inBlock, Exit.then])
      refine HK2.out _ _ ?_
      clear HK2
      refine ch_t32 Q hPn wB wr lb lf ln lc F g HPR.out hlc h2 GR gb gd ga gr lo hll hlo D R P C HTT.out k hk HDD.out T pt ct HRR.out W pw cw HWW.out hne hT1 hwk hu ?_
      intro v158 v159 v160 v161 v162 v163 v164 v165 v166 v167 v168 v169 v170 v171 v172 v173 v174 v175 v176 v177 v178 v179 v180 v181 v182 v183 v184 v185 v186 v187 W' P' C' pw' cw' w9 hW' T9 D9 W9 G9
      exact HQ.out _ _ _ _ _ _ _ _ _ _ _ _ _ _ _ _ _ _ _ _ _ _ _ _ _ _ _ _ _ _ _ _ _ _ _ _ _ _ _ _ _ _ _ _ _ _ _ _ _ _ _ _ _ _ _ _ _ _ _ _ _ _ _ _ _ _ _ _ _ _ _ _ _ _ _ _ _ _ _ _ _ _ _ _ _ _ _ _ _ _ _ W' _ P' C' pw' cw' w9 (by rw [hW']; exact HST.out) T9 D9 W9 G9 (Nat.le_trans W9.lo' (Nat.le_of_lt W9.bx.lt))
end
end Go.Proofs.Ytpcejajijaphbaa
