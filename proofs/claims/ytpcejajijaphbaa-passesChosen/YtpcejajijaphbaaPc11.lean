import Derived.Test.YtpcejajijaphbaaPc10
import Derived.Test.YtpcejajijaphbaaPc2
namespace Go.Proofs.Ytpcejajijaphbaa
open Go.RowKit
set_option maxRecDepth 100000
set_option linter.unusedVariables false
set_option linter.unusedSimpArgs false

section
set_option maxHeartbeats 16000000 in
theorem ch_t20 {u1 u2 u3 u4 u5 u6 u7 u8 u9 u11 u14 u15 u16 u17 u18 u19 u20 u21 u22 u23 u24 u25 u26 u27 u28 u29 u30 u31 u32 u33 u34 u35 u36 u37 u38 u39 u40 u41 u42 u43 u44 u45 u46 u47 u48 u49 u50 u51 u52 u53 u54 u55 u56 u57 u58 u59 u60 u61 u62 u63 u64 u65 u66 u67 u68 u69 u70 u71 u72 u73 u74 u75 u76 u77 u78 u79 u80 u81 u82 u83 u84 u85 u86 u87 u88 u89 u90 u91 u92 u93 u94 u95 u96 u97 u98 u99 u100 u101 u102 u103 u104 u105 u106 u107 u108 u109 u110 u111 u112 u113 u114 u115 u116 u117 u118 u119 u120 u121 u122 u123 u124 u125 u126 u127 u128 u129 u130 u131 u132 u133 u134 u135 u136 u137 u138 u139 u140 u141 u142 u143 u144 u145 u146 u147 u148 u149 u150 u151 u152 u153 u154 u155 u156 u157 u158 u159 u160 u161 u162 u163 u164 u165 u166 u167 u168 u169 u170 u171 u172 u173 u174 u175 u176 u177 u178 u179 u180 u181 u182 u183 u184 u185 u186 u187 u188 u189 u190 u191 u192 : Value} (Q : Exit → Act → World → Prop) (hPn : ∀ c (a1 a2 : Act) w, a1.defers = a2.defers → Q (.panic c) a1 w → Q (.panic c) a2 w) (wB w : World) (lb lf ln lc : Nat) (F : Nat → Pa) (g : Int) (hP : ∀ j, j < ln → wB.rangeAt lb (lf + j * 4) (F j).cells) (hlc : ln ≤ lc ∧ lc ≤ 9223372036854775807) (h2 : ln ≤ 200) (GB : wB.grownBy w none) (gd lo : Nat) (D : Nat → Bool) (hD : TD w lo gd ln D) (i : Nat) (hi : i < ln) (z : Int) (hz : Lt F D i z)
    (hQ : ∀ v75 v76 v77 v78 v79 v80 v81 v82 v83 v84 v85 v86 v87 v88 v89 v90 v91 v92 v93 v94 v95 v96 v97 v98 v99 (z' : Int), Lt F D (i + 1) z' → w.grownBy w.drew none → Q .normal (Act.mk (List.toArray ((.slice (some ⟨lb, lf, none⟩) ln lc) :: u1 :: u2 :: u3 :: u4 :: u5 :: u6 :: u7 :: u8 :: u9 :: (.slice (some ⟨gd, 0, none⟩) ln ln) :: u11 :: (.int .i64 z') :: (.int .i64 ((i : Int) + 1)) :: u14 :: u15 :: u16 :: u17 :: u18 :: u19 :: u20 :: u21 :: u22 :: u23 :: u24 :: u25 :: u26 :: u27 :: u28 :: u29 :: u30 :: u31 :: u32 :: u33 :: u34 :: u35 :: u36 :: u37 :: u38 :: u39 :: u40 :: u41 :: u42 :: u43 :: u44 :: u45 :: u46 :: u47 :: u48 :: u49 :: u50 :: u51 :: u52 :: u53 :: u54 :: u55 :: u56 :: u57 :: u58 :: u59 :: u60 :: u61 :: u62 :: u63 :: u64 :: u65 :: u66 :: u67 :: u68 :: u69 :: u70 :: u71 :: u72 :: u73 :: u74 :: v75 :: v76 :: v77 :: v78 :: v79 :: v80 :: v81 :: v82 :: v83 :: v84 :: v85 :: v86 :: v87 :: v88 :: v89 :: v90 :: v91 :: v92 :: v93 :: v94 :: v95 :: v96 :: v97 :: v98 :: v99 :: u100 :: u101 :: u102 :: u103 :: u104 :: u105 :: u106 :: u107 :: u108 :: u109 :: u110 :: u111 :: u112 :: u113 :: u114 :: u115 :: u116 :: u117 :: u118 :: u119 :: u120 :: u121 :: u122 :: u123 :: u124 :: u125 :: u126 :: u127 :: u128 :: u129 :: u130 :: u131 :: u132 :: u133 :: u134 :: u135 :: u136 :: u137 :: u138 :: u139 :: u140 :: u141 :: u142 :: u143 :: u144 :: u145 :: u146 :: u147 :: u148 :: u149 :: u150 :: u151 :: u152 :: u153 :: u154 :: u155 :: u156 :: u157 :: u158 :: u159 :: u160 :: u161 :: u162 :: u163 :: u164 :: u165 :: u166 :: u167 :: u168 :: u169 :: u170 :: u171 :: u172 :: u173 :: u174 :: u175 :: u176 :: u177 :: u178 :: u179 :: u180 :: u181 :: u182 :: u183 :: u184 :: u185 :: u186 :: u187 :: u188 :: u189 :: u190 :: u191 :: u192 :: [])) []) w.drew) :
    Code.wp Try.prog (tailR 20 (Try.f5.body.getD .skip)) Q (Act.mk (List.toArray ((.slice (some ⟨lb, lf, none⟩) ln lc) :: u1 :: u2 :: u3 :: u4 :: u5 :: u6 :: u7 :: u8 :: u9 :: (.slice (some ⟨gd, 0, none⟩) ln ln) :: u11 :: (.int .i64 z) :: (.int .i64 (i : Int)) :: u14 :: u15 :: u16 :: u17 :: u18 :: u19 :: u20 :: u21 :: u22 :: u23 :: u24 :: u25 :: u26 :: u27 :: u28 :: u29 :: u30 :: u31 :: u32 :: u33 :: u34 :: u35 :: u36 :: u37 :: u38 :: u39 :: u40 :: u41 :: u42 :: u43 :: u44 :: u45 :: u46 :: u47 :: u48 :: u49 :: u50 :: u51 :: u52 :: u53 :: u54 :: u55 :: u56 :: u57 :: u58 :: u59 :: u60 :: u61 :: u62 :: u63 :: u64 :: u65 :: u66 :: u67 :: u68 :: u69 :: u70 :: u71 :: u72 :: u73 :: u74 :: u75 :: u76 :: u77 :: u78 :: u79 :: u80 :: u81 :: u82 :: u83 :: u84 :: u85 :: u86 :: u87 :: u88 :: u89 :: u90 :: u91 :: u92 :: u93 :: u94 :: u95 :: u96 :: u97 :: u98 :: u99 :: u100 :: u101 :: u102 :: u103 :: u104 :: u105 :: u106 :: u107 :: u108 :: u109 :: u110 :: u111 :: u112 :: u113 :: u114 :: u115 :: u116 :: u117 :: u118 :: u119 :: u120 :: u121 :: u122 :: u123 :: u124 :: u125 :: u126 :: u127 :: u128 :: u129 :: u130 :: u131 :: u132 :: u133 :: u134 :: u135 :: u136 :: u137 :: u138 :: u139 :: u140 :: u141 :: u142 :: u143 :: u144 :: u145 :: u146 :: u147 :: u148 :: u149 :: u150 :: u151 :: u152 :: u153 :: u154 :: u155 :: u156 :: u157 :: u158 :: u159 :: u160 :: u161 :: u162 :: u163 :: u164 :: u165 :: u166 :: u167 :: u168 :: u169 :: u170 :: u171 :: u172 :: u173 :: u174 :: u175 :: u176 :: u177 :: u178 :: u179 :: u180 :: u181 :: u182 :: u183 :: u184 :: u185 :: u186 :: u187 :: u188 :: u189 :: u190 :: u191 :: u192 :: [])) []) w := by
  conv => enter [2]; whnf
  have HQ : Hid _ := hQ
  have HZ : Hid _ := hz
  have ci := hD.cell hi
  have ri := range_kp (hP i hi) GB
  have cfi : w.cell? ⟨lb, lf + i * 4 + 1, none⟩ = some (.int .i64 (F i).fr) := ri 1 _ rfl
  have lii : (i : Int) < (ln : Int) := by omega
  have hcs := hz.cases
  have cf0 : ∀ k, k < ln → w.cell? ⟨lb, lf + k * 4 + 1, none⟩ = some (.int .i64 (F k).fr) := fun k hk => range_kp (hP k hk) GB 1 _ rfl
  have HC0 : Hid _ := cf0
  clear hQ ri cf0 hD hP hz
  obtain ⟨d, hd⟩ : ∃ d, D i = d := ⟨_, rfl⟩
  rw [hd] at ci
  have HD : Hid _ := hd
  clear hd
  cases d with
  | true =>
    have H9 : Hid _ := Lt.done HZ.out HD.out
    clear HZ HD hcs cfi
    refine wp_seq_k fun K0 hK0 => ?_
    have HK0 : Hid _ := hK0
    clear hK0
    refine wp_block ?_
    refine wp_seq_k fun K1 hK1 => ?_
    have HK1 : Hid _ := hK1
    clear hK1
    have Gd := grown_drew w none
    have SS : w.drew.cell? ⟨gd, i, none⟩ = some (.bool true) := cell_drew _ ci
    refine wp_regionM (fun wz => wz.cell? ⟨gd, i, none⟩ = some (.bool true)) [] #[false, false, false, false, false, false, false, false, false, false, false, false, false, false, false, false, false, false, false, false, false, false] rfl (by kernel_rfl) ?_
    generalize w.drew = wd at *
    refine wpAnyY_takeF 0 (.slice (some ⟨gd, 0, none⟩) ln ln) rfl (by kernel_rfl) (fun _ _ _ h => hPn _ _ _ _ (by rfl) h) rfl (by intro wz; go_simp; try rfl) ?_
    try simp only [List.getElem_toArray, List.getElem_cons_succ, List.getElem_cons_zero, Act.put, List.setIfInBounds_toArray, List.set_cons_zero, List.set_cons_succ]
    refine wpAnyY_takeF 1 (.int .i64 (i : Int)) rfl (by kernel_rfl) (fun _ _ _ h => hPn _ _ _ _ (by rfl) h) rfl (by intro wz; go_simp; try rfl) ?_
    try simp only [List.getElem_toArray, List.getElem_cons_succ, List.getElem_cons_zero, Act.put, List.setIfInBounds_toArray, List.set_cons_zero, List.set_cons_succ]
    refine wpAnyY_takeF 2 (.pointer (some ⟨gd, i, none⟩)) rfl (by kernel_rfl) (fun _ _ _ h => hPn _ _ _ _ (by rfl) h) rfl (by intro wz; go_simp; try rfl) ?_
    try simp only [List.getElem_toArray, List.getElem_cons_succ, List.getElem_cons_zero, Act.put, List.setIfInBounds_toArray, List.set_cons_zero, List.set_cons_succ]
    refine wpAnyY_take [] 3 (.bool true) rfl (by kernel_rfl) (fun _ _ _ h => hPn _ _ _ _ (by rfl) h) SS rfl (by rintro wz z1; go_simp) ?_
    try simp only [List.getElem_toArray, List.getElem_cons_succ, List.getElem_cons_zero, Act.put, List.setIfInBounds_toArray, List.set_cons_zero, List.set_cons_succ]
    refine wpAnyY_takeF 4 (.bool false) rfl (by kernel_rfl) (fun _ _ _ h => hPn _ _ _ _ (by rfl) h) rfl (by intro wz; go_simp; try rfl) ?_
    try simp only [List.getElem_toArray, List.getElem_cons_succ, List.getElem_cons_zero, Act.put, List.setIfInBounds_toArray, List.set_cons_zero, List.set_cons_succ]
    refine wpAnyY_takeF 5 (.bool false) rfl (by kernel_rfl) (fun _ _ _ h => hPn _ _ _ _ (by rfl) h) rfl (by intro wz; go_simp; try rfl) ?_
    try simp only [List.getElem_toArray, List.getElem_cons_succ, List.getElem_cons_zero, Act.put, List.setIfInBounds_toArray, List.set_cons_zero, List.set_cons_succ]
    refine wpAnyY_skipR 6 rfl (by kernel_rfl) (fun _ _ _ h => hPn _ _ _ _ (by rfl) h) rfl ?_
    try simp only [List.getElem_toArray, List.getElem_cons_succ, List.getElem_cons_zero, Act.put, List.setIfInBounds_toArray, List.set_cons_zero, List.set_cons_succ]
    refine wpAnyY_skipR 7 rfl (by kernel_rfl) (fun _ _ _ h => hPn _ _ _ _ (by rfl) h) rfl ?_
    try simp only [List.getElem_toArray, List.getElem_cons_succ, List.getElem_cons_zero, Act.put, List.setIfInBounds_toArray, List.set_cons_zero, List.set_cons_succ]
    refine wpAnyY_skipR 8 rfl (by kernel_rfl) (fun _ _ _ h => hPn _ _ _ _ (by rfl) h) rfl ?_
    try simp only [List.getElem_toArray, List.getElem_cons_succ, List.getElem_cons_zero, Act.put, List.setIfInBounds_toArray, List.set_cons_zero, List.set_cons_succ]
    refine wpAnyY_skipR 9 rfl (by kernel_rfl) (fun _ _ _ h => hPn _ _ _ _ (by rfl) h) rfl ?_
    try simp only [List.getElem_toArray, List.getElem_cons_succ, List.getElem_cons_zero, Act.put, List.setIfInBounds_toArray, List.set_cons_zero, List.set_cons_succ]
    refine wpAnyY_skipR 10 rfl (by kernel_rfl) (fun _ _ _ h => hPn _ _ _ _ (by rfl) h) rfl ?_
    try simp only [List.getElem_toArray, List.getElem_cons_succ, List.getElem_cons_zero, Act.put, List.setIfInBounds_toArray, List.set_cons_zero, List.set_cons_succ]
    refine wpAnyY_skipR 11 rfl (by kernel_rfl) (fun _ _ _ h => hPn _ _ _ _ (by rfl) h) rfl ?_
    try simp only [List.getElem_toArray, List.getElem_cons_succ, List.getElem_cons_zero, Act.put, List.setIfInBounds_toArray, List.set_cons_zero, List.set_cons_succ]
    refine wpAnyY_skipR 12 rfl (by kernel_rfl) (fun _ _ _ h => hPn _ _ _ _ (by rfl) h) rfl ?_
    try simp only [List.getElem_toArray, List.getElem_cons_succ, List.getElem_cons_zero, Act.put, List.setIfInBounds_toArray, List.set_cons_zero, List.set_cons_succ]
    refine wpAnyY_skipR 13 rfl (by kernel_rfl) (fun _ _ _ h => hPn _ _ _ _ (by rfl) h) rfl ?_
    try simp only [List.getElem_toArray, List.getElem_cons_succ, List.getElem_cons_zero, Act.put, List.setIfInBounds_toArray, List.set_cons_zero, List.set_cons_succ]
    refine wpAnyY_skipR 14 rfl (by kernel_rfl) (fun _ _ _ h => hPn _ _ _ _ (by rfl) h) rfl ?_
    try simp only [List.getElem_toArray, List.getElem_cons_succ, List.getElem_cons_zero, Act.put, List.setIfInBounds_toArray, List.set_cons_zero, List.set_cons_succ]
    refine wpAnyY_skipR 15 rfl (by kernel_rfl) (fun _ _ _ h => hPn _ _ _ _ (by rfl) h) rfl ?_
    try simp only [List.getElem_toArray, List.getElem_cons_succ, List.getElem_cons_zero, Act.put, List.setIfInBounds_toArray, List.set_cons_zero, List.set_cons_succ]
    refine wpAnyY_skipR 16 rfl (by kernel_rfl) (fun _ _ _ h => hPn _ _ _ _ (by rfl) h) rfl ?_
    try simp only [List.getElem_toArray, List.getElem_cons_succ, List.getElem_cons_zero, Act.put, List.setIfInBounds_toArray, List.set_cons_zero, List.set_cons_succ]
    refine wpAnyY_skipR 17 rfl (by kernel_rfl) (fun _ _ _ h => hPn _ _ _ _ (by rfl) h) rfl ?_
    try simp only [List.getElem_toArray, List.getElem_cons_succ, List.getElem_cons_zero, Act.put, List.setIfInBounds_toArray, List.set_cons_zero, List.set_cons_succ]
    refine wpAnyY_skipR 18 rfl (by kernel_rfl) (fun _ _ _ h => hPn _ _ _ _ (by rfl) h) rfl ?_
    try simp only [List.getElem_toArray, List.getElem_cons_succ, List.getElem_cons_zero, Act.put, List.setIfInBounds_toArray, List.set_cons_zero, List.set_cons_succ]
    refine wpAnyY_skipR 19 rfl (by kernel_rfl) (fun _ _ _ h => hPn _ _ _ _ (by rfl) h) rfl ?_
    try simp only [List.getElem_toArray, List.getElem_cons_succ, List.getElem_cons_zero, Act.put, List.setIfInBounds_toArray, List.set_cons_zero, List.set_cons_succ]
    refine wpAnyY_skipR 20 rfl (by kernel_rfl) (fun _ _ _ h => hPn _ _ _ _ (by rfl) h) rfl ?_
    try simp only [List.getElem_toArray, List.getElem_cons_succ, List.getElem_cons_zero, Act.put, List.setIfInBounds_toArray, List.set_cons_zero, List.set_cons_succ]
    refine wpAnyY_takeF 21 (.bool false) rfl (by kernel_rfl) (fun _ _ _ h => hPn _ _ _ _ (by rfl) h) rfl (by intro wz; go_simp; try rfl) ?_
    try simp only [List.getElem_toArray, List.getElem_cons_succ, List.getElem_cons_zero, Act.put, List.setIfInBounds_toArray, List.set_cons_zero, List.set_cons_succ]
    refine wpAnyY_doneB (by kernel_rfl) ?_ _
    refine HK1.out _ _ ?_
    clear HK1
    go_wp2
    (try simp only [Exit.inBlock, Exit.then])
    refine HK0.out _ _ ?_
    clear HK0
    go_wp2
    first | exact HQ.out _ _ _ _ _ _ _ _ _ _ _ _ _ _ _ _ _ _ _ _ _ _ _ _ _ _ H9.out Gd | exact HQ.out _ _ _ _ _ _ _ _ _ _ _ _ _ _ _ _ _ _ _ _ _ _ _ _ _ _ H9.out (grown_drew w none)
  | false =>
    rcases hcs with hz1 | ⟨k, hz1, hk, hDk⟩
    · subst hz1
      have H9 : Hid _ := Lt.none HZ.out HD.out
      clear HZ HD cfi
      refine wp_seq_k fun K0 hK0 => ?_
      have HK0 : Hid _ := hK0
      clear hK0
      refine wp_block ?_
      refine wp_seq_k fun K1 hK1 => ?_
      have HK1 : Hid _ := hK1
      clear hK1
      have Gd := grown_drew w none
      have SS : w.drew.cell? ⟨gd, i, none⟩ = some (.bool false) := cell_drew _ ci
      refine wp_regionM (fun wz => wz.cell? ⟨gd, i, none⟩ = some (.bool false)) [] #[false, false, false, false, false, false, false, false, false, false, false, false, false, false, false, false, false, false, false, false, false, false] rfl (by kernel_rfl) ?_
      generalize w.drew = wd at *
      refine wpAnyY_takeF 0 (.slice (some ⟨gd, 0, none⟩) ln ln) rfl (by kernel_rfl) (fun _ _ _ h => hPn _ _ _ _ (by rfl) h) rfl (by intro wz; go_simp; try rfl) ?_
      try simp only [List.getElem_toArray, List.getElem_cons_succ, List.getElem_cons_zero, Act.put, List.setIfInBounds_toArray, List.set_cons_zero, List.set_cons_succ]
      refine wpAnyY_takeF 1 (.int .i64 (i : Int)) rfl (by kernel_rfl) (fun _ _ _ h => hPn _ _ _ _ (by rfl) h) rfl (by intro wz; go_simp; try rfl) ?_
      try simp only [List.getElem_toArray, List.getElem_cons_succ, List.getElem_cons_zero, Act.put, List.setIfInBounds_toArray, List.set_cons_zero, List.set_cons_succ]
      refine wpAnyY_takeF 2 (.pointer (some ⟨gd, i, none⟩)) rfl (by kernel_rfl) (fun _ _ _ h => hPn _ _ _ _ (by rfl) h) rfl (by intro wz; go_simp; try rfl) ?_
      try simp only [List.getElem_toArray, List.getElem_cons_succ, List.getElem_cons_zero, Act.put, List.setIfInBounds_toArray, List.set_cons_zero, List.set_cons_succ]
      refine wpAnyY_take [] 3 (.bool false) rfl (by kernel_rfl) (fun _ _ _ h => hPn _ _ _ _ (by rfl) h) SS rfl (by rintro wz z1; go_simp) ?_
      try simp only [List.getElem_toArray, List.getElem_cons_succ, List.getElem_cons_zero, Act.put, List.setIfInBounds_toArray, List.set_cons_zero, List.set_cons_succ]
      refine wpAnyY_takeF 4 (.bool true) rfl (by kernel_rfl) (fun _ _ _ h => hPn _ _ _ _ (by rfl) h) rfl (by intro wz; go_simp; try rfl) ?_
      try simp only [List.getElem_toArray, List.getElem_cons_succ, List.getElem_cons_zero, Act.put, List.setIfInBounds_toArray, List.set_cons_zero, List.set_cons_succ]
      refine wpAnyY_takeF 5 (.bool true) rfl (by kernel_rfl) (fun _ _ _ h => hPn _ _ _ _ (by rfl) h) rfl (by intro wz; go_simp; try rfl) ?_
      try simp only [List.getElem_toArray, List.getElem_cons_succ, List.getElem_cons_zero, Act.put, List.setIfInBounds_toArray, List.set_cons_zero, List.set_cons_succ]
      refine wpAnyY_takeF 6 (.int .i64 (-1)) rfl (by kernel_rfl) (fun _ _ _ h => hPn _ _ _ _ (by rfl) h) rfl (by intro wz; go_simp; try rfl) ?_
      try simp only [List.getElem_toArray, List.getElem_cons_succ, List.getElem_cons_zero, Act.put, List.setIfInBounds_toArray, List.set_cons_zero, List.set_cons_succ]
      refine wpAnyY_takeF 7 (.bool true) rfl (by kernel_rfl) (fun _ _ _ h => hPn _ _ _ _ (by rfl) h) rfl (by intro wz; go_simp; try rfl) ?_
      try simp only [List.getElem_toArray, List.getElem_cons_succ, List.getElem_cons_zero, Act.put, List.setIfInBounds_toArray, List.set_cons_zero, List.set_cons_succ]
      refine wpAnyY_takeF 8 (.bool true) rfl (by kernel_rfl) (fun _ _ _ h => hPn _ _ _ _ (by rfl) h) rfl (by intro wz; go_simp; try rfl) ?_
      try simp only [List.getElem_toArray, List.getElem_cons_succ, List.getElem_cons_zero, Act.put, List.setIfInBounds_toArray, List.set_cons_zero, List.set_cons_succ]
      refine wpAnyY_skipR 9 rfl (by kernel_rfl) (fun _ _ _ h => hPn _ _ _ _ (by rfl) h) rfl ?_
      try simp only [List.getElem_toArray, List.getElem_cons_succ, List.getElem_cons_zero, Act.put, List.setIfInBounds_toArray, List.set_cons_zero, List.set_cons_succ]
      refine wpAnyY_skipR 10 rfl (by kernel_rfl) (fun _ _ _ h => hPn _ _ _ _ (by rfl) h) rfl ?_
      try simp only [List.getElem_toArray, List.getElem_cons_succ, List.getElem_cons_zero, Act.put, List.setIfInBounds_toArray, List.set_cons_zero, List.set_cons_succ]
      refine wpAnyY_skipR 11 rfl (by kernel_rfl) (fun _ _ _ h => hPn _ _ _ _ (by rfl) h) rfl ?_
      try simp only [List.getElem_toArray, List.getElem_cons_succ, List.getElem_cons_zero, Act.put, List.setIfInBounds_toArray, List.set_cons_zero, List.set_cons_succ]
      refine wpAnyY_skipR 12 rfl (by kernel_rfl) (fun _ _ _ h => hPn _ _ _ _ (by rfl) h) rfl ?_
      try simp only [List.getElem_toArray, List.getElem_cons_succ, List.getElem_cons_zero, Act.put, List.setIfInBounds_toArray, List.set_cons_zero, List.set_cons_succ]
      refine wpAnyY_skipR 13 rfl (by kernel_rfl) (fun _ _ _ h => hPn _ _ _ _ (by rfl) h) rfl ?_
      try simp only [List.getElem_toArray, List.getElem_cons_succ, List.getElem_cons_zero, Act.put, List.setIfInBounds_toArray, List.set_cons_zero, List.set_cons_succ]
      refine wpAnyY_skipR 14 rfl (by kernel_rfl) (fun _ _ _ h => hPn _ _ _ _ (by rfl) h) rfl ?_
      try simp only [List.getElem_toArray, List.getElem_cons_succ, List.getElem_cons_zero, Act.put, List.setIfInBounds_toArray, List.set_cons_zero, List.set_cons_succ]
      refine wpAnyY_skipR 15 rfl (by kernel_rfl) (fun _ _ _ h => hPn _ _ _ _ (by rfl) h) rfl ?_
      try simp only [List.getElem_toArray, List.getElem_cons_succ, List.getElem_cons_zero, Act.put, List.setIfInBounds_toArray, List.set_cons_zero, List.set_cons_succ]
      refine wpAnyY_skipR 16 rfl (by kernel_rfl) (fun _ _ _ h => hPn _ _ _ _ (by rfl) h) rfl ?_
      try simp only [List.getElem_toArray, List.getElem_cons_succ, List.getElem_cons_zero, Act.put, List.setIfInBounds_toArray, List.set_cons_zero, List.set_cons_succ]
      refine wpAnyY_skipR 17 rfl (by kernel_rfl) (fun _ _ _ h => hPn _ _ _ _ (by rfl) h) rfl ?_
      try simp only [List.getElem_toArray, List.getElem_cons_succ, List.getElem_cons_zero, Act.put, List.setIfInBounds_toArray, List.set_cons_zero, List.set_cons_succ]
      refine wpAnyY_skipR 18 rfl (by kernel_rfl) (fun _ _ _ h => hPn _ _ _ _ (by rfl) h) rfl ?_
      try simp only [List.getElem_toArray, List.getElem_cons_succ, List.getElem_cons_zero, Act.put, List.setIfInBounds_toArray, List.set_cons_zero, List.set_cons_succ]
      refine wpAnyY_skipR 19 rfl (by kernel_rfl) (fun _ _ _ h => hPn _ _ _ _ (by rfl) h) rfl ?_
      try simp only [List.getElem_toArray, List.getElem_cons_succ, List.getElem_cons_zero, Act.put, List.setIfInBounds_toArray, List.set_cons_zero, List.set_cons_succ]
      refine wpAnyY_takeF 20 (.bool true) rfl (by kernel_rfl) (fun _ _ _ h => hPn _ _ _ _ (by rfl) h) rfl (by intro wz; go_simp; try rfl) ?_
      try simp only [List.getElem_toArray, List.getElem_cons_succ, List.getElem_cons_zero, Act.put, List.setIfInBounds_toArray, List.set_cons_zero, List.set_cons_succ]
      refine wpAnyY_takeF 21 (.bool true) rfl (by kernel_rfl) (fun _ _ _ h => hPn _ _ _ _ (by rfl) h) rfl (by intro wz; go_simp; try rfl) ?_
      try simp only [List.getElem_toArray, List.getElem_cons_succ, List.getElem_cons_zero, Act.put, List.setIfInBounds_toArray, List.set_cons_zero, List.set_cons_succ]
      refine wpAnyY_doneB (by kernel_rfl) ?_ _
      refine HK1.out _ _ ?_
      clear HK1
      go_wp2
      (try simp only [Exit.inBlock, Exit.then])
      refine HK0.out _ _ ?_
      clear HK0
      go_wp2
      first | exact HQ.out _ _ _ _ _ _ _ _ _ _ _ _ _ _ _ _ _ _ _ _ _ _ _ _ _ _ H9.out Gd | exact HQ.out _ _ _ _ _ _ _ _ _ _ _ _ _ _ _ _ _ _ _ _ _ _ _ _ _ _ H9.out (grown_drew w none)
    · subst hz1
      have lkk : (k : Int) < (ln : Int) := by omega
      have cfk := HC0.out k (by omega)
      have H1 : Hid ((F k).fr < (F i).fr → Lt F D (i + 1) (i : Int)) := fun h => Lt.later HZ.out HD.out h
      have H2 : Hid (¬ (F k).fr < (F i).fr → Lt F D (i + 1) (k : Int)) := fun h => Lt.stay HZ.out h
      clear HZ HD HC0
      generalize (F i).fr = fi at *
      generalize (F k).fr = fk at *
      by_cases hlt : fk < fi
      · have H9 : Hid _ := H1.out hlt
        clear H1 H2
        refine wp_seq_k fun K0 hK0 => ?_
        have HK0 : Hid _ := hK0
        clear hK0
        refine wp_block ?_
        refine wp_seq_k fun K1 hK1 => ?_
        have HK1 : Hid _ := hK1
        clear hK1
        have Gd := grown_drew w none
        have SS : w.drew.cell? ⟨gd, i, none⟩ = some (.bool false) ∧ w.drew.cell? ⟨lb, lf + i * 4 + 1, none⟩ = some (.int .i64 fi) ∧ w.drew.cell? ⟨lb, lf + k * 4 + 1, none⟩ = some (.int .i64 fk) := ⟨cell_drew _ ci, cell_drew _ cfi, cell_drew _ cfk⟩
        refine wp_regionM (fun wz => wz.cell? ⟨gd, i, none⟩ = some (.bool false) ∧ wz.cell? ⟨lb, lf + i * 4 + 1, none⟩ = some (.int .i64 fi) ∧ wz.cell? ⟨lb, lf + k * 4 + 1, none⟩ = some (.int .i64 fk)) [] #[false, false, false, false, false, false, false, false, false, false, false, false, false, false, false, false, false, false, false, false, false, false] rfl (by kernel_rfl) ?_
        generalize w.drew = wd at *
        refine wpAnyY_takeF 0 (.slice (some ⟨gd, 0, none⟩) ln ln) rfl (by kernel_rfl) (fun _ _ _ h => hPn _ _ _ _ (by rfl) h) rfl (by intro wz; go_simp; try rfl) ?_
        try simp only [List.getElem_toArray, List.getElem_cons_succ, List.getElem_cons_zero, Act.put, List.setIfInBounds_toArray, List.set_cons_zero, List.set_cons_succ]
        refine wpAnyY_takeF 1 (.int .i64 (i : Int)) rfl (by kernel_rfl) (fun _ _ _ h => hPn _ _ _ _ (by rfl) h) rfl (by intro wz; go_simp; try rfl) ?_
        try simp only [List.getElem_toArray, List.getElem_cons_succ, List.getElem_cons_zero, Act.put, List.setIfInBounds_toArray, List.set_cons_zero, List.set_cons_succ]
        refine wpAnyY_takeF 2 (.pointer (some ⟨gd, i, none⟩)) rfl (by kernel_rfl) (fun _ _ _ h => hPn _ _ _ _ (by rfl) h) rfl (by intro wz; go_simp; try rfl) ?_
        try simp only [List.getElem_toArray, List.getElem_cons_succ, List.getElem_cons_zero, Act.put, List.setIfInBounds_toArray, List.set_cons_zero, List.set_cons_succ]
        refine wpAnyY_take [] 3 (.bool false) rfl (by kernel_rfl) (fun _ _ _ h => hPn _ _ _ _ (by rfl) h) SS rfl (by rintro wz ⟨z1, z2, z3⟩; go_simp) ?_
        try simp only [List.getElem_toArray, List.getElem_cons_succ, List.getElem_cons_zero, Act.put, List.setIfInBounds_toArray, List.set_cons_zero, List.set_cons_succ]
        refine wpAnyY_takeF 4 (.bool true) rfl (by kernel_rfl) (fun _ _ _ h => hPn _ _ _ _ (by rfl) h) rfl (by intro wz; go_simp; try rfl) ?_
        try simp only [List.getElem_toArray, List.getElem_cons_succ, List.getElem_cons_zero, Act.put, List.setIfInBounds_toArray, List.set_cons_zero, List.set_cons_succ]
        refine wpAnyY_takeF 5 (.bool true) rfl (by kernel_rfl) (fun _ _ _ h => hPn _ _ _ _ (by rfl) h) rfl (by intro wz; go_simp; try rfl) ?_
        try simp only [List.getElem_toArray, List.getElem_cons_succ, List.getElem_cons_zero, Act.put, List.setIfInBounds_toArray, List.set_cons_zero, List.set_cons_succ]
        refine wpAnyY_takeF 6 (.int .i64 (k : Int)) rfl (by kernel_rfl) (fun _ _ _ h => hPn _ _ _ _ (by rfl) h) rfl (by intro wz; go_simp; try rfl) ?_
        try simp only [List.getElem_toArray, List.getElem_cons_succ, List.getElem_cons_zero, Act.put, List.setIfInBounds_toArray, List.set_cons_zero, List.set_cons_succ]
        refine wpAnyY_takeF 7 (.bool false) rfl (by kernel_rfl) (fun _ _ _ h => hPn _ _ _ _ (by rfl) h) rfl (by intro wz; go_simp; try rfl) ?_
        try simp only [List.getElem_toArray, List.getElem_cons_succ, List.getElem_cons_zero, Act.put, List.setIfInBounds_toArray, List.set_cons_zero, List.set_cons_succ]
        refine wpAnyY_takeF 8 (.bool false) rfl (by kernel_rfl) (fun _ _ _ h => hPn _ _ _ _ (by rfl) h) rfl (by intro wz; go_simp; try rfl) ?_
        try simp only [List.getElem_toArray, List.getElem_cons_succ, List.getElem_cons_zero, Act.put, List.setIfInBounds_toArray, List.set_cons_zero, List.set_cons_succ]
        refine wpAnyY_takeF 9 (.slice (some ⟨lb, lf, none⟩) ln lc) rfl (by kernel_rfl) (fun _ _ _ h => hPn _ _ _ _ (by rfl) h) rfl (by intro wz; go_simp; try rfl) ?_
        try simp only [List.getElem_toArray, List.getElem_cons_succ, List.getElem_cons_zero, Act.put, List.setIfInBounds_toArray, List.set_cons_zero, List.set_cons_succ]
        refine wpAnyY_takeF 10 (.int .i64 (i : Int)) rfl (by kernel_rfl) (fun _ _ _ h => hPn _ _ _ _ (by rfl) h) rfl (by intro wz; go_simp; try rfl) ?_
        try simp only [List.getElem_toArray, List.getElem_cons_succ, List.getElem_cons_zero, Act.put, List.setIfInBounds_toArray, List.set_cons_zero, List.set_cons_succ]
        refine wpAnyY_takeF 11 (.pointer (some ⟨lb, lf + i * 4, none⟩)) rfl (by kernel_rfl) (fun _ _ _ h => hPn _ _ _ _ (by rfl) h) rfl (by intro wz; go_simp; try rfl) ?_
        try simp only [List.getElem_toArray, List.getElem_cons_succ, List.getElem_cons_zero, Act.put, List.setIfInBounds_toArray, List.set_cons_zero, List.set_cons_succ]
        refine wpAnyY_takeF 12 (.pointer (some ⟨lb, lf + i * 4 + 1, none⟩)) rfl (by kernel_rfl) (fun _ _ _ h => hPn _ _ _ _ (by rfl) h) rfl (by intro wz; go_simp; try rfl) ?_
        try simp only [List.getElem_toArray, List.getElem_cons_succ, List.getElem_cons_zero, Act.put, List.setIfInBounds_toArray, List.set_cons_zero, List.set_cons_succ]
        refine wpAnyY_take [] 13 (.int .i64 fi) rfl (by kernel_rfl) (fun _ _ _ h => hPn _ _ _ _ (by rfl) h) SS rfl (by rintro wz ⟨z1, z2, z3⟩; go_simp) ?_
        try simp only [List.getElem_toArray, List.getElem_cons_succ, List.getElem_cons_zero, Act.put, List.setIfInBounds_toArray, List.set_cons_zero, List.set_cons_succ]
        refine wpAnyY_takeF 14 (.slice (some ⟨lb, lf, none⟩) ln lc) rfl (by kernel_rfl) (fun _ _ _ h => hPn _ _ _ _ (by rfl) h) rfl (by intro wz; go_simp; try rfl) ?_
        try simp only [List.getElem_toArray, List.getElem_cons_succ, List.getElem_cons_zero, Act.put, List.setIfInBounds_toArray, List.set_cons_zero, List.set_cons_succ]
        refine wpAnyY_takeF 15 (.int .i64 (k : Int)) rfl (by kernel_rfl) (fun _ _ _ h => hPn _ _ _ _ (by rfl) h) rfl (by intro wz; go_simp; try rfl) ?_
        try simp only [List.getElem_toArray, List.getElem_cons_succ, List.getElem_cons_zero, Act.put, List.setIfInBounds_toArray, List.set_cons_zero, List.set_cons_succ]
        refine wpAnyY_takeF 16 (.pointer (some ⟨lb, lf + k * 4, none⟩)) rfl (by kernel_rfl) (fun _ _ _ h => hPn _ _ _ _ (by rfl) h) rfl (by intro wz; go_simp; try rfl) ?_
        try simp only [List.getElem_toArray, List.getElem_cons_succ, List.getElem_cons_zero, Act.put, List.setIfInBounds_toArray, List.set_cons_zero, List.set_cons_succ]
        refine wpAnyY_takeF 17 (.pointer (some ⟨lb, lf + k * 4 + 1, none⟩)) rfl (by kernel_rfl) (fun _ _ _ h => hPn _ _ _ _ (by rfl) h) rfl (by intro wz; go_simp; try rfl) ?_
        try simp only [List.getElem_toArray, List.getElem_cons_succ, List.getElem_cons_zero, Act.put, List.setIfInBounds_toArray, List.set_cons_zero, List.set_cons_succ]
        refine wpAnyY_take [] 18 (.int .i64 fk) rfl (by kernel_rfl) (fun _ _ _ h => hPn _ _ _ _ (by rfl) h) SS rfl (by rintro wz ⟨z1, z2, z3⟩; go_simp) ?_
        try simp only [List.getElem_toArray, List.getElem_cons_succ, List.getElem_cons_zero, Act.put, List.setIfInBounds_toArray, List.set_cons_zero, List.set_cons_succ]
        refine wpAnyY_takeF 19 (.bool true) rfl (by kernel_rfl) (fun _ _ _ h => hPn _ _ _ _ (by rfl) h) rfl (by intro wz; go_simp; try rfl) ?_
        try simp only [List.getElem_toArray, List.getElem_cons_succ, List.getElem_cons_zero, Act.put, List.setIfInBounds_toArray, List.set_cons_zero, List.set_cons_succ]
        refine wpAnyY_takeF 20 (.bool true) rfl (by kernel_rfl) (fun _ _ _ h => hPn _ _ _ _ (by rfl) h) rfl (by intro wz; go_simp; try rfl) ?_
        try simp only [List.getElem_toArray, List.getElem_cons_succ, List.getElem_cons_zero, Act.put, List.setIfInBounds_toArray, List.set_cons_zero, List.set_cons_succ]
        refine wpAnyY_takeF 21 (.bool true) rfl (by kernel_rfl) (fun _ _ _ h => hPn _ _ _ _ (by rfl) h) rfl (by intro wz; go_simp; try rfl) ?_
        try simp only [List.getElem_toArray, List.getElem_cons_succ, List.getElem_cons_zero, Act.put, List.setIfInBounds_toArray, List.set_cons_zero, List.set_cons_succ]
        refine wpAnyY_doneB (by kernel_rfl) ?_ _
        refine HK1.out _ _ ?_
        clear HK1
        go_wp2
        (try simp only [Exit.inBlock, Exit.then])
        refine HK0.out _ _ ?_
        clear HK0
        go_wp2
        first | exact HQ.out _ _ _ _ _ _ _ _ _ _ _ _ _ _ _ _ _ _ _ _ _ _ _ _ _ _ H9.out Gd | exact HQ.out _ _ _ _ _ _ _ _ _ _ _ _ _ _ _ _ _ _ _ _ _ _ _ _ _ _ H9.out (grown_drew w none)
      · have H9 : Hid _ := H2.out hlt
        clear H1 H2
        refine wp_seq_k fun K0 hK0 => ?_
        have HK0 : Hid _ := hK0
        clear hK0
        refine wp_block ?_
        refine wp_seq_k fun K1 hK1 => ?_
        have HK1 : Hid _ := hK1
        clear hK1
        have Gd := grown_drew w none
        have SS : w.drew.cell? ⟨gd, i, none⟩ = some (.bool false) ∧ w.drew.cell? ⟨lb, lf + i * 4 + 1, none⟩ = some (.int .i64 fi) ∧ w.drew.cell? ⟨lb, lf + k * 4 + 1, none⟩ = some (.int .i64 fk) := ⟨cell_drew _ ci, cell_drew _ cfi, cell_drew _ cfk⟩
        refine wp_regionM (fun wz => wz.cell? ⟨gd, i, none⟩ = some (.bool false) ∧ wz.cell? ⟨lb, lf + i * 4 + 1, none⟩ = some (.int .i64 fi) ∧ wz.cell? ⟨lb, lf + k * 4 + 1, none⟩ = some (.int .i64 fk)) [] #[false, false, false, false, false, false, false, false, false, false, false, false, false, false, false, false, false, false, false, false, false, false] rfl (by kernel_rfl) ?_
        generalize w.drew = wd at *
        refine wpAnyY_takeF 0 (.slice (some ⟨gd, 0, none⟩) ln ln) rfl (by kernel_rfl) (fun _ _ _ h => hPn _ _ _ _ (by rfl) h) rfl (by intro wz; go_simp; try rfl) ?_
        try simp only [List.getElem_toArray, List.getElem_cons_succ, List.getElem_cons_zero, Act.put, List.setIfInBounds_toArray, List.set_cons_zero, List.set_cons_succ]
        refine wpAnyY_takeF 1 (.int .i64 (i : Int)) rfl (by kernel_rfl) (fun _ _ _ h => hPn _ _ _ _ (by rfl) h) rfl (by intro wz; go_simp; try rfl) ?_
        try simp only [List.getElem_toArray, List.getElem_cons_succ, List.getElem_cons_zero, Act.put, List.setIfInBounds_toArray, List.set_cons_zero, List.set_cons_succ]
        refine wpAnyY_takeF 2 (.pointer (some ⟨gd, i, none⟩)) rfl (by kernel_rfl) (fun _ _ _ h => hPn _ _ _ _ (by rfl) h) rfl (by intro wz; go_simp; try rfl) ?_
        try simp only [List.getElem_toArray, List.getElem_cons_succ, List.getElem_cons_zero, Act.put, List.setIfInBounds_toArray, List.set_cons_zero, List.set_cons_succ]
        refine wpAnyY_take [] 3 (.bool false) rfl (by kernel_rfl) (fun _ _ _ h => hPn _ _ _ _ (by rfl) h) SS rfl (by rintro wz ⟨z1, z2, z3⟩; go_simp) ?_
        try simp only [List.getElem_toArray, List.getElem_cons_succ, List.getElem_cons_zero, Act.put, List.setIfInBounds_toArray, List.set_cons_zero, List.set_cons_succ]
        refine wpAnyY_takeF 4 (.bool true) rfl (by kernel_rfl) (fun _ _ _ h => hPn _ _ _ _ (by rfl) h) rfl (by intro wz; go_simp; try rfl) ?_
        try simp only [List.getElem_toArray, List.getElem_cons_succ, List.getElem_cons_zero, Act.put, List.setIfInBounds_toArray, List.set_cons_zero, List.set_cons_succ]
        refine wpAnyY_takeF 5 (.bool true) rfl (by kernel_rfl) (fun _ _ _ h => hPn _ _ _ _ (by rfl) h) rfl (by intro wz; go_simp; try rfl) ?_
        try simp only [List.getElem_toArray, List.getElem_cons_succ, List.getElem_cons_zero, Act.put, List.setIfInBounds_toArray, List.set_cons_zero, List.set_cons_succ]
        refine wpAnyY_takeF 6 (.int .i64 (k : Int)) rfl (by kernel_rfl) (fun _ _ _ h => hPn _ _ _ _ (by rfl) h) rfl (by intro wz; go_simp; try rfl) ?_
        try simp only [List.getElem_toArray, List.getElem_cons_succ, List.getElem_cons_zero, Act.put, List.setIfInBounds_toArray, List.set_cons_zero, List.set_cons_succ]
        refine wpAnyY_takeF 7 (.bool false) rfl (by kernel_rfl) (fun _ _ _ h => hPn _ _ _ _ (by rfl) h) rfl (by intro wz; go_simp; try rfl) ?_
        try simp only [List.getElem_toArray, List.getElem_cons_succ, List.getElem_cons_zero, Act.put, List.setIfInBounds_toArray, List.set_cons_zero, List.set_cons_succ]
        refine wpAnyY_takeF 8 (.bool false) rfl (by kernel_rfl) (fun _ _ _ h => hPn _ _ _ _ (by rfl) h) rfl (by intro wz; go_simp; try rfl) ?_
        try simp only [List.getElem_toArray, List.getElem_cons_succ, List.getElem_cons_zero, Act.put, List.setIfInBounds_toArray, List.set_cons_zero, List.set_cons_succ]
        refine wpAnyY_takeF 9 (.slice (some ⟨lb, lf, none⟩) ln lc) rfl (by kernel_rfl) (fun _ _ _ h => hPn _ _ _ _ (by rfl) h) rfl (by intro wz; go_simp; try rfl) ?_
        try simp only [List.getElem_toArray, List.getElem_cons_succ, List.getElem_cons_zero, Act.put, List.setIfInBounds_toArray, List.set_cons_zero, List.set_cons_succ]
        refine wpAnyY_takeF 10 (.int .i64 (i : Int)) rfl (by kernel_rfl) (fun _ _ _ h => hPn _ _ _ _ (by rfl) h) rfl (by intro wz; go_simp; try rfl) ?_
        try simp only [List.getElem_toArray, List.getElem_cons_succ, List.getElem_cons_zero, Act.put, List.setIfInBounds_toArray, List.set_cons_zero, List.set_cons_succ]
        refine wpAnyY_takeF 11 (.pointer (some ⟨lb, lf + i * 4, none⟩)) rfl (by kernel_rfl) (fun _ _ _ h => hPn _ _ _ _ (by rfl) h) rfl (by intro wz; go_simp; try rfl) ?_
        try simp only [List.getElem_toArray, List.getElem_cons_succ, List.getElem_cons_zero, Act.put, List.setIfInBounds_toArray, List.set_cons_zero, List.set_cons_succ]
        refine wpAnyY_takeF 12 (.pointer (some ⟨lb, lf + i * 4 + 1, none⟩)) rfl (by kernel_rfl) (fun _ _ _ h => hPn _ _ _ _ (by rfl) h) rfl (by intro wz; go_simp; try rfl) ?_
        try simp only [List.getElem_toArray, List.getElem_cons_succ, List.getElem_cons_zero, Act.put, List.setIfInBounds_toArray, List.set_cons_zero, List.set_cons_succ]
        refine wpAnyY_take [] 13 (.int .i64 fi) rfl (by kernel_rfl) (fun _ _ _ h => hPn _ _ _ _ (by rfl) h) SS rfl (by rintro wz ⟨z1, z2, z3⟩; go_simp) ?_
        try simp only [List.getElem_toArray, List.getElem_cons_succ, List.getElem_cons_zero, Act.put, List.setIfInBounds_toArray, List.set_cons_zero, List.set_cons_succ]
        refine wpAnyY_takeF 14 (.slice (some ⟨lb, lf, none⟩) ln lc) rfl (by kernel_rfl) (fun _ _ _ h => hPn _ _ _ _ (by rfl) h) rfl (by intro wz; go_simp; try rfl) ?_
        try simp only [List.getElem_toArray, List.getElem_cons_succ, List.getElem_cons_zero, Act.put, List.setIfInBounds_toArray, List.set_cons_zero, List.set_cons_succ]
        refine wpAnyY_takeF 15 (.int .i64 (k : Int)) rfl (by kernel_rfl) (fun _ _ _ h => hPn _ _ _ _ (by rfl) h) rfl (by intro wz; go_simp; try rfl) ?_
        try simp only [List.getElem_toArray, List.getElem_cons_succ, List.getElem_cons_zero, Act.put, List.setIfInBounds_toArray, List.set_cons_zero, List.set_cons_succ]
        refine wpAnyY_takeF 16 (.pointer (some ⟨lb, lf + k * 4, none⟩)) rfl (by kernel_rfl) (fun _ _ _ h => hPn _ _ _ _ (by rfl) h) rfl (by intro wz; go_simp; try rfl) ?_
        try simp only [List.getElem_toArray, List.getElem_cons_succ, List.getElem_cons_zero, Act.put, List.setIfInBounds_toArray, List.set_cons_zero, List.set_cons_succ]
        refine wpAnyY_takeF 17 (.pointer (some ⟨lb, lf + k * 4 + 1, none⟩)) rfl (by kernel_rfl) (fun _ _ _ h => hPn _ _ _ _ (by rfl) h) rfl (by intro wz; go_simp; try rfl) ?_
        try simp only [List.getElem_toArray, List.getElem_cons_succ, List.getElem_cons_zero, Act.put, List.setIfInBounds_toArray, List.set_cons_zero, List.set_cons_succ]
        refine wpAnyY_take [] 18 (.int .i64 fk) rfl (by kernel_rfl) (fun _ _ _ h => hPn _ _ _ _ (by rfl) h) SS rfl (by rintro wz ⟨z1, z2, z3⟩; go_simp) ?_
        try simp only [List.getElem_toArray, List.getElem_cons_succ, List.getElem_cons_zero, Act.put, List.setIfInBounds_toArray, List.set_cons_zero, List.set_cons_succ]
        refine wpAnyY_takeF 19 (.bool false) rfl (by kernel_rfl) (fun _ _ _ h => hPn _ _ _ _ (by rfl) h) rfl (by intro wz; go_simp; try rfl) ?_
        try simp only [List.getElem_toArray, List.getElem_cons_succ, List.getElem_cons_zero, Act.put, List.setIfInBounds_toArray, List.set_cons_zero, List.set_cons_succ]
        refine wpAnyY_takeF 20 (.bool false) rfl (by kernel_rfl) (fun _ _ _ h => hPn _ _ _ _ (by rfl) h) rfl (by intro wz; go_simp; try rfl) ?_
        try simp only [List.getElem_toArray, List.getElem_cons_succ, List.getElem_cons_zero, Act.put, List.setIfInBounds_toArray, List.set_cons_zero, List.set_cons_succ]
        refine wpAnyY_takeF 21 (.bool false) rfl (by kernel_rfl) (fun _ _ _ h => hPn _ _ _ _ (by rfl) h) rfl (by intro wz; go_simp; try rfl) ?_
        try simp only [List.getElem_toArray, List.getElem_cons_succ, List.getElem_cons_zero, Act.put, List.setIfInBounds_toArray, List.set_cons_zero, List.set_cons_succ]
        refine wpAnyY_doneB (by kernel_rfl) ?_ _
        refine HK1.out _ _ ?_
        clear HK1
        go_wp2
        (try simp only [Exit.inBlock, Exit.then])
        refine HK0.out _ _ ?_
        clear HK0
        go_wp2
        first | exact HQ.out _ _ _ _ _ _ _ _ _ _ _ _ _ _ _ _ _ _ _ _ _ _ _ _ _ _ H9.out Gd | exact HQ.out _ _ _ _ _ _ _ _ _ _ _ _ _ _ _ _ _ _ _ _ _ _ _ _ _ _ H9.out (grown_drew w none)
end
end Go.Proofs.Ytpcejajijaphbaa
