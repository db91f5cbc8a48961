import Derived.Test.YtpcejajijaphbaaPc12
namespace Go.Proofs.Ytpcejajijaphbaa
open Go.RowKit
set_option maxRecDepth 100000
set_option linter.unusedVariables false
set_option linter.unusedSimpArgs false

section
set_option maxHeartbeats 32000000 in
theorem ch_t32 {u1 u2 u3 u4 u5 u6 u7 u8 u10 u13 u15 u16 u17 u18 u19 u20 u21 u22 u23 u24 u25 u26 u27 u28 u29 u30 u31 u32 u33 u34 u35 u36 u37 u38 u39 u40 u41 u42 u43 u44 u45 u46 u47 u48 u49 u50 u51 u52 u53 u54 u55 u56 u57 u58 u59 u60 u61 u62 u63 u64 u65 u66 u67 u68 u69 u70 u71 u72 u73 u74 u75 u76 u77 u78 u79 u80 u81 u82 u83 u84 u85 u86 u87 u88 u89 u90 u91 u92 u93 u94 u95 u96 u97 u98 u99 u100 u101 u102 u103 u104 u105 u106 u107 u108 u109 u110 u111 u112 u113 u114 u115 u116 u117 u118 u119 u120 u121 u122 u123 u124 u125 u126 u127 u128 u129 u130 u131 u132 u133 u134 u135 u136 u137 u138 u139 u140 u141 u142 u143 u144 u145 u146 u147 u148 u149 u150 u151 u152 u153 u154 u155 u156 u157 u158 u159 u160 u161 u162 u163 u164 u165 u166 u167 u168 u169 u170 u171 u172 u173 u174 u175 u176 u177 u178 u179 u180 u181 u182 u183 u184 u185 u186 u187 u188 u189 u190 u191 u192 : Value} (Q : Exit → Act → World → Prop) (hPn : ∀ c (a1 a2 : Act) w, a1.defers = a2.defers → Q (.panic c) a1 w → Q (.panic c) a2 w) (wB w : World) (lb lf ln lc : Nat) (F : Nat → Pa) (g : Int) (hP : ∀ j, j < ln → wB.rangeAt lb (lf + j * 4) (F j).cells) (hlc : ln ≤ lc ∧ lc ≤ 9223372036854775807) (h2 : ln ≤ 200) (GB : wB.grownBy w none) (gb gd ga gr lo : Nat) (hlw : lo ≤ w.heap.size) (hlo : wB.heap.size ≤ lo) (D : Nat → Bool) (R : Nat → Rv) (P : Nat → Option Addr) (C : Nat → Nat) (hT : TB w lo gb ln D R P C) (k : Nat) (hk : k < ln) (hD : TD w lo gd ln (setB D k)) (T : Rv) (pt : Option Addr) (ct : Nat) (hr : CB w lo gr T pt ct) (W : Rv) (pw : Option Addr) (cw : Nat) (hW : CB w lo ga W pw cw) (hne : gb ≠ ga) (hT1 : T.1.length ≤ 200 ∧ 0 ≤ T.2 ∧ T.2 ≤ 1000000000) (hwo : 0 ≤ (F k).wo ∧ (F k).wo ≤ 1000000) (hu : W.1.length ≠ T.1.length + 1 ∨ hdP W ≠ k)
    (hQ : ∀ v158 v159 v160 v161 v162 v163 v164 v165 v166 v167 v168 v169 v170 v171 v172 v173 v174 v175 v176 v177 v178 v179 v180 v181 v182 v183 v184 v185 v186 v187 (W' : Rv) (P' : Nat → Option Addr) (C' : Nat → Nat) (pw' : Option Addr) (cw' : Nat) (w' : World), W' = (if btB (k :: T.1, (F k).wo + T.2) W = true then (k :: T.1, (F k).wo + T.2) else W) → TB w' lo gb ln (setB D k) (setR R k (k :: T.1, (F k).wo + T.2)) P' C' → TD w' lo gd ln (setB D k) → CB w' lo ga W' pw' cw' → wB.grownBy w' none → Q .normal (Act.mk (List.toArray ((.slice (some ⟨lb, lf, none⟩) ln lc) :: u1 :: u2 :: u3 :: u4 :: u5 :: u6 :: u7 :: u8 :: (.slice (some ⟨gb, 0, none⟩) ln ln) :: u10 :: (.pointer (some ⟨ga, 0, none⟩)) :: (.int .i64 (k : Int)) :: u13 :: (.pointer (some ⟨gr, 0, none⟩)) :: u15 :: u16 :: u17 :: u18 :: u19 :: u20 :: u21 :: u22 :: u23 :: u24 :: u25 :: u26 :: u27 :: u28 :: u29 :: u30 :: u31 :: u32 :: u33 :: u34 :: u35 :: u36 :: u37 :: u38 :: u39 :: u40 :: u41 :: u42 :: u43 :: u44 :: u45 :: u46 :: u47 :: u48 :: u49 :: u50 :: u51 :: u52 :: u53 :: u54 :: u55 :: u56 :: u57 :: u58 :: u59 :: u60 :: u61 :: u62 :: u63 :: u64 :: u65 :: u66 :: u67 :: u68 :: u69 :: u70 :: u71 :: u72 :: u73 :: u74 :: u75 :: u76 :: u77 :: u78 :: u79 :: u80 :: u81 :: u82 :: u83 :: u84 :: u85 :: u86 :: u87 :: u88 :: u89 :: u90 :: u91 :: u92 :: u93 :: u94 :: u95 :: u96 :: u97 :: u98 :: u99 :: u100 :: u101 :: u102 :: u103 :: u104 :: u105 :: u106 :: u107 :: u108 :: u109 :: u110 :: u111 :: u112 :: u113 :: u114 :: u115 :: u116 :: u117 :: u118 :: u119 :: u120 :: u121 :: u122 :: u123 :: u124 :: u125 :: u126 :: u127 :: u128 :: u129 :: u130 :: u131 :: u132 :: u133 :: u134 :: u135 :: u136 :: u137 :: u138 :: u139 :: u140 :: u141 :: u142 :: u143 :: u144 :: u145 :: u146 :: u147 :: u148 :: u149 :: u150 :: u151 :: u152 :: u153 :: u154 :: u155 :: u156 :: u157 :: v158 :: v159 :: v160 :: v161 :: v162 :: v163 :: v164 :: v165 :: v166 :: v167 :: v168 :: v169 :: v170 :: v171 :: v172 :: v173 :: v174 :: v175 :: v176 :: v177 :: v178 :: v179 :: v180 :: v181 :: v182 :: v183 :: v184 :: v185 :: v186 :: v187 :: u188 :: u189 :: u190 :: u191 :: u192 :: [])) []) w') :
    Code.wp Try.prog (tailR 32 (Try.f5.body.getD .skip)) Q (Act.mk (List.toArray ((.slice (some ⟨lb, lf, none⟩) ln lc) :: u1 :: u2 :: u3 :: u4 :: u5 :: u6 :: u7 :: u8 :: (.slice (some ⟨gb, 0, none⟩) ln ln) :: u10 :: (.pointer (some ⟨ga, 0, none⟩)) :: (.int .i64 (k : Int)) :: u13 :: (.pointer (some ⟨gr, 0, none⟩)) :: u15 :: u16 :: u17 :: u18 :: u19 :: u20 :: u21 :: u22 :: u23 :: u24 :: u25 :: u26 :: u27 :: u28 :: u29 :: u30 :: u31 :: u32 :: u33 :: u34 :: u35 :: u36 :: u37 :: u38 :: u39 :: u40 :: u41 :: u42 :: u43 :: u44 :: u45 :: u46 :: u47 :: u48 :: u49 :: u50 :: u51 :: u52 :: u53 :: u54 :: u55 :: u56 :: u57 :: u58 :: u59 :: u60 :: u61 :: u62 :: u63 :: u64 :: u65 :: u66 :: u67 :: u68 :: u69 :: u70 :: u71 :: u72 :: u73 :: u74 :: u75 :: u76 :: u77 :: u78 :: u79 :: u80 :: u81 :: u82 :: u83 :: u84 :: u85 :: u86 :: u87 :: u88 :: u89 :: u90 :: u91 :: u92 :: u93 :: u94 :: u95 :: u96 :: u97 :: u98 :: u99 :: u100 :: u101 :: u102 :: u103 :: u104 :: u105 :: u106 :: u107 :: u108 :: u109 :: u110 :: u111 :: u112 :: u113 :: u114 :: u115 :: u116 :: u117 :: u118 :: u119 :: u120 :: u121 :: u122 :: u123 :: u124 :: u125 :: u126 :: u127 :: u128 :: u129 :: u130 :: u131 :: u132 :: u133 :: u134 :: u135 :: u136 :: u137 :: u138 :: u139 :: u140 :: u141 :: u142 :: u143 :: u144 :: u145 :: u146 :: u147 :: u148 :: u149 :: u150 :: u151 :: u152 :: u153 :: u154 :: u155 :: u156 :: u157 :: u158 :: u159 :: u160 :: u161 :: u162 :: u163 :: u164 :: u165 :: u166 :: u167 :: u168 :: u169 :: u170 :: u171 :: u172 :: u173 :: u174 :: u175 :: u176 :: u177 :: u178 :: u179 :: u180 :: u181 :: u182 :: u183 :: u184 :: u185 :: u186 :: u187 :: u188 :: u189 :: u190 :: u191 :: u192 :: [])) []) w := by
  conv => enter [2]; whnf
  have HQ : Hid _ := hQ
  have HT : Hid _ := hT
  have HD : Hid _ := hD
  have HW : Hid _ := hW
  have HPT : Hid _ := hr.pl
  have e0 : w.cell? ⟨gr, 0, none⟩ = some (.int .i64 T.2) := hr.bx.cell 0 (by show 0 < 3; decide)
  have e1 : w.cell? ⟨gr, 1, none⟩ = some (.int .i64 (T.1.length : Int)) := hr.bx.cell 1 (by show 1 < 3; decide)
  have e2 : w.cell? ⟨gr, 2, none⟩ = some (.slice pt T.1.length ct) := hr.bx.cell 2 (by show 2 < 3; decide)
  have cwo : w.cell? ⟨lb, lf + k * 4 + 3, none⟩ = some (.int .i64 (F k).wo) := range_kp (hP k hk) GB 3 _ rfl
  have lkk : (k : Int) < (ln : Int) := by omega
  have hgbl := Nat.le_trans hlo hT.lo'
  have hgal := Nat.le_trans hlo hW.lo'
  clear hQ hT hD hW hr hP
  generalize (F k).wo = wo at *
  refine wp_seq_k fun K0 hK0 => ?_
  have HK0 : Hid _ := hK0
  clear hK0
  have Gd := grown_drew w none
  have SS : w.drew.cell? ⟨gr, 0, none⟩ = some (.int .i64 T.2) ∧ w.drew.cell? ⟨gr, 1, none⟩ = some (.int .i64 (T.1.length : Int)) ∧ w.drew.cell? ⟨gr, 2, none⟩ = some (.slice pt T.1.length ct) ∧ w.drew.cell? ⟨lb, lf + k * 4 + 3, none⟩ = some (.int .i64 wo) := ⟨cell_drew _ e0, cell_drew _ e1, cell_drew _ e2, cell_drew _ cwo⟩
  refine wp_regionM (fun wz => wz.cell? ⟨gr, 0, none⟩ = some (.int .i64 T.2) ∧ wz.cell? ⟨gr, 1, none⟩ = some (.int .i64 (T.1.length : Int)) ∧ wz.cell? ⟨gr, 2, none⟩ = some (.slice pt T.1.length ct) ∧ wz.cell? ⟨lb, lf + k * 4 + 3, none⟩ = some (.int .i64 wo)) [20] #[false, false, false, false, false, false, false, false, false, false, false, false, false, false, false, false, false, false, false, false, false] rfl (by kernel_rfl) ?_
  generalize w.drew = wd at *
  refine wpAnyY_takeF 0 (.slice (some ⟨gb, 0, none⟩) ln ln) rfl (by kernel_rfl) (fun _ _ _ h => hPn _ _ _ _ (by rfl) h) rfl (by intro wz; go_simp; try rfl) ?_
  try simp only [List.getElem_toArray, List.getElem_cons_succ, List.getElem_cons_zero, Act.put, List.setIfInBounds_toArray, List.set_cons_zero, List.set_cons_succ]
  refine wpAnyY_takeF 1 (.int .i64 (k : Int)) rfl (by kernel_rfl) (fun _ _ _ h => hPn _ _ _ _ (by rfl) h) rfl (by intro wz; go_simp; try rfl) ?_
  try simp only [List.getElem_toArray, List.getElem_cons_succ, List.getElem_cons_zero, Act.put, List.setIfInBounds_toArray, List.set_cons_zero, List.set_cons_succ]
  refine wpAnyY_takeF 2 (.pointer (some ⟨gr, 0, none⟩)) rfl (by kernel_rfl) (fun _ _ _ h => hPn _ _ _ _ (by rfl) h) rfl (by intro wz; go_simp; try rfl) ?_
  try simp only [List.getElem_toArray, List.getElem_cons_succ, List.getElem_cons_zero, Act.put, List.setIfInBounds_toArray, List.set_cons_zero, List.set_cons_succ]
  refine wpAnyY_take [20] 3 (.int .i64 T.2) rfl (by kernel_rfl) (fun _ _ _ h => hPn _ _ _ _ (by rfl) h) SS rfl (by rintro wz ⟨z1, z2, z3, z4⟩; go_simp) ?_
  try simp only [List.getElem_toArray, List.getElem_cons_succ, List.getElem_cons_zero, Act.put, List.setIfInBounds_toArray, List.set_cons_zero, List.set_cons_succ]
  refine wpAnyY_takeF 4 (.slice (some ⟨lb, lf, none⟩) ln lc) rfl (by kernel_rfl) (fun _ _ _ h => hPn _ _ _ _ (by rfl) h) rfl (by intro wz; go_simp; try rfl) ?_
  try simp only [List.getElem_toArray, List.getElem_cons_succ, List.getElem_cons_zero, Act.put, List.setIfInBounds_toArray, List.set_cons_zero, List.set_cons_succ]
  refine wpAnyY_takeF 5 (.int .i64 (k : Int)) rfl (by kernel_rfl) (fun _ _ _ h => hPn _ _ _ _ (by rfl) h) rfl (by intro wz; go_simp; try rfl) ?_
  try simp only [List.getElem_toArray, List.getElem_cons_succ, List.getElem_cons_zero, Act.put, List.setIfInBounds_toArray, List.set_cons_zero, List.set_cons_succ]
  refine wpAnyY_takeF 6 (.pointer (some ⟨lb, lf + k * 4, none⟩)) rfl (by kernel_rfl) (fun _ _ _ h => hPn _ _ _ _ (by rfl) h) rfl (by intro wz; go_simp; try rfl) ?_
  try simp only [List.getElem_toArray, List.getElem_cons_succ, List.getElem_cons_zero, Act.put, List.setIfInBounds_toArray, List.set_cons_zero, List.set_cons_succ]
  refine wpAnyY_takeF 7 (.pointer (some ⟨lb, lf + k * 4 + 3, none⟩)) rfl (by kernel_rfl) (fun _ _ _ h => hPn _ _ _ _ (by rfl) h) rfl (by intro wz; go_simp; try rfl) ?_
  try simp only [List.getElem_toArray, List.getElem_cons_succ, List.getElem_cons_zero, Act.put, List.setIfInBounds_toArray, List.set_cons_zero, List.set_cons_succ]
  refine wpAnyY_take [20] 8 (.int .i64 wo) rfl (by kernel_rfl) (fun _ _ _ h => hPn _ _ _ _ (by rfl) h) SS rfl (by rintro wz ⟨z1, z2, z3, z4⟩; go_simp) ?_
  try simp only [List.getElem_toArray, List.getElem_cons_succ, List.getElem_cons_zero, Act.put, List.setIfInBounds_toArray, List.set_cons_zero, List.set_cons_succ]
  refine wpAnyY_takeF 9 (.int .i64 (T.2 + wo)) rfl (by kernel_rfl) (fun _ _ _ h => hPn _ _ _ _ (by rfl) h) rfl (by intro wz; go_simp; rw [IntKind.wrap_i64]; omega) ?_
  try simp only [List.getElem_toArray, List.getElem_cons_succ, List.getElem_cons_zero, Act.put, List.setIfInBounds_toArray, List.set_cons_zero, List.set_cons_succ]
  refine wpAnyY_takeF 10 (.pointer (some ⟨gr, 1, none⟩)) rfl (by kernel_rfl) (fun _ _ _ h => hPn _ _ _ _ (by rfl) h) rfl (by intro wz; go_simp; try rfl) ?_
  try simp only [List.getElem_toArray, List.getElem_cons_succ, List.getElem_cons_zero, Act.put, List.setIfInBounds_toArray, List.set_cons_zero, List.set_cons_succ]
  refine wpAnyY_take [20] 11 (.int .i64 (T.1.length : Int)) rfl (by kernel_rfl) (fun _ _ _ h => hPn _ _ _ _ (by rfl) h) SS rfl (by rintro wz ⟨z1, z2, z3, z4⟩; go_simp) ?_
  try simp only [List.getElem_toArray, List.getElem_cons_succ, List.getElem_cons_zero, Act.put, List.setIfInBounds_toArray, List.set_cons_zero, List.set_cons_succ]
  refine wpAnyY_takeF 12 (.int .i64 ((T.1.length : Int) + 1)) rfl (by kernel_rfl) (fun _ _ _ h => hPn _ _ _ _ (by rfl) h) rfl (by intro wz; go_simp; rw [IntKind.wrap_i64]; omega) ?_
  try simp only [List.getElem_toArray, List.getElem_cons_succ, List.getElem_cons_zero, Act.put, List.setIfInBounds_toArray, List.set_cons_zero, List.set_cons_succ]
  refine wpAnyY_takeF 13 (.int .i64 (k : Int)) rfl (by kernel_rfl) (fun _ _ _ h => hPn _ _ _ _ (by rfl) h) rfl (by intro wz; go_simp; try rfl) ?_
  try simp only [List.getElem_toArray, List.getElem_cons_succ, List.getElem_cons_zero, Act.put, List.setIfInBounds_toArray, List.set_cons_zero, List.set_cons_succ]
  refine wpAnyY_takeF 15 (.pointer (some ⟨gr, 2, none⟩)) rfl (by kernel_rfl) (fun _ _ _ h => hPn _ _ _ _ (by rfl) h) rfl (by intro wz; go_simp; try rfl) ?_
  try simp only [List.getElem_toArray, List.getElem_cons_succ, List.getElem_cons_zero, Act.put, List.setIfInBounds_toArray, List.set_cons_zero, List.set_cons_succ]
  refine wpAnyY_take [20] 16 (.slice pt T.1.length ct) rfl (by kernel_rfl) (fun _ _ _ h => hPn _ _ _ _ (by rfl) h) SS rfl (by rintro wz ⟨z1, z2, z3, z4⟩; go_simp) ?_
  try simp only [List.getElem_toArray, List.getElem_cons_succ, List.getElem_cons_zero, Act.put, List.setIfInBounds_toArray, List.set_cons_zero, List.set_cons_succ]
  refine wpAnyY_oneB 14 rfl (by kernel_rfl) (fun KK hKK => ?_)
  go_simp
  have Gn := World.grownBy_alloc wd (.cells #[.int .i64 (k : Int)] 3) none
  have bn := BxS.new wd 3 #[.int .i64 (k : Int)]
  have hgl := Nat.le_trans hlw Gd.size
  obtain ⟨gn, hgn⟩ : ∃ x, wd.heap.size = x := ⟨_, rfl⟩
  have hgn3 : wd.heap.size ≤ gn := Nat.le_of_eq hgn
  rw [hgn] at bn ⊢
  clear hgn
  generalize wd.alloc (.cells #[.int .i64 (k : Int)] 3) = wn at *
  have G2 := grown_trans Gd Gn
  have hAn : AnsX 3 wn lo (some ⟨gn, 0, none⟩) 1 1 [.int .i64 (k : Int)] := ⟨⟨rfl, .inr ⟨gn, 1, #[.int .i64 (k : Int)], rfl, Nat.zero_le _, bn, Nat.le_refl _, by decide, rfl, rfl⟩⟩, (fun u hu => by rw [List.mem_singleton.1 hu]; rfl), fun y hy => by have e : gn = y := Option.some.inj hy; omega⟩
  refine hKK _ _ (fun _ _ => ⟨cell_grR e0 G2, cell_grR e1 G2, cell_grR e2 G2, cell_grR cwo G2⟩) ?_
  try simp only [List.getElem_toArray, List.getElem_cons_succ, List.getElem_cons_zero, Act.put, List.setIfInBounds_toArray, List.set_cons_zero, List.set_cons_succ]
  refine wpAnyY_oneB 17 rfl (by kernel_rfl) (fun KK hKK => ?_)
  refine step_of_listR rfl ?_
  refine wpList_apX Try.elN rfl _ _ rfl (some ⟨gn, 0, none⟩) 1 1 lo _ rfl hAn (Nat.le_trans hlw G2.size) pt T.1.length ct (ppL T.1) rfl (AnsX.rd (HPT.out.keep G2)) (by omega) (by omega) ?_
  intro ax cx wx hAx ux
  have ux2 : wd.grownBy wx none := grown_far Gn ux (fun z e => by have e : gn = z := Option.some.inj e; subst e; exact hgn3)
  have G3 := grown_trans Gd ux2
  show KK _ wx
  refine hKK _ _ (fun _ _ => ⟨cell_grR e0 G3, cell_grR e1 G3, cell_grR e2 G3, cell_grR cwo G3⟩) ?_
  try simp only [List.getElem_toArray, List.getElem_cons_succ, List.getElem_cons_zero, Act.put, List.setIfInBounds_toArray, List.set_cons_zero, List.set_cons_succ]
  refine wpAnyY_takeF 18 (.agg #[.int .i64 (T.2 + wo), .int .i64 ((T.1.length : Int) + 1), .slice ax (1 + T.1.length) cx]) rfl (by kernel_rfl) (fun _ _ _ h => hPn _ _ _ _ (by rfl) h) rfl (by intro wz; go_simp; try rfl) ?_
  try simp only [List.getElem_toArray, List.getElem_cons_succ, List.getElem_cons_zero, Act.put, List.setIfInBounds_toArray, List.set_cons_zero, List.set_cons_succ]
  refine wpAnyY_takeF 19 (.pointer (some ⟨gb, k * 3, none⟩)) rfl (by kernel_rfl) (fun _ _ _ h => hPn _ _ _ _ (by rfl) h) rfl (by intro wz; go_simp; try rfl) ?_
  try simp only [List.getElem_toArray, List.getElem_cons_succ, List.getElem_cons_zero, Act.put, List.setIfInBounds_toArray, List.set_cons_zero, List.set_cons_succ]
  have hTx := HT.out.keep G3
  obtain ⟨A, bA, hAs, _⟩ := hTx.bx
  refine wpAnyY_oneB 20 rfl (by kernel_rfl) (fun KK hKK => ?_)
  refine step_of_listR rfl ?_
  refine wpList_stT rfl _ _ _ rfl gb (k * 3) 42 A #[.int .i64 (T.2 + wo), .int .i64 ((T.1.length : Int) + 1), .slice ax (1 + T.1.length) cx] rfl rfl bA Try.info_ch (by rw [hAs]; show k * 3 + 3 ≤ ln * 3; omega) (by simp [Value.oneCell']) ?_
  intro w5 b5 g5
  show KK _ w5
  refine hKK _ _ (fun _ h => absurd (by decide) h) ?_
  try simp only [List.getElem_toArray, List.getElem_cons_succ, List.getElem_cons_zero, Act.put, List.setIfInBounds_toArray, List.set_cons_zero, List.set_cons_succ]
  refine wpAnyY_doneB (by kernel_rfl) ?_ _
  refine HK0.out _ _ ?_
  clear HK0
  have hPr : Pl wx lo (k :: T.1, wo + T.2) ax cx := by
    have h := hAx
    rw [Nat.add_comm 1 T.1.length] at h
    exact h
  have hAr : #[.int .i64 (T.2 + wo), .int .i64 ((T.1.length : Int) + 1), .slice ax (1 + T.1.length) cx] = chA (k :: T.1, wo + T.2) ax cx := by
    unfold chA
    rw [Nat.add_comm 1 T.1.length, Int.add_comm T.2 wo]
    rfl
  rw [hAr] at b5
  have hh : ((k :: T.1, wo + T.2) : Rv).1.length = W.1.length → 0 < ((k :: T.1, wo + T.2) : Rv).1.length → hdP ((k :: T.1, wo + T.2) : Rv) ≠ hdP W := fun e _ e2 => by
    rcases hu with h | h
    · exact h e.symm
    · exact h e2.symm
  obtain ⟨r, hr⟩ : ∃ r : Rv, (k :: T.1, wo + T.2) = r := ⟨_, rfl⟩
  rw [hr] at hPr b5 hh HQ
  clear hAr hr
  have T5 := hTx.put hk hPr bA b5 g5
  have D5 := (HD.out.keep G3).box bA (by decide) g5
  have W5 := (HW.out.keep G3).box bA (by decide) hne g5
  have G5 : wB.grownBy w5 none := grown_far (grown_trans GB G3) g5 (fun z e => by have e := Option.some.inj e; subst e; exact hgbl)
  have rg5 : w5.rangeAt gb (k * 3) [.int .i64 r.2, .int .i64 (r.1.length : Int), .slice ax r.1.length cx] := by
    have h := T5.rg hk (if_pos rfl)
    rw [show setR R k r k = r from if_pos rfl] at h
    try dsimp only at h
    rw [if_pos rfl, if_pos rfl] at h
    exact h
  have rgW : w5.rangeAt ga 0 [.int .i64 W.2, .int .i64 (W.1.length : Int), .slice pw W.1.length cw] := BxS.rangeR W5.bx 0 _ rfl
  have Gd6 := grown_drew w5 none
  have P5 := hPr.box bA (by decide) g5
  have HB : Hid _ := dbet_any r W ax pw cx cw w5.drew (P5.keep Gd6).hd (W5.pl.keep Gd6).hd hh
  have HT5 : Hid _ := T5
  have HD5 : Hid _ := D5
  have HW5 : Hid _ := W5
  have HP5 : Hid _ := P5
  clear T5 D5 W5 P5 hTx hh HT HD HW HPT hAx hAn hPr bA b5 e0 e1 e2 cwo ux ux2 Gn bn G2 G3 Gd hAs hgn3 hgl
  obtain ⟨bb, hbb⟩ : ∃ bb, btB r W = bb := ⟨_, rfl⟩
  rw [hbb] at HB HQ
  clear hbb
  refine wp_seq_k fun K1 hK1 => ?_
  have HK1 : Hid _ := hK1
  clear hK1
  have SS : w5.drew.rangeAt gb (k * 3) [.int .i64 r.2, .int .i64 (r.1.length : Int), .slice ax r.1.length cx] ∧ w5.drew.rangeAt ga 0 [.int .i64 W.2, .int .i64 (W.1.length : Int), .slice pw W.1.length cw] := ⟨(World.rangeAt_drew ..).2 rg5, (World.rangeAt_drew ..).2 rgW⟩
  refine wp_regionM (fun wz => wz.rangeAt gb (k * 3) [.int .i64 r.2, .int .i64 (r.1.length : Int), .slice ax r.1.length cx] ∧ wz.rangeAt ga 0 [.int .i64 W.2, .int .i64 (W.1.length : Int), .slice pw W.1.length cw]) [] #[false, false, false, false, false, false] rfl (by kernel_rfl) ?_
  generalize w5.drew = w6 at *
  refine wpAnyY_takeF 0 (.slice (some ⟨gb, 0, none⟩) ln ln) rfl (by kernel_rfl) (fun _ _ _ h => hPn _ _ _ _ (by rfl) h) rfl (by intro wz; go_simp; try rfl) ?_
  try simp only [List.getElem_toArray, List.getElem_cons_succ, List.getElem_cons_zero, Act.put, List.setIfInBounds_toArray, List.set_cons_zero, List.set_cons_succ]
  refine wpAnyY_takeF 1 (.int .i64 (k : Int)) rfl (by kernel_rfl) (fun _ _ _ h => hPn _ _ _ _ (by rfl) h) rfl (by intro wz; go_simp; try rfl) ?_
  try simp only [List.getElem_toArray, List.getElem_cons_succ, List.getElem_cons_zero, Act.put, List.setIfInBounds_toArray, List.set_cons_zero, List.set_cons_succ]
  refine wpAnyY_takeF 2 (.pointer (some ⟨gb, k * 3, none⟩)) rfl (by kernel_rfl) (fun _ _ _ h => hPn _ _ _ _ (by rfl) h) rfl (by intro wz; go_simp; try rfl) ?_
  try simp only [List.getElem_toArray, List.getElem_cons_succ, List.getElem_cons_zero, Act.put, List.setIfInBounds_toArray, List.set_cons_zero, List.set_cons_succ]
  refine wpAnyY_take [] 3 (.agg #[.int .i64 r.2, .int .i64 (r.1.length : Int), .slice ax r.1.length cx]) rfl (by kernel_rfl) (fun _ _ _ h => hPn _ _ _ _ (by rfl) h) SS rfl (by rintro wz ⟨z1, z2⟩; exact ldMR rfl rfl z1 Try.underlying42 rfl Try.info_ch) ?_
  try simp only [List.getElem_toArray, List.getElem_cons_succ, List.getElem_cons_zero, Act.put, List.setIfInBounds_toArray, List.set_cons_zero, List.set_cons_succ]
  refine wpAnyY_take [] 4 (.agg #[.int .i64 W.2, .int .i64 (W.1.length : Int), .slice pw W.1.length cw]) rfl (by kernel_rfl) (fun _ _ _ h => hPn _ _ _ _ (by rfl) h) SS rfl (by rintro wz ⟨z1, z2⟩; exact ldMR rfl rfl z2 Try.underlying42 rfl Try.info_ch) ?_
  try simp only [List.getElem_toArray, List.getElem_cons_succ, List.getElem_cons_zero, Act.put, List.setIfInBounds_toArray, List.set_cons_zero, List.set_cons_succ]
  refine wpAnyY_oneB 5 rfl (by kernel_rfl) (fun KK hKK => ?_)
  go_simp
  go_at_call 12
  refine Calls.mono HB.out ?_
  rintro e wy ⟨rfl, Gy⟩
  dsimp only
  refine hKK _ _ (fun h _ => by obtain ⟨z1, z2⟩ := h; exact ⟨rg_keep z1 Gy, rg_keep z2 Gy⟩) ?_
  try simp only [List.getElem_toArray, List.getElem_cons_succ, List.getElem_cons_zero, Act.put, List.setIfInBounds_toArray, List.set_cons_zero, List.set_cons_succ]
  refine wpAnyY_doneB (by kernel_rfl) ?_ _
  refine HK1.out _ _ ?_
  clear HK1
  have G7 := grown_trans Gd6 Gy
  have hT7 : Hid _ := HT5.out.keep G7
  have hD7 : Hid _ := HD5.out.keep G7
  have hW7 : Hid _ := HW5.out.keep G7
  have hP7 : Hid _ := HP5.out.keep G7
  have rg7 := rg_keep rg5 G7
  have hb7 : BxS wy ga 42 #[.int .i64 W.2, .int .i64 (W.1.length : Int), .slice pw W.1.length cw] := hW7.out.bx
  cases bb with
  | false =>
    go_wp2
    exact HQ.out _ _ _ _ _ _ _ _ _ _ _ _ _ _ _ _ _ _ _ _ _ _ _ _ _ _ _ _ _ _ W _ _ pw cw wy (by rfl) hT7.out hD7.out hW7.out (grown_trans G5 G7)
  | true =>
    have s1 : True := trivial
    go_wp2_with (first
      | (have _t := s1; clear s1; refine wpList_load_mid rfl _ (.tmp 186) rfl gb (k * 3) rfl [.int .i64 r.2, .int .i64 (r.1.length : Int), .slice ax r.1.length cx] _ rg7 Try.underlying42 rfl Try.info_ch ?_; have s2 : True := trivial)
      | (have _t := s2; clear s2; refine wpList_stX _ rfl _ (.tmp 11) (.tmp 187) rfl ga #[.int .i64 W.2, .int .i64 (W.1.length : Int), .slice pw W.1.length cw] #[.int .i64 r.2, .int .i64 (r.1.length : Int), .slice ax r.1.length cx] rfl rfl hb7 Try.info_ch rfl (by simp [Value.oneCell']) ?_; intro w8 b8 g8))
    exact HQ.out _ _ _ _ _ _ _ _ _ _ _ _ _ _ _ _ _ _ _ _ _ _ _ _ _ _ _ _ _ _ r _ _ ax cx w8 (by rfl) (hT7.out.box hb7 (by decide) (fun e => hne e.symm) g8) (hD7.out.box hb7 (by decide) g8) (hW7.out.put hP7.out b8 g8) (grown_far (grown_trans G5 G7) g8 (fun z e => by have e := Option.some.inj e; subst e; exact hgal))
end
end Go.Proofs.Ytpcejajijaphbaa
