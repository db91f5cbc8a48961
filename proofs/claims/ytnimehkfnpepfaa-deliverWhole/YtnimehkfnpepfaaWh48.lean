import Derived.Test.YtnimehkfnpepfaaWh0
import Derived.Test.YtnimehkfnpepfaaWh47
import Derived.Test.YtnimehkfnpepfaaWh12
namespace Go.Proofs.Ytnimehkfnpepfaa
open Go.RowKit
set_option maxRecDepth 100000
set_option linter.unusedVariables false
set_option linter.unusedSimpArgs false

section
set_option maxHeartbeats 16000000 in
/-- what is looked at behind a tick -/
theorem dw_t20 {u1 u2 u3 u5 u6 u7 u8 u9 u10 u11 u12 u13 u14 u15 u18 u19 u20 u21 u22 u23 u24 u25 u26 u27 u28 u29 u30 u31 u32 u33 u34 u35 u36 u37 u38 u39 u40 u41 u42 u43 u44 u45 u46 u47 u48 u49 u50 u51 u52 u53 u54 u55 u56 u57 u58 u59 u60 u61 u62 u63 u64 u65 u66 u67 u68 u69 u70 u71 u72 u73 u74 u75 u76 u77 u78 u79 u80 u81 u82 u83 u84 u85 u86 u87 u88 u89 u90 u91 u92 u93 u94 u95 u96 u97 u98 u99 u100 u101 u102 u103 u104 u105 u106 u107 u108 u109 u110 u111 u112 u113 u114 u115 u116 u117 u118 u119 u120 u121 u122 u123 u124 u125 u126 u127 u128 u129 u130 u131 u132 u133 u134 u135 u136 u137 u138 u139 u140 u141 u142 u143 u144 u145 u146 u147 u148 u149 u150 u151 u152 u153 u154 u155 u156 u157 u158 u159 u160 u161 u162 u163 u164 u165 u166 u167 : Value} (Q : Exit → Act → World → Prop) {K : Kc} (hK : K.ok) (hnm : K.nm = (⟨#[108, 111, 103]⟩ : ByteArray)) (wB w6 : World) (gc : Nat) (c : Cr) (X : Cx) (hC : CM wB w6 gc c X) (hS : SC K c) (fa : Option Addr) (fn fc : Nat) (hF : Rd w6 fa fn fc K.X) (la : Option Addr) (ln lc i : Nat)
    (hQN : ¬ (ln < i ∧ c.g.st = 3) → ∀ v19 v20 v21 v93 v94 v95 v96 v97 v98 v99 v100 v101 v102 v103 v104 v105 v106 v107 v108 v109 v110 v111 v112 v113 v114 v115 v116 v117 v118 v119 v120 v121 v122 v123 v124 v125 v126 v127 v128 v129 v130 v131 v132 v133 v134 v135 v136 v137 v138 v139 v140 v141 v142 v143 v144 v145 v146 v147 v148 v149 v150 v151 v152 v153 v154 v155 v156 v157 v158 v159 v160 v161 v162 v163 v164 v165 v166 v167 w', CM wB w' gc c X → Q .normal (Act.mk (List.toArray ((.slice fa fn fc) :: u1 :: u2 :: u3 :: (.slice la ln lc) :: u5 :: u6 :: u7 :: u8 :: u9 :: u10 :: u11 :: u12 :: u13 :: u14 :: u15 :: (.pointer (some ⟨gc, 0, none⟩)) :: (.int .i64 (i : Int)) :: u18 :: v19 :: v20 :: v21 :: u22 :: u23 :: u24 :: u25 :: u26 :: u27 :: u28 :: u29 :: u30 :: u31 :: u32 :: u33 :: u34 :: u35 :: u36 :: u37 :: u38 :: u39 :: u40 :: u41 :: u42 :: u43 :: u44 :: u45 :: u46 :: u47 :: u48 :: u49 :: u50 :: u51 :: u52 :: u53 :: u54 :: u55 :: u56 :: u57 :: u58 :: u59 :: u60 :: u61 :: u62 :: u63 :: u64 :: u65 :: u66 :: u67 :: u68 :: u69 :: u70 :: u71 :: u72 :: u73 :: u74 :: u75 :: u76 :: u77 :: u78 :: u79 :: u80 :: u81 :: u82 :: u83 :: u84 :: u85 :: u86 :: u87 :: u88 :: u89 :: u90 :: u91 :: u92 :: v93 :: v94 :: v95 :: v96 :: v97 :: v98 :: v99 :: v100 :: v101 :: v102 :: v103 :: v104 :: v105 :: v106 :: v107 :: v108 :: v109 :: v110 :: v111 :: v112 :: v113 :: v114 :: v115 :: v116 :: v117 :: v118 :: v119 :: v120 :: v121 :: v122 :: v123 :: v124 :: v125 :: v126 :: v127 :: v128 :: v129 :: v130 :: v131 :: v132 :: v133 :: v134 :: v135 :: v136 :: v137 :: v138 :: v139 :: v140 :: v141 :: v142 :: v143 :: v144 :: v145 :: v146 :: v147 :: v148 :: v149 :: v150 :: v151 :: v152 :: v153 :: v154 :: v155 :: v156 :: v157 :: v158 :: v159 :: v160 :: v161 :: v162 :: v163 :: v164 :: v165 :: v166 :: v167 :: [])) []) w')
    (hQR : (ln < i ∧ c.g.st = 3) → ∀ v19 v20 v21 v93 v94 v95 v96 v97 v98 v99 v100 v101 v102 v103 v104 v105 v106 v107 v108 v109 v110 v111 v112 v113 v114 v115 v116 v117 v118 v119 v120 v121 v122 v123 v124 v125 v126 v127 v128 v129 v130 v131 v132 v133 v134 v135 v136 v137 v138 v139 v140 v141 v142 v143 v144 v145 v146 v147 v148 v149 v150 v151 v152 v153 v154 v155 v156 v157 v158 v159 v160 v161 v162 v163 v164 v165 v166 v167 w', CM wB w' gc c X → Q .ret (Act.mk (List.toArray ((.slice fa fn fc) :: u1 :: u2 :: u3 :: (.slice la ln lc) :: u5 :: u6 :: u7 :: u8 :: u9 :: (.bool true) :: u11 :: u12 :: u13 :: u14 :: u15 :: (.pointer (some ⟨gc, 0, none⟩)) :: (.int .i64 (i : Int)) :: u18 :: v19 :: v20 :: v21 :: u22 :: u23 :: u24 :: u25 :: u26 :: u27 :: u28 :: u29 :: u30 :: u31 :: u32 :: u33 :: u34 :: u35 :: u36 :: u37 :: u38 :: u39 :: u40 :: u41 :: u42 :: u43 :: u44 :: u45 :: u46 :: u47 :: u48 :: u49 :: u50 :: u51 :: u52 :: u53 :: u54 :: u55 :: u56 :: u57 :: u58 :: u59 :: u60 :: u61 :: u62 :: u63 :: u64 :: u65 :: u66 :: u67 :: u68 :: u69 :: u70 :: u71 :: u72 :: u73 :: u74 :: u75 :: u76 :: u77 :: u78 :: u79 :: u80 :: u81 :: u82 :: u83 :: u84 :: u85 :: u86 :: u87 :: u88 :: u89 :: u90 :: u91 :: u92 :: v93 :: v94 :: v95 :: v96 :: v97 :: v98 :: v99 :: v100 :: v101 :: v102 :: v103 :: v104 :: v105 :: v106 :: v107 :: v108 :: v109 :: v110 :: v111 :: v112 :: v113 :: v114 :: v115 :: v116 :: v117 :: v118 :: v119 :: v120 :: v121 :: v122 :: v123 :: v124 :: v125 :: v126 :: v127 :: v128 :: v129 :: v130 :: v131 :: v132 :: v133 :: v134 :: v135 :: v136 :: v137 :: v138 :: v139 :: v140 :: v141 :: v142 :: v143 :: v144 :: v145 :: v146 :: v147 :: v148 :: v149 :: v150 :: v151 :: v152 :: v153 :: v154 :: v155 :: v156 :: v157 :: v158 :: v159 :: v160 :: v161 :: v162 :: v163 :: v164 :: v165 :: v166 :: v167 :: [])) []) w') :
    Code.wp Try.prog (tailR 20 (Try.f10.body.getD .skip)) Q (Act.mk (List.toArray ((.slice fa fn fc) :: u1 :: u2 :: u3 :: (.slice la ln lc) :: u5 :: u6 :: u7 :: u8 :: u9 :: u10 :: u11 :: u12 :: u13 :: u14 :: u15 :: (.pointer (some ⟨gc, 0, none⟩)) :: (.int .i64 (i : Int)) :: u18 :: u19 :: u20 :: u21 :: u22 :: u23 :: u24 :: u25 :: u26 :: u27 :: u28 :: u29 :: u30 :: u31 :: u32 :: u33 :: u34 :: u35 :: u36 :: u37 :: u38 :: u39 :: u40 :: u41 :: u42 :: u43 :: u44 :: u45 :: u46 :: u47 :: u48 :: u49 :: u50 :: u51 :: u52 :: u53 :: u54 :: u55 :: u56 :: u57 :: u58 :: u59 :: u60 :: u61 :: u62 :: u63 :: u64 :: u65 :: u66 :: u67 :: u68 :: u69 :: u70 :: u71 :: u72 :: u73 :: u74 :: u75 :: u76 :: u77 :: u78 :: u79 :: u80 :: u81 :: u82 :: u83 :: u84 :: u85 :: u86 :: u87 :: u88 :: u89 :: u90 :: u91 :: u92 :: u93 :: u94 :: u95 :: u96 :: u97 :: u98 :: u99 :: u100 :: u101 :: u102 :: u103 :: u104 :: u105 :: u106 :: u107 :: u108 :: u109 :: u110 :: u111 :: u112 :: u113 :: u114 :: u115 :: u116 :: u117 :: u118 :: u119 :: u120 :: u121 :: u122 :: u123 :: u124 :: u125 :: u126 :: u127 :: u128 :: u129 :: u130 :: u131 :: u132 :: u133 :: u134 :: u135 :: u136 :: u137 :: u138 :: u139 :: u140 :: u141 :: u142 :: u143 :: u144 :: u145 :: u146 :: u147 :: u148 :: u149 :: u150 :: u151 :: u152 :: u153 :: u154 :: u155 :: u156 :: u157 :: u158 :: u159 :: u160 :: u161 :: u162 :: u163 :: u164 :: u165 :: u166 :: u167 :: [])) []) w6 := by
  conv => enter [2]; whnf
  have HQN : Hid _ := hQN
  have HQR : Hid _ := hQR
  clear hQN hQR
  have hTs := hS.t
  have hov := hS.ov
  have hg4 : ¬ c.g.st = 4 := fun h => by rcases hS.g.st with e | e | e | e <;> omega
  have HWh := wholeQ_any hK c.t hS.t X.ta X.tq X.tc X.td w6 hC.tA.rd hC.tO.rd
  rw [hnm] at HWh
  have HF : Hid (Rd w6 fa fn fc K.X) := hF
  clear hF hnm
  by_cases ht3 : c.t.st = 3
  · have ht : c.t.st = 3 := ht3
    by_cases hg : c.g.st = 3
    · by_cases hil : ln < i
      · have li : (ln : Int) < (i : Int) := by omega
        have c22 : w6.cell? ⟨gc, 22, none⟩ = some (.int .i64 3) := by have z : w6.cell? ⟨gc, 22, none⟩ = some (.int .i64 c.t.st) := hC.bx.cell 22 (by show 22 < 29; decide); rw [ht] at z; exact z
        have c5 : w6.cell? ⟨gc, 5, none⟩ = some (.int .i64 3) := by have z : w6.cell? ⟨gc, 5, none⟩ = some (.int .i64 c.g.st) := hC.bx.cell 5 (by show 5 < 29; decide); rw [hg] at z; exact z
        simp only [if_pos ht] at HWh
        have HTS : Hid _ := ht
        have HGS : Hid _ := hg
        clear ht hg hg4
        have s0 : True := trivial
        go_wp2_with (first
          | (have _t := s0; clear s0; refine wpList_load_mid rfl _ (.tmp 96) rfl gc 13 rfl (tkC c.t X.ta X.tc X.tq X.td) _ (hC.bx.range 13 (tkC c.t X.ta X.tc X.tq X.td) rfl) Try.underlying48 rfl Try.info_tk ?_; have s1 : True := trivial)
          | (have _t := s1; clear s1; go_at_call 43; refine HWh.mono ?_; rintro e w7 ⟨a7, c7, rfl, hA7, y7⟩; have hC7 := hC.keep y7; have d22 := cell_grown c22 y7 hC.bx.lt (by simp); have d5 := cell_grown c5 y7 hC.bx.lt (by simp); have cv1 := str_any w7 a7 _ c7 _ hA7.rd; have cv2 := str_any w7 fa fn fc K.X ((HF.out).keep y7)))
        exact HQR.out ⟨hil, HGS.out⟩ _ _ _ _ _ _ _ _ _ _ _ _ _ _ _ _ _ _ _ _ _ _ _ _ _ _ _ _ _ _ _ _ _ _ _ _ _ _ _ _ _ _ _ _ _ _ _ _ _ _ _ _ _ _ _ _ _ _ _ _ _ _ _ _ _ _ _ _ _ _ _ _ _ _ _ _ _ _ w7 hC7
      · have li : ¬ (ln : Int) < (i : Int) := by omega
        have c22 : w6.cell? ⟨gc, 22, none⟩ = some (.int .i64 3) := by have z : w6.cell? ⟨gc, 22, none⟩ = some (.int .i64 c.t.st) := hC.bx.cell 22 (by show 22 < 29; decide); rw [ht] at z; exact z
        have c5 : w6.cell? ⟨gc, 5, none⟩ = some (.int .i64 3) := by have z : w6.cell? ⟨gc, 5, none⟩ = some (.int .i64 c.g.st) := hC.bx.cell 5 (by show 5 < 29; decide); rw [hg] at z; exact z
        simp only [if_pos ht] at HWh
        have HTS : Hid _ := ht
        have HGS : Hid _ := hg
        clear ht hg hg4
        have s0 : True := trivial
        go_wp2_with (first
          | (have _t := s0; clear s0; refine wpList_load_mid rfl _ (.tmp 96) rfl gc 13 rfl (tkC c.t X.ta X.tc X.tq X.td) _ (hC.bx.range 13 (tkC c.t X.ta X.tc X.tq X.td) rfl) Try.underlying48 rfl Try.info_tk ?_; have s1 : True := trivial)
          | (have _t := s1; clear s1; go_at_call 43; refine HWh.mono ?_; rintro e w7 ⟨a7, c7, rfl, hA7, y7⟩; have hC7 := hC.keep y7; have d22 := cell_grown c22 y7 hC.bx.lt (by simp); have d5 := cell_grown c5 y7 hC.bx.lt (by simp); have cv1 := str_any w7 a7 _ c7 _ hA7.rd; have cv2 := str_any w7 fa fn fc K.X ((HF.out).keep y7)))
        exact HQN.out (fun h => absurd h.1 hil) _ _ _ _ _ _ _ _ _ _ _ _ _ _ _ _ _ _ _ _ _ _ _ _ _ _ _ _ _ _ _ _ _ _ _ _ _ _ _ _ _ _ _ _ _ _ _ _ _ _ _ _ _ _ _ _ _ _ _ _ _ _ _ _ _ _ _ _ _ _ _ _ _ _ _ _ _ _ w7 hC7
    · by_cases hil : ln < i
      · have li : (ln : Int) < (i : Int) := by omega
        have c22 : w6.cell? ⟨gc, 22, none⟩ = some (.int .i64 3) := by have z : w6.cell? ⟨gc, 22, none⟩ = some (.int .i64 c.t.st) := hC.bx.cell 22 (by show 22 < 29; decide); rw [ht] at z; exact z
        obtain ⟨sg, hsg⟩ : ∃ s, c.g.st = s := ⟨_, rfl⟩
        have c5 : w6.cell? ⟨gc, 5, none⟩ = some (.int .i64 sg) := by have z : w6.cell? ⟨gc, 5, none⟩ = some (.int .i64 c.g.st) := hC.bx.cell 5 (by show 5 < 29; decide); rw [hsg] at z; exact z
        have sg3 : ¬ sg = 3 := by rw [← hsg]; exact hg
        have sg4 : ¬ sg = 4 := by rw [← hsg]; exact hg4
        clear hsg
        simp only [if_pos ht] at HWh
        have HTS : Hid _ := ht
        have HGS : Hid _ := hg
        clear ht hg hg4
        have s0 : True := trivial
        go_wp2_with (first
          | (have _t := s0; clear s0; refine wpList_load_mid rfl _ (.tmp 96) rfl gc 13 rfl (tkC c.t X.ta X.tc X.tq X.td) _ (hC.bx.range 13 (tkC c.t X.ta X.tc X.tq X.td) rfl) Try.underlying48 rfl Try.info_tk ?_; have s1 : True := trivial)
          | (have _t := s1; clear s1; go_at_call 43; refine HWh.mono ?_; rintro e w7 ⟨a7, c7, rfl, hA7, y7⟩; have hC7 := hC.keep y7; have d22 := cell_grown c22 y7 hC.bx.lt (by simp); have d5 := cell_grown c5 y7 hC.bx.lt (by simp); have cv1 := str_any w7 a7 _ c7 _ hA7.rd; have cv2 := str_any w7 fa fn fc K.X ((HF.out).keep y7)))
        exact HQN.out (fun h => absurd h.2 HGS.out) _ _ _ _ _ _ _ _ _ _ _ _ _ _ _ _ _ _ _ _ _ _ _ _ _ _ _ _ _ _ _ _ _ _ _ _ _ _ _ _ _ _ _ _ _ _ _ _ _ _ _ _ _ _ _ _ _ _ _ _ _ _ _ _ _ _ _ _ _ _ _ _ _ _ _ _ _ _ w7 hC7
      · have li : ¬ (ln : Int) < (i : Int) := by omega
        have c22 : w6.cell? ⟨gc, 22, none⟩ = some (.int .i64 3) := by have z : w6.cell? ⟨gc, 22, none⟩ = some (.int .i64 c.t.st) := hC.bx.cell 22 (by show 22 < 29; decide); rw [ht] at z; exact z
        obtain ⟨sg, hsg⟩ : ∃ s, c.g.st = s := ⟨_, rfl⟩
        have c5 : w6.cell? ⟨gc, 5, none⟩ = some (.int .i64 sg) := by have z : w6.cell? ⟨gc, 5, none⟩ = some (.int .i64 c.g.st) := hC.bx.cell 5 (by show 5 < 29; decide); rw [hsg] at z; exact z
        have sg3 : ¬ sg = 3 := by rw [← hsg]; exact hg
        have sg4 : ¬ sg = 4 := by rw [← hsg]; exact hg4
        clear hsg
        simp only [if_pos ht] at HWh
        have HTS : Hid _ := ht
        have HGS : Hid _ := hg
        clear ht hg hg4
        have s0 : True := trivial
        go_wp2_with (first
          | (have _t := s0; clear s0; refine wpList_load_mid rfl _ (.tmp 96) rfl gc 13 rfl (tkC c.t X.ta X.tc X.tq X.td) _ (hC.bx.range 13 (tkC c.t X.ta X.tc X.tq X.td) rfl) Try.underlying48 rfl Try.info_tk ?_; have s1 : True := trivial)
          | (have _t := s1; clear s1; go_at_call 43; refine HWh.mono ?_; rintro e w7 ⟨a7, c7, rfl, hA7, y7⟩; have hC7 := hC.keep y7; have d22 := cell_grown c22 y7 hC.bx.lt (by simp); have d5 := cell_grown c5 y7 hC.bx.lt (by simp); have cv1 := str_any w7 a7 _ c7 _ hA7.rd; have cv2 := str_any w7 fa fn fc K.X ((HF.out).keep y7)))
        exact HQN.out (fun h => absurd h.2 HGS.out) _ _ _ _ _ _ _ _ _ _ _ _ _ _ _ _ _ _ _ _ _ _ _ _ _ _ _ _ _ _ _ _ _ _ _ _ _ _ _ _ _ _ _ _ _ _ _ _ _ _ _ _ _ _ _ _ _ _ _ _ _ _ _ _ _ _ _ _ _ _ _ _ _ _ _ _ _ _ w7 hC7
  · have ht : c.t.st = 0 := by rcases hTs.st with h | h; exact h; exact absurd h ht3
    have hg : ¬ c.g.st = 3 := fun h => ht3 (hov h)
    by_cases hil : ln < i
    · have li : (ln : Int) < (i : Int) := by omega
      have c22 : w6.cell? ⟨gc, 22, none⟩ = some (.int .i64 0) := by have z : w6.cell? ⟨gc, 22, none⟩ = some (.int .i64 c.t.st) := hC.bx.cell 22 (by show 22 < 29; decide); rw [ht] at z; exact z
      obtain ⟨sg, hsg⟩ : ∃ s, c.g.st = s := ⟨_, rfl⟩
      have c5 : w6.cell? ⟨gc, 5, none⟩ = some (.int .i64 sg) := by have z : w6.cell? ⟨gc, 5, none⟩ = some (.int .i64 c.g.st) := hC.bx.cell 5 (by show 5 < 29; decide); rw [hsg] at z; exact z
      have sg3 : ¬ sg = 3 := by rw [← hsg]; exact hg
      have sg4 : ¬ sg = 4 := by rw [← hsg]; exact hg4
      clear hsg
      simp only [if_neg ht3] at HWh
      have HTS : Hid _ := ht
      have HGS : Hid _ := hg
      clear ht hg hg4 ht3
      have s0 : True := trivial
      go_wp2_with (first
        | (have _t := s0; clear s0; refine wpList_load_mid rfl _ (.tmp 96) rfl gc 13 rfl (tkC c.t X.ta X.tc X.tq X.td) _ (hC.bx.range 13 (tkC c.t X.ta X.tc X.tq X.td) rfl) Try.underlying48 rfl Try.info_tk ?_; have s1 : True := trivial)
        | (have _t := s1; clear s1; go_at_call 43; refine HWh.mono ?_; rintro e w7 ⟨a7, c7, rfl, hA7, y7⟩; have hC7 := hC.keep y7; have d22 := cell_grown c22 y7 hC.bx.lt (by simp); have d5 := cell_grown c5 y7 hC.bx.lt (by simp); have cv1 := str_any w7 a7 _ c7 _ hA7.rd; have cv2 := str_any w7 fa fn fc K.X ((HF.out).keep y7)))
      exact HQN.out (fun h => absurd h.2 HGS.out) _ _ _ _ _ _ _ _ _ _ _ _ _ _ _ _ _ _ _ _ _ _ _ _ _ _ _ _ _ _ _ _ _ _ _ _ _ _ _ _ _ _ _ _ _ _ _ _ _ _ _ _ _ _ _ _ _ _ _ _ _ _ _ _ _ _ _ _ _ _ _ _ _ _ _ _ _ _ w7 hC7
    · have li : ¬ (ln : Int) < (i : Int) := by omega
      have c22 : w6.cell? ⟨gc, 22, none⟩ = some (.int .i64 0) := by have z : w6.cell? ⟨gc, 22, none⟩ = some (.int .i64 c.t.st) := hC.bx.cell 22 (by show 22 < 29; decide); rw [ht] at z; exact z
      obtain ⟨sg, hsg⟩ : ∃ s, c.g.st = s := ⟨_, rfl⟩
      have c5 : w6.cell? ⟨gc, 5, none⟩ = some (.int .i64 sg) := by have z : w6.cell? ⟨gc, 5, none⟩ = some (.int .i64 c.g.st) := hC.bx.cell 5 (by show 5 < 29; decide); rw [hsg] at z; exact z
      have sg3 : ¬ sg = 3 := by rw [← hsg]; exact hg
      have sg4 : ¬ sg = 4 := by rw [← hsg]; exact hg4
      clear hsg
      simp only [if_neg ht3] at HWh
      have HTS : Hid _ := ht
      have HGS : Hid _ := hg
      clear ht hg hg4 ht3
      have s0 : True := trivial
      go_wp2_with (first
        | (have _t := s0; clear s0; refine wpList_load_mid rfl _ (.tmp 96) rfl gc 13 rfl (tkC c.t X.ta X.tc X.tq X.td) _ (hC.bx.range 13 (tkC c.t X.ta X.tc X.tq X.td) rfl) Try.underlying48 rfl Try.info_tk ?_; have s1 : True := trivial)
        | (have _t := s1; clear s1; go_at_call 43; refine HWh.mono ?_; rintro e w7 ⟨a7, c7, rfl, hA7, y7⟩; have hC7 := hC.keep y7; have d22 := cell_grown c22 y7 hC.bx.lt (by simp); have d5 := cell_grown c5 y7 hC.bx.lt (by simp); have cv1 := str_any w7 a7 _ c7 _ hA7.rd; have cv2 := str_any w7 fa fn fc K.X ((HF.out).keep y7)))
      exact HQN.out (fun h => absurd h.2 HGS.out) _ _ _ _ _ _ _ _ _ _ _ _ _ _ _ _ _ _ _ _ _ _ _ _ _ _ _ _ _ _ _ _ _ _ _ _ _ _ _ _ _ _ _ _ _ _ _ _ _ _ _ _ _ _ _ _ _ _ _ _ _ _ _ _ _ _ _ _ _ _ _ _ _ _ _ _ _ _ w7 hC7
end
end Go.Proofs.Ytnimehkfnpepfaa
