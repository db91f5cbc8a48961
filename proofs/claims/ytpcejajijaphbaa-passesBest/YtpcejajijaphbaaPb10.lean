import Derived.Test.YtpcejajijaphbaaPb9
namespace Go.Proofs.Ytpcejajijaphbaa
open Go.RowKit
set_option maxRecDepth 100000
set_option linter.unusedVariables false
set_option linter.unusedSimpArgs false

section
theorem sum_bd (F : Nat → Pa) (hok : ∀ i, (F i).ok) : ∀ X : List Nat, 0 ≤ sumW F X ∧ sumW F X ≤ 1000000 * (X.length : Int) := by
  intro X
  induction X with
  | nil => exact ⟨Int.le_refl _, by simp [sumW]⟩
  | cons a X ih =>
    have h := (hok a).wo
    refine ⟨by show 0 ≤ (F a).wo + sumW F X; omega, ?_⟩
    show (F a).wo + sumW F X ≤ 1000000 * ((X.length + 1 : Nat) : Int)
    omega
set_option maxHeartbeats 32000000 in
theorem pb_t29 {u0 u1 u2 u3 u4 u5 u6 u8 u9 u10 u12 u14 u15 u16 u17 u18 u19 u20 u22 u23 u24 u25 u26 u27 u28 u29 u30 u31 u32 u33 u34 u35 u36 u37 u38 u39 u40 u41 u42 u43 u44 u45 u46 u47 u48 u49 u50 u51 u52 u53 u54 u55 u56 u57 u58 u59 u60 u61 u62 u63 u64 u65 u66 u67 u68 u69 u70 u71 u72 u73 u74 u75 u76 u77 u78 u79 u80 u81 u82 u83 u84 u85 u86 u87 u88 u89 u90 u91 u92 u93 u94 u95 u96 u97 u98 u99 u100 u101 u102 u103 u104 u105 u106 u107 u108 u109 u110 u111 u112 u113 u114 u115 u116 u117 u118 u119 u120 u121 u122 u123 u124 u125 u126 u127 u128 u129 u130 u131 u132 u133 u134 u135 u136 u137 u138 u139 u140 u141 u142 u143 u144 u145 u146 u147 u148 u149 u150 u151 u152 u153 u154 u155 u156 u157 u158 u159 u160 u161 u162 u163 u164 u165 u166 u167 u168 u169 u170 u171 u172 u173 u174 u175 u176 u177 u178 u179 u180 u181 u182 u183 u184 u185 u186 u187 u188 u189 u190 u191 u192 u193 u194 u195 u196 u197 u198 u199 u200 u201 u202 u203 u204 u205 u206 u207 u208 u209 u210 u211 u212 u213 u214 u215 u216 u217 u218 u219 u220 u221 u222 u223 u224 u225 u226 u227 u228 u229 u230 u231 u232 u233 u234 u235 : Value} (Q : Exit → Act → World → Prop) (hPn : ∀ c (a1 a2 : Act) w, a1.defers = a2.defers → Q (.panic c) a1 w → Q (.panic c) a2 w) (wB w : World) (lb lf ln lc : Nat) (F : Nat → Pa) (hP : ∀ j, j < ln → wB.rangeAt lb (lf + j * 4) (F j).cells) (hlc : ln ≤ lc ∧ lc ≤ 9223372036854775807) (GB : wB.grownBy w none) (la : Option Addr) (hla : 0 < ln → la = some ⟨lb, lf, none⟩) (hok : ∀ i, (F i).ok) (g : Int) (hg : 0 ≤ g ∧ g ≤ 1000) (W : Int) (htop : ∀ X, Ch F g X → (∀ p, p ∈ X → p < ln) → sumW F X ≤ W) (h9 : ln ≤ 9) (m : Nat) (hm : m ≤ 1000000)
    (hQ : ∀ v22 v23 v24 v25 v168 v169 v170 v171 v172 v173 v174 v175 v176 v177 v178 v179 v180 v181 v182 v183 v184 v185 v186 v187 v188 v189 v190 v191 v192 v193 v194 v195 v196 v197 v198 v199 v200 v201 v202 v203 v204 v205 v206 v207 v208 v209 v210 v211 v212 v213 v214 v215 v216 v217 v218 v219 v220 v221 v222 v223 v224 v225 v226 v227 v228 v229 v230 v231 v232 v233 v234 v235 (w' : World), wB.grownBy w' none → Q .normal (Act.mk (List.toArray (u0 :: u1 :: u2 :: u3 :: u4 :: u5 :: u6 :: (.slice la ln lc) :: u8 :: u9 :: u10 :: (.int .i64 g) :: u12 :: (.int .i64 W) :: u14 :: u15 :: u16 :: u17 :: u18 :: u19 :: u20 :: (.int .i64 ((m : Int) + 1)) :: v22 :: v23 :: v24 :: v25 :: u26 :: u27 :: u28 :: u29 :: u30 :: u31 :: u32 :: u33 :: u34 :: u35 :: u36 :: u37 :: u38 :: u39 :: u40 :: u41 :: u42 :: u43 :: u44 :: u45 :: u46 :: u47 :: u48 :: u49 :: u50 :: u51 :: u52 :: u53 :: u54 :: u55 :: u56 :: u57 :: u58 :: u59 :: u60 :: u61 :: u62 :: u63 :: u64 :: u65 :: u66 :: u67 :: u68 :: u69 :: u70 :: u71 :: u72 :: u73 :: u74 :: u75 :: u76 :: u77 :: u78 :: u79 :: u80 :: u81 :: u82 :: u83 :: u84 :: u85 :: u86 :: u87 :: u88 :: u89 :: u90 :: u91 :: u92 :: u93 :: u94 :: u95 :: u96 :: u97 :: u98 :: u99 :: u100 :: u101 :: u102 :: u103 :: u104 :: u105 :: u106 :: u107 :: u108 :: u109 :: u110 :: u111 :: u112 :: u113 :: u114 :: u115 :: u116 :: u117 :: u118 :: u119 :: u120 :: u121 :: u122 :: u123 :: u124 :: u125 :: u126 :: u127 :: u128 :: u129 :: u130 :: u131 :: u132 :: u133 :: u134 :: u135 :: u136 :: u137 :: u138 :: u139 :: u140 :: u141 :: u142 :: u143 :: u144 :: u145 :: u146 :: u147 :: u148 :: u149 :: u150 :: u151 :: u152 :: u153 :: u154 :: u155 :: u156 :: u157 :: u158 :: u159 :: u160 :: u161 :: u162 :: u163 :: u164 :: u165 :: u166 :: u167 :: v168 :: v169 :: v170 :: v171 :: v172 :: v173 :: v174 :: v175 :: v176 :: v177 :: v178 :: v179 :: v180 :: v181 :: v182 :: v183 :: v184 :: v185 :: v186 :: v187 :: v188 :: v189 :: v190 :: v191 :: v192 :: v193 :: v194 :: v195 :: v196 :: v197 :: v198 :: v199 :: v200 :: v201 :: v202 :: v203 :: v204 :: v205 :: v206 :: v207 :: v208 :: v209 :: v210 :: v211 :: v212 :: v213 :: v214 :: v215 :: v216 :: v217 :: v218 :: v219 :: v220 :: v221 :: v222 :: v223 :: v224 :: v225 :: v226 :: v227 :: v228 :: v229 :: v230 :: v231 :: v232 :: v233 :: v234 :: v235 :: [])) []) w') :
    Code.wp Try.prog (tailR 29 (Try.f4.body.getD .skip)) Q (Act.mk (List.toArray (u0 :: u1 :: u2 :: u3 :: u4 :: u5 :: u6 :: (.slice la ln lc) :: u8 :: u9 :: u10 :: (.int .i64 g) :: u12 :: (.int .i64 W) :: u14 :: u15 :: u16 :: u17 :: u18 :: u19 :: u20 :: (.int .i64 (m : Int)) :: u22 :: u23 :: u24 :: u25 :: u26 :: u27 :: u28 :: u29 :: u30 :: u31 :: u32 :: u33 :: u34 :: u35 :: u36 :: u37 :: u38 :: u39 :: u40 :: u41 :: u42 :: u43 :: u44 :: u45 :: u46 :: u47 :: u48 :: u49 :: u50 :: u51 :: u52 :: u53 :: u54 :: u55 :: u56 :: u57 :: u58 :: u59 :: u60 :: u61 :: u62 :: u63 :: u64 :: u65 :: u66 :: u67 :: u68 :: u69 :: u70 :: u71 :: u72 :: u73 :: u74 :: u75 :: u76 :: u77 :: u78 :: u79 :: u80 :: u81 :: u82 :: u83 :: u84 :: u85 :: u86 :: u87 :: u88 :: u89 :: u90 :: u91 :: u92 :: u93 :: u94 :: u95 :: u96 :: u97 :: u98 :: u99 :: u100 :: u101 :: u102 :: u103 :: u104 :: u105 :: u106 :: u107 :: u108 :: u109 :: u110 :: u111 :: u112 :: u113 :: u114 :: u115 :: u116 :: u117 :: u118 :: u119 :: u120 :: u121 :: u122 :: u123 :: u124 :: u125 :: u126 :: u127 :: u128 :: u129 :: u130 :: u131 :: u132 :: u133 :: u134 :: u135 :: u136 :: u137 :: u138 :: u139 :: u140 :: u141 :: u142 :: u143 :: u144 :: u145 :: u146 :: u147 :: u148 :: u149 :: u150 :: u151 :: u152 :: u153 :: u154 :: u155 :: u156 :: u157 :: u158 :: u159 :: u160 :: u161 :: u162 :: u163 :: u164 :: u165 :: u166 :: u167 :: u168 :: u169 :: u170 :: u171 :: u172 :: u173 :: u174 :: u175 :: u176 :: u177 :: u178 :: u179 :: u180 :: u181 :: u182 :: u183 :: u184 :: u185 :: u186 :: u187 :: u188 :: u189 :: u190 :: u191 :: u192 :: u193 :: u194 :: u195 :: u196 :: u197 :: u198 :: u199 :: u200 :: u201 :: u202 :: u203 :: u204 :: u205 :: u206 :: u207 :: u208 :: u209 :: u210 :: u211 :: u212 :: u213 :: u214 :: u215 :: u216 :: u217 :: u218 :: u219 :: u220 :: u221 :: u222 :: u223 :: u224 :: u225 :: u226 :: u227 :: u228 :: u229 :: u230 :: u231 :: u232 :: u233 :: u234 :: u235 :: [])) []) w := by
  conv => enter [2]; whnf
  have HQ : Hid _ := hQ
  have HPR : Hid _ := hP
  have HTOP : Hid _ := htop
  clear hQ hP htop
  refine wp_seq_k fun K9 hK9 => ?_
  have HK9 : Hid _ := hK9
  clear hK9
  refine wp_block ?_
  refine wp_seq_k fun K0 hK0 => ?_
  have HK0 : Hid _ := hK0
  clear hK0
  go_wp2
  refine HK0.out _ _ ?_
  clear HK0
  refine wp_seq_k fun K1 hK1 => ?_
  have HK1 : Hid _ := hK1
  clear hK1
  go_wp2
  refine HK1.out _ _ ?_
  clear HK1
  refine wp_seq_k fun K2 hK2 => ?_
  have HK2 : Hid _ := hK2
  clear hK2
  go_wp2
  go_loopw [24, 22, 23, 25] (fun v24 v22 v23 v25 wr => ∃ (i : Nat) (A : List Nat) (aa : Option Addr) (ac : Nat), i ≤ ln ∧ v24 = .int .i64 i ∧ v22 = .slice aa A.length ac ∧ v23 = .int .i64 (sumW F A) ∧ AnsX 3 wr wB.heap.size aa A.length ac ((A).map fun (p : Nat) => Value.int .i64 (p : Int)) ∧ Hid (∀ p, p ∈ A → p < ln) ∧ A.length ≤ i ∧ wB.grownBy wr none) (fun v24 v22 v23 v25 _ => ln - (intOf v24).toNat)
  case atStart => exact ⟨0, [], none, 0, Nat.zero_le _, rfl, rfl, rfl, AnsX.nil0 _ _ _, (fun p h => by cases h), Nat.le_refl _, GB⟩
  case round =>
    obtain ⟨i, A, aa, ac, hi, rfl, rfl, rfl, hA, HAM, hAl, GR⟩ := hrel
    by_cases hlt : i < ln
    · have hla9 := hla (by omega)
      subst hla9
      have li : (i : Int) < (ln : Int) := by omega
      have ri := range_kp (HPR.out i hlt) GR
      have c3 : wr.cell? ⟨lb, lf + i * 4 + 3, none⟩ = some (.int .i64 (F i).wo) := ri 3 _ rfl
      have hsb := sum_bd F hok A
      have hwo := (hok i).wo
      have hsb1 := hsb.1
      have hsb2 : sumW F A ≤ 9000000 := by have := hsb.2; omega
      obtain ⟨sA, hsA⟩ : ∃ sA, sumW F A = sA := ⟨_, rfl⟩
      have HSA : Hid _ := hsA
      rw [hsA] at hsb1 hsb2 ⊢
      clear hsA hsb
      refine wp_seq_k fun K3 hK3 => ?_
      have HK3 : Hid _ := hK3
      clear hK3
      go_wp2
      refine HK3.out _ _ ?_
      clear HK3
      refine wp_seq_k fun K4 hK4 => ?_
      have HK4 : Hid _ := hK4
      clear hK4
      refine wp_block ?_
      cases hb : (bits BinOp.and .i64 ((m : Int) / 2 ^ i) 1 == 0) with
      | true =>
        go_wp2
        (try simp only [Exit.inBlock, Exit.then])
        refine HK4.out _ _ ?_
        clear HK4
        go_wp2
        go_roundw
        case rel => exact ⟨i + 1, A, aa, ac, by omega, by go_num, rfl, by rw [HSA.out], hA, HAM, by omega, GR⟩
        case measure => simp [intOf] <;> omega
      | false =>
        refine wp_seq_k fun K5 hK5 => ?_
        have HK5 : Hid _ := hK5
        clear hK5
        go_wp2
        refine HK5.out _ _ ?_
        clear HK5
        refine wp_seq_k fun K6 hK6 => ?_
        have HK6 : Hid _ := hK6
        clear hK6
        go_wp2
        refine HK6.out _ _ ?_
        clear HK6
        refine pb_t36 _ ?_ wB wr lb lf ln lc F HPR.out hlc GR A aa ac i hlt hA HAM.out (by omega) ?_
        · intro c a1 a2 w2 e h
          exact hPn c a1 a2 w2 e h
        intro v25 v188 v189 v190 v191 v192 v193 v194 v195 v196 v197 v198 v199 v200 v201 v202 v203 v204 v205 v206 v207 v208 v209 v210 v211 v212 v213 v214 v215 v216 v217 v218 v219 v220 v221 v222 v223 v224 v225 v226 A' a' c' w' hA' hl' hs' hm' G'
        (try simp only [Exit.inBlock, Exit.then])
        refine HK4.out _ _ ?_
        clear HK4
        go_wp2
        go_roundw
        case rel => exact ⟨i + 1, A', a', c', by omega, by go_num, rfl, by rw [hs', HSA.out, Int.add_comm], hA', hm', by omega, G'⟩
        case measure => simp [intOf] <;> omega
    · obtain rfl : i = ln := by omega
      have li : ¬ (i : Int) < (i : Int) := by omega
      go_wp2
      refine HK2.out _ _ ?_
      clear HK2
      by_cases hgt : W < sumW F A
      · have hW0 : 0 ≤ W := HTOP.out [] trivial (fun p h => by cases h)
        have hne : A ≠ [] := fun e => by
          rw [e] at hgt
          have hgt : W < 0 := hgt
          omega
        have hAn : 0 < A.length := List.length_pos_iff.2 hne
        have hln0 : 0 < i := by
          have h7 := HAM.out (A[0]'hAn) (List.getElem_mem ..)
          omega
        have hla9 := hla hln0
        subst hla9
        rcases hA.cases with ⟨_, h0, _⟩ | ⟨gA, hae, _, _⟩
        · omega
        subst hae
        have hcap := hA.max
        unfold maxLen at hcap
        have HOR := (order_any wr lb lf i lc F g gA 0 A.length ac A (fun j hj => range_kp (HPR.out j hj) GR) hlc hok hg rfl ⟨hcap.1, hcap.2⟩ (by omega) (fun j p h => by rw [Nat.zero_add]; exact hA.cell j _ (by rw [List.getElem?_map, h]; rfl)) HAM.out).mono (R' := fun e w' => e = .returned (.bool false) ∧ wr.grownBy w' none) (fun e w' h => by
          obtain ⟨b, h1, h2, h3⟩ := h
          cases b with
          | false => exact ⟨h1, h3⟩
          | true =>
            have := HTOP.out A (h2.1 rfl) HAM.out
            omega)
        go_wp2_with (go_at_call 10; refine HOR.mono ?_; rintro e w6 ⟨rfl, y6⟩)
        (try simp only [Exit.inBlock, Exit.then])
        refine HK9.out _ _ ?_
        clear HK9
        go_wp2
        (try simp only [Exit.inBlock, Exit.then])
        exact HQ.out _ _ _ _ _ _ _ _ _ _ _ _ _ _ _ _ _ _ _ _ _ _ _ _ _ _ _ _ _ _ _ _ _ _ _ _ _ _ _ _ _ _ _ _ _ _ _ _ _ _ _ _ _ _ _ _ _ _ _ _ _ _ _ _ _ _ _ _ _ _ _ _ w6 (grown_trans GR y6)
      · go_wp2
        (try simp only [Exit.inBlock, Exit.then])
        refine HK9.out _ _ ?_
        clear HK9
        go_wp2
        (try simp only [Exit.inBlock, Exit.then])
        exact HQ.out _ _ _ _ _ _ _ _ _ _ _ _ _ _ _ _ _ _ _ _ _ _ _ _ _ _ _ _ _ _ _ _ _ _ _ _ _ _ _ _ _ _ _ _ _ _ _ _ _ _ _ _ _ _ _ _ _ _ _ _ _ _ _ _ _ _ _ _ _ _ _ _ wr GR
end

section
theorem wrap_two : ∀ n, n ≤ 9 → wrap64 ((2 : Int) ^ n) = ((2 ^ n : Nat) : Int) ∧ (2 ^ n : Nat) ≤ 512 := by
  intro n hn
  have : n = 0 ∨ n = 1 ∨ n = 2 ∨ n = 3 ∨ n = 4 ∨ n = 5 ∨ n = 6 ∨ n = 7 ∨ n = 8 ∨ n = 9 := by omega
  rcases this with rfl | rfl | rfl | rfl | rfl | rfl | rfl | rfl | rfl | rfl <;> (unfold wrap64; decide)
set_option maxHeartbeats 32000000 in
theorem pb_t26 {u0 u1 u2 u3 u4 u5 u6 u8 u9 u10 u12 u14 u15 u16 u17 u18 u19 u20 u21 u22 u23 u24 u25 u26 u27 u28 u29 u30 u31 u32 u33 u34 u35 u36 u37 u38 u39 u40 u41 u42 u43 u44 u45 u46 u47 u48 u49 u50 u51 u52 u53 u54 u55 u56 u57 u58 u59 u60 u61 u62 u63 u64 u65 u66 u67 u68 u69 u70 u71 u72 u73 u74 u75 u76 u77 u78 u79 u80 u81 u82 u83 u84 u85 u86 u87 u88 u89 u90 u91 u92 u93 u94 u95 u96 u97 u98 u99 u100 u101 u102 u103 u104 u105 u106 u107 u108 u109 u110 u111 u112 u113 u114 u115 u116 u117 u118 u119 u120 u121 u122 u123 u124 u125 u126 u127 u128 u129 u130 u131 u132 u133 u134 u135 u136 u137 u138 u139 u140 u141 u142 u143 u144 u145 u146 u147 u148 u149 u150 u151 u152 u153 u154 u155 u156 u157 u158 u159 u160 u161 u162 u163 u164 u165 u166 u167 u168 u169 u170 u171 u172 u173 u174 u175 u176 u177 u178 u179 u180 u181 u182 u183 u184 u185 u186 u187 u188 u189 u190 u191 u192 u193 u194 u195 u196 u197 u198 u199 u200 u201 u202 u203 u204 u205 u206 u207 u208 u209 u210 u211 u212 u213 u214 u215 u216 u217 u218 u219 u220 u221 u222 u223 u224 u225 u226 u227 u228 u229 u230 u231 u232 u233 u234 u235 : Value} (w0 wB w : World) (G0 : w0.grownBy wB none) (lb lf ln lc : Nat) (F : Nat → Pa) (hP : ∀ j, j < ln → wB.rangeAt lb (lf + j * 4) (F j).cells) (hlc : ln ≤ lc ∧ lc ≤ 9223372036854775807) (GB : wB.grownBy w none) (la : Option Addr) (hla : 0 < ln → la = some ⟨lb, lf, none⟩) (hok : ∀ i, (F i).ok) (g : Int) (hg : 0 ≤ g ∧ g ≤ 1000) (W : Int) (htop : ∀ X, Ch F g X → (∀ p, p ∈ X → p < ln) → sumW F X ≤ W) (h9 : ln ≤ 9) :
    Code.wp Try.prog (tailR 26 (Try.f4.body.getD .skip)) (bodyPost Try.prog Try.f4 fun e w' => e = .returned (.bool true) ∧ w0.grownBy w' none) (Act.mk (List.toArray (u0 :: u1 :: u2 :: u3 :: u4 :: u5 :: u6 :: (.slice la ln lc) :: u8 :: u9 :: u10 :: (.int .i64 g) :: u12 :: (.int .i64 W) :: u14 :: u15 :: u16 :: u17 :: u18 :: u19 :: u20 :: u21 :: u22 :: u23 :: u24 :: u25 :: u26 :: u27 :: u28 :: u29 :: u30 :: u31 :: u32 :: u33 :: u34 :: u35 :: u36 :: u37 :: u38 :: u39 :: u40 :: u41 :: u42 :: u43 :: u44 :: u45 :: u46 :: u47 :: u48 :: u49 :: u50 :: u51 :: u52 :: u53 :: u54 :: u55 :: u56 :: u57 :: u58 :: u59 :: u60 :: u61 :: u62 :: u63 :: u64 :: u65 :: u66 :: u67 :: u68 :: u69 :: u70 :: u71 :: u72 :: u73 :: u74 :: u75 :: u76 :: u77 :: u78 :: u79 :: u80 :: u81 :: u82 :: u83 :: u84 :: u85 :: u86 :: u87 :: u88 :: u89 :: u90 :: u91 :: u92 :: u93 :: u94 :: u95 :: u96 :: u97 :: u98 :: u99 :: u100 :: u101 :: u102 :: u103 :: u104 :: u105 :: u106 :: u107 :: u108 :: u109 :: u110 :: u111 :: u112 :: u113 :: u114 :: u115 :: u116 :: u117 :: u118 :: u119 :: u120 :: u121 :: u122 :: u123 :: u124 :: u125 :: u126 :: u127 :: u128 :: u129 :: u130 :: u131 :: u132 :: u133 :: u134 :: u135 :: u136 :: u137 :: u138 :: u139 :: u140 :: u141 :: u142 :: u143 :: u144 :: u145 :: u146 :: u147 :: u148 :: u149 :: u150 :: u151 :: u152 :: u153 :: u154 :: u155 :: u156 :: u157 :: u158 :: u159 :: u160 :: u161 :: u162 :: u163 :: u164 :: u165 :: u166 :: u167 :: u168 :: u169 :: u170 :: u171 :: u172 :: u173 :: u174 :: u175 :: u176 :: u177 :: u178 :: u179 :: u180 :: u181 :: u182 :: u183 :: u184 :: u185 :: u186 :: u187 :: u188 :: u189 :: u190 :: u191 :: u192 :: u193 :: u194 :: u195 :: u196 :: u197 :: u198 :: u199 :: u200 :: u201 :: u202 :: u203 :: u204 :: u205 :: u206 :: u207 :: u208 :: u209 :: u210 :: u211 :: u212 :: u213 :: u214 :: u215 :: u216 :: u217 :: u218 :: u219 :: u220 :: u221 :: u222 :: u223 :: u224 :: u225 :: u226 :: u227 :: u228 :: u229 :: u230 :: u231 :: u232 :: u233 :: u234 :: u235 :: [])) []) w := by
  conv => enter [2]; whnf
  obtain ⟨M, hM⟩ : ∃ M : Nat, M = 2 ^ ln := ⟨_, rfl⟩
  obtain ⟨h1, h2⟩ := wrap_two ln h9
  rw [← hM] at h1 h2
  clear hM
  refine wp_seq_k fun K0 hK0 => ?_
  have HK0 : Hid _ := hK0
  clear hK0
  go_wp2
  go_loopw [21, 22, 23, 24, 25] (fun v21 v22 v23 v24 v25 wr => ∃ m : Nat, m ≤ M ∧ v21 = .int .i64 m ∧ wB.grownBy wr none) (fun v21 v22 v23 v24 v25 _ => M - (intOf v21).toNat)
  case atStart => exact ⟨0, Nat.zero_le _, rfl, GB⟩
  case round =>
    obtain ⟨m, hm, rfl, GR⟩ := hrel
    by_cases hlt : m < M
    · have lm : (m : Int) < (M : Int) := by omega
      refine wp_seq_k fun K3 hK3 => ?_
      have HK3 : Hid _ := hK3
      clear hK3
      go_wp2
      refine HK3.out _ _ ?_
      clear HK3
      refine pb_t29 _ ?_ wB wr lb lf ln lc F hP hlc GR la hla hok g hg W htop h9 m (by omega) ?_
      · intro c a1 a2 w2 e h
        exact ⟨e.symm.trans h.1, h.2⟩
      · intro v22 v23 v24 v25 v168 v169 v170 v171 v172 v173 v174 v175 v176 v177 v178 v179 v180 v181 v182 v183 v184 v185 v186 v187 v188 v189 v190 v191 v192 v193 v194 v195 v196 v197 v198 v199 v200 v201 v202 v203 v204 v205 v206 v207 v208 v209 v210 v211 v212 v213 v214 v215 v216 v217 v218 v219 v220 v221 v222 v223 v224 v225 v226 v227 v228 v229 v230 v231 v232 v233 v234 v235 w' G'
        (try simp only [Exit.inBlock, Exit.then])
        go_roundw
        case rel => exact ⟨m + 1, by omega, by go_num, G'⟩
        case measure => simp [intOf] <;> omega
    · obtain rfl : m = M := by omega
      have lm : ¬ (m : Int) < (m : Int) := by omega
      go_wp2
      refine HK0.out _ _ ?_
      clear HK0
      go_wp2
      first | go_ret | skip
      exact ⟨rfl, grown_trans G0 GR⟩
end

section
theorem order_nil (w : World) (la : Option Addr) (ln lc : Nat) (g : Int) (qa : Option Addr) (qc : Nat) : Calls Try.prog 10 #[.slice la ln lc, .int .i64 g, .slice qa 0 qc] w fun e w' => e = .returned (.bool true) ∧ w.grownBy w' none := by
  go_enter Try.func10, Try.ntmps10
  go_wp2
  go_loopw [7, 8, 9, 10] (fun v7 v8 v9 v10 wr => v7 = .int .i64 1 ∧ w.grownBy wr none) (fun v7 v8 v9 v10 _ => 0)
  case atStart => exact ⟨rfl, World.grownBy.refl _ _⟩
  case round =>
    obtain ⟨rfl, GR⟩ := hrel
    go_wp2
    first | go_ret | skip
    exact ⟨rfl, GR⟩
theorem Try.elB : ElT 36 4 (.bool false) 1 := ⟨Try.underlying36, by kernel_rfl, rfl, by decide⟩
set_option maxHeartbeats 32000000 in
theorem pb_t15 {u0 u1 u2 u3 u4 u5 u6 u8 u9 u10 u14 u15 u16 u17 u18 u19 u20 u21 u22 u23 u24 u25 u26 u27 u28 u29 u30 u31 u32 u33 u34 u35 u36 u37 u38 u39 u40 u41 u42 u43 u44 u45 u46 u47 u48 u49 u50 u51 u52 u53 u54 u55 u56 u57 u58 u59 u60 u61 u62 u63 u64 u65 u66 u67 u68 u69 u70 u71 u72 u73 u74 u75 u76 u77 u78 u79 u80 u81 u82 u83 u84 u85 u86 u87 u88 u89 u90 u91 u92 u93 u94 u95 u96 u97 u98 u99 u100 u101 u102 u103 u104 u105 u106 u107 u108 u109 u110 u111 u112 u113 u114 u115 u116 u117 u118 u119 u120 u121 u122 u123 u124 u125 u126 u127 u128 u129 u130 u131 u132 u133 u134 u135 u136 u137 u138 u139 u140 u141 u142 u143 u144 u145 u146 u147 u148 u149 u150 u151 u152 u153 u154 u155 u156 u157 u158 u159 u160 u161 u162 u163 u164 u165 u166 u167 u168 u169 u170 u171 u172 u173 u174 u175 u176 u177 u178 u179 u180 u181 u182 u183 u184 u185 u186 u187 u188 u189 u190 u191 u192 u193 u194 u195 u196 u197 u198 u199 u200 u201 u202 u203 u204 u205 u206 u207 u208 u209 u210 u211 u212 u213 u214 u215 u216 u217 u218 u219 u220 u221 u222 u223 u224 u225 u226 u227 u228 u229 u230 u231 u232 u233 u234 u235 : Value} (w0 wB : World) (G0 : w0.grownBy wB none) (lb lf ln lc : Nat) (F : Nat → Pa) (hP : ∀ j, j < ln → wB.rangeAt lb (lf + j * 4) (F j).cells) (hlc : ln ≤ lc ∧ lc ≤ 9223372036854775807) (la : Option Addr) (hla : 0 < ln → la = some ⟨lb, lf, none⟩) (hok : ∀ i, (F i).ok) (g : Int) (hg : 0 ≤ g ∧ g ≤ 1000) (W : Int) (htop : ∀ X, Ch F g X → (∀ p, p ∈ X → p < ln) → sumW F X ≤ W) (h9 : ln ≤ 9) (V : List Nat) (ga : Option Addr) (gc lo : Nat) (hV : AnsX 3 wB lo ga V.length gc ((V).map fun (p : Nat) => Value.int .i64 (p : Int))) (hVm : ∀ p, p ∈ V → p < ln) (hVn : V.Nodup) (hVs : sumW F V = W) (hVc : Ch F g V) (hVl : V.length ≤ 9) :
    Code.wp Try.prog (tailR 15 (Try.f4.body.getD .skip)) (bodyPost Try.prog Try.f4 fun e w' => e = .returned (.bool true) ∧ w0.grownBy w' none) (Act.mk (List.toArray (u0 :: u1 :: u2 :: u3 :: u4 :: u5 :: u6 :: (.slice la ln lc) :: u8 :: u9 :: u10 :: (.int .i64 g) :: (.slice ga V.length gc) :: (.int .i64 W) :: u14 :: u15 :: u16 :: u17 :: u18 :: u19 :: u20 :: u21 :: u22 :: u23 :: u24 :: u25 :: u26 :: u27 :: u28 :: u29 :: u30 :: u31 :: u32 :: u33 :: u34 :: u35 :: u36 :: u37 :: u38 :: u39 :: u40 :: u41 :: u42 :: u43 :: u44 :: u45 :: u46 :: u47 :: u48 :: u49 :: u50 :: u51 :: u52 :: u53 :: u54 :: u55 :: u56 :: u57 :: u58 :: u59 :: u60 :: u61 :: u62 :: u63 :: u64 :: u65 :: u66 :: u67 :: u68 :: u69 :: u70 :: u71 :: u72 :: u73 :: u74 :: u75 :: u76 :: u77 :: u78 :: u79 :: u80 :: u81 :: u82 :: u83 :: u84 :: u85 :: u86 :: u87 :: u88 :: u89 :: u90 :: u91 :: u92 :: u93 :: u94 :: u95 :: u96 :: u97 :: u98 :: u99 :: u100 :: u101 :: u102 :: u103 :: u104 :: u105 :: u106 :: u107 :: u108 :: u109 :: u110 :: u111 :: u112 :: u113 :: u114 :: u115 :: u116 :: u117 :: u118 :: u119 :: u120 :: u121 :: u122 :: u123 :: u124 :: u125 :: u126 :: u127 :: u128 :: u129 :: u130 :: u131 :: u132 :: u133 :: u134 :: u135 :: u136 :: u137 :: u138 :: u139 :: u140 :: u141 :: u142 :: u143 :: u144 :: u145 :: u146 :: u147 :: u148 :: u149 :: u150 :: u151 :: u152 :: u153 :: u154 :: u155 :: u156 :: u157 :: u158 :: u159 :: u160 :: u161 :: u162 :: u163 :: u164 :: u165 :: u166 :: u167 :: u168 :: u169 :: u170 :: u171 :: u172 :: u173 :: u174 :: u175 :: u176 :: u177 :: u178 :: u179 :: u180 :: u181 :: u182 :: u183 :: u184 :: u185 :: u186 :: u187 :: u188 :: u189 :: u190 :: u191 :: u192 :: u193 :: u194 :: u195 :: u196 :: u197 :: u198 :: u199 :: u200 :: u201 :: u202 :: u203 :: u204 :: u205 :: u206 :: u207 :: u208 :: u209 :: u210 :: u211 :: u212 :: u213 :: u214 :: u215 :: u216 :: u217 :: u218 :: u219 :: u220 :: u221 :: u222 :: u223 :: u224 :: u225 :: u226 :: u227 :: u228 :: u229 :: u230 :: u231 :: u232 :: u233 :: u234 :: u235 :: [])) []) wB := by
  conv => enter [2]; whnf
  have HPR : Hid _ := hP
  have HTOP : Hid _ := htop
  have HVM : Hid _ := hVm
  have HVS : Hid _ := hVs
  clear hP htop hVm hVs
  refine wp_seq_k fun K0 hK0 => ?_
  have HK0 : Hid _ := hK0
  clear hK0
  go_wp2
  refine HK0.out _ _ ?_
  clear HK0
  refine wp_seq_k fun K1 hK1 => ?_
  have HK1 : Hid _ := hK1
  clear hK1
  go_wp2_with (at_make; refine wpList_mkXR Try.elB rfl rfl wB rfl _ _ rfl ln rfl rfl (by omega) ?_; intro w1 hU1 G1)
  refine HK1.out _ _ ?_
  clear HK1
  obtain ⟨gu, hgu⟩ : ∃ x, wB.heap.size = x := ⟨_, rfl⟩
  rw [hgu] at hU1 ⊢
  have hgu : wB.heap.size ≤ gu := Nat.le_of_eq hgu
  refine wp_seq_k fun K2 hK2 => ?_
  have HK2 : Hid _ := hK2
  clear hK2
  go_wp2
  go_loopw [20, 18] (fun v20 v18 wr => ∃ (k : Nat) (X : List Value), k ≤ V.length ∧ v20 = .int .i64 k ∧ v18 = .int .i64 (sumW F (V.take k)) ∧ AnsX 4 wr gu (some ⟨gu, 0, none⟩) ln ln X ∧ Hid (∀ p, p < ln → X[p]? = some (.bool (decide (p ∈ V.take k)))) ∧ wB.grownBy wr none) (fun v20 v18 _ => V.length - (intOf v20).toNat)
  case atStart => exact ⟨0, _, Nat.zero_le _, rfl, rfl, hU1, (fun p hp => by rw [List.getElem?_replicate, if_pos hp]; simp), G1⟩
  case round =>
    obtain ⟨k, X, hk, rfl, rfl, hU, HX, GR⟩ := hrel
    have hVr := hV.keep GR
    by_cases hlt : k < V.length
    · have lk : (k : Int) < (V.length : Int) := by omega
      obtain ⟨p, hp⟩ : ∃ p, V[k]? = some p := ⟨V[k]'hlt, List.getElem?_eq_getElem _⟩
      have hpl := HVM.out p (List.mem_of_getElem? hp)
      have hla9 := hla (by omega)
      subst hla9
      have htk : V.take (k + 1) = V.take k ++ [p] := by rw [List.take_add_one, hp]; rfl
      have hpn : ¬ p ∈ V.take k := fun h => by
        have h1 := hVn
        rw [← List.take_append_drop (k + 1) V, htk, List.append_assoc] at h1
        have h2 := (List.nodup_append.1 h1).2.2 p h p (List.mem_cons_self ..)
        exact h2 rfl
      rcases hVr.cases with ⟨_, h0, _⟩ | ⟨gv, hgv, _, hgvl⟩
      · omega
      have cv : wr.cell? ⟨gv, k, none⟩ = some (.int .i64 (p : Int)) := by
        have hV2 := hVr
        rw [hgv] at hV2
        exact hV2.cell k _ (by rw [List.getElem?_map, hp]; rfl)
      have hcap := hVr.max
      unfold maxLen at hcap
      have cu : wr.cell? ⟨gu, p, none⟩ = some (.bool false) := hU.cell p _ (by rw [HX.out p hpl, decide_eq_false hpn])
      have fu := hU.free p
      have hU' := hU.set p (.bool true) rfl
      have gs := grown_set wr gu p (.bool true)
      have rp := range_kp (HPR.out p hpl) GR
      have hlbl := range_lt (HPR.out p hpl)
      have c3 : wr.cell? ⟨lb, lf + p * 4 + 3, none⟩ = some (.int .i64 (F p).wo) := rp 3 _ rfl
      have c3s := cell_neR c3 gs (by omega)
      have cvs := cell_neR cv gs (fun e => by subst e; have h9 := hV.lt gv (by rw [hgv]; rfl); omega)
      have lp : (p : Int) < (ln : Int) := by omega
      have lpn : ¬ (p : Int) < 0 := by omega
      have lpg : ¬ (ln : Int) ≤ (p : Int) := by omega
      have hsb := sum_bd F hok (V.take k)
      have hwo := (hok p).wo
      have hsb1 := hsb.1
      have hsb2 : sumW F (V.take k) ≤ 9000000 := by
        have h8 := hsb.2
        have h7 : (V.take k).length ≤ 9 := by rw [List.length_take]; omega
        omega
      obtain ⟨sA, hsA⟩ : ∃ sA, sumW F (V.take k) = sA := ⟨_, rfl⟩
      have HSA : Hid _ := hsA
      rw [hsA] at hsb1 hsb2 ⊢
      have HTK : Hid _ := htk
      have HPN : Hid _ := hpn
      subst hgv
      clear hsA hsb htk hpn hp hVr rp hlbl
      refine wp_seq_k fun K3 hK3 => ?_
      have HK3 : Hid _ := hK3
      clear hK3
      go_wp2
      refine HK3.out _ _ ?_
      clear HK3
      refine wp_seq_k fun K4 hK4 => ?_
      have HK4 : Hid _ := hK4
      clear hK4
      refine wp_block ?_
      refine wp_seq_k fun K5 hK5 => ?_
      have HK5 : Hid _ := hK5
      clear hK5
      go_wp2
      refine HK5.out _ _ ?_
      clear HK5
      refine wp_seq_k fun K6 hK6 => ?_
      have HK6 : Hid _ := hK6
      clear hK6
      go_wp2
      refine HK6.out _ _ ?_
      clear HK6
      go_wp2
      (try simp only [Exit.inBlock, Exit.then])
      refine HK4.out _ _ ?_
      clear HK4
      go_wp2
      go_roundw
      case rel =>
        refine ⟨k + 1, _, by omega, by go_num, ?_, hU', fun q hq => ?_, grown_far GR gs (fun z e => by cases e; exact hgu)⟩
        · rw [HTK.out, sum_app, HSA.out]
          show Value.int .i64 (sA + (F p).wo) = .int .i64 (sA + ((F p).wo + 0))
          rw [Int.add_zero]
        · have hXl := hU.len
          rw [HTK.out]
          by_cases e : q = p
          · subst e
            rw [List.getElem?_set_self (by omega), decide_eq_true (List.mem_append_right _ (List.mem_singleton.2 rfl))]
          · rw [List.getElem?_set_ne (fun h => e h.symm), HX.out q hq]
            congr 2
            rw [decide_eq_decide, List.mem_append, List.mem_singleton]
            exact ⟨fun h => .inl h, fun h => h.resolve_right e⟩
      case measure => simp [intOf] <;> omega
    · obtain rfl : k = V.length := by omega
      have lk : ¬ (V.length : Int) < (V.length : Int) := by omega
      have e1 : V.take V.length = V := List.take_length
      rw [e1, HVS.out]
      clear e1
      go_wp2
      refine HK2.out _ _ ?_
      clear HK2
      have HOR : Calls Try.prog 10 #[.slice la ln lc, .int .i64 g, .slice ga V.length gc] wr fun e w' => e = .returned (.bool true) ∧ wr.grownBy w' none := by
        by_cases h0 : V.length = 0
        · rw [h0]
          exact order_nil wr la ln lc g ga gc
        · have hln0 : 0 < ln := by
            have h7 := HVM.out (V[0]'(by omega)) (List.getElem_mem ..)
            omega
          rw [hla hln0]
          rcases hVr.cases with ⟨_, h1, _⟩ | ⟨gv, hgv, _, _⟩
          · omega
          have hV2 := hVr
          rw [hgv] at hV2 ⊢
          have hcap := hV2.max
          unfold maxLen at hcap
          refine (order_any wr lb lf ln lc F g gv 0 V.length gc V (fun j hj => range_kp (HPR.out j hj) GR) hlc hok hg rfl ⟨hcap.1, hcap.2⟩ (by omega) (fun j p h => by rw [Nat.zero_add]; exact hV2.cell j _ (by rw [List.getElem?_map, h]; rfl)) HVM.out).mono ?_
          rintro e w' ⟨b, h1, h2, h3⟩
          have hb : b = true := h2.2 hVc
          subst hb
          exact ⟨h1, h3⟩
      refine wp_seq_k fun K7 hK7 => ?_
      have HK7 : Hid _ := hK7
      clear hK7
      go_wp2_with (go_at_call 10; refine HOR.mono ?_; rintro e w6 ⟨rfl, y6⟩)
      refine HK7.out _ _ ?_
      clear HK7
      exact pb_t26 w0 wB w6 G0 lb lf ln lc F HPR.out hlc (grown_trans GR y6) la hla hok g hg W HTOP.out h9
end
end Go.Proofs.Ytpcejajijaphbaa
