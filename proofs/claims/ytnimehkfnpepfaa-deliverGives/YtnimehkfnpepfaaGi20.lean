import Derived.Test.YtnimehkfnpepfaaGi19
import Derived.Test.YtnimehkfnpepfaaGi5
import Derived.Test.YtnimehkfnpepfaaGi6
import Derived.Test.YtnimehkfnpepfaaGi3
import Derived.Test.YtnimehkfnpepfaaGi7
import Derived.Test.YtnimehkfnpepfaaGi4
namespace Go.Proofs.Ytnimehkfnpepfaa
open Go.RowKit
set_option maxRecDepth 100000
set_option linter.unusedVariables false
set_option linter.unusedSimpArgs false

section
set_option maxHeartbeats 16000000 in
theorem gf_t13z {u0 u3 u4 u9 u10 u11 u12 u13 u14 u15 u16 u17 u18 u19 u20 u21 u22 u23 u24 u25 u26 u27 u28 u29 u30 u31 u32 u33 u34 u35 u36 u37 u38 u39 u40 u41 u42 u43 u44 u45 u46 u47 u48 u49 u50 u51 u52 u53 u54 u55 u56 u57 u58 u59 u60 u61 u62 u63 u64 u65 u66 u67 u68 u69 u70 u71 u72 u73 u74 u75 u76 u77 u78 u79 u80 u81 u82 u83 u84 u85 u86 u87 u88 u89 u90 u91 u92 u93 u94 u95 u96 u97 u98 u99 u100 u101 u102 u103 u104 u105 u106 u107 u108 u109 u110 u111 u112 u113 u114 u115 u116 u117 u118 u119 u120 u121 u122 u123 u124 u125 u126 u127 u128 u129 u130 u131 u132 u133 u134 u135 u136 u137 u138 u139 u140 u141 u142 u143 u144 u145 u146 u147 u148 u149 u150 u151 u152 u153 u154 u155 u156 u157 u158 u159 u160 u161 u162 u163 u164 u165 u166 u167 u168 u169 u170 u171 u172 u173 u174 u175 u176 u177 u178 u179 u180 u181 u182 u183 u184 u185 u186 u187 u188 u189 u190 u191 u192 u193 u194 u195 u196 u197 u198 u199 u200 u201 u202 u203 u204 u205 u206 u207 u208 u209 u210 u211 u212 u213 u214 u215 u216 u217 u218 u219 u220 u221 u222 u223 u224 u225 u226 u227 u228 u229 u230 u231 u232 u233 u234 u235 u236 u237 u238 u239 u240 u241 u242 u243 u244 u245 u246 u247 u248 u249 u250 u251 u252 u253 u254 u255 u256 u257 u258 u259 u260 u261 u262 u263 u264 u265 u266 u267 u268 u269 u270 u271 u272 u273 u274 u275 u276 u277 u278 u279 u280 u281 u282 u283 u284 u285 u286 u287 u288 u289 u290 u291 u292 u293 u294 u295 u296 u297 u298 u299 u300 u301 u302 : Value} (Q : Exit → Act → World → Prop) (wB w : World) (g1 g2 gv : Nat) (s0 : Int) (V : Gv) (a : Option Addr) (c : Nat) (q : Option Addr) (d : Nat) (na : Option Addr) (nn nc : Nat) (xs : List Nx) (V0 : Gv) (T0 : List Nt) (h : DX wB w g1 g2 gv s0 V a c q d na nn nc xs) (ho : GvO V0) (hnn : nn ≤ 1000) (hPn : ∀ c a a' wz, a.defers = a'.defers → Q (.panic c) a wz → Q (.panic c) a' wz) (gq off : Nat) (G : List (Int × Int)) (hT : xs.map Nx.dt = T0) (hV : V = V0) (hfi : V0.fi = false) (hG : V.G = ((0 : Int), (0 : Int)) :: G) (hq : q = some ⟨gq, off, none⟩) (hQT : (snV V0).2.2 = true → ∀ {z7 z8 z9 z10 z45 z46 z47 z48 z49 z50 z51 z52 z53 z54 z55 z56 z57 z58 z59 z60 z61 z62 z63 z64 z65 z66 z67 z68 z69 z70 z71 z72 z73 z74 z75 z76 z77 z78 z79 z80 z81 z82 z83 z84 z85 z86 z87 z88 z89 z90 z91 z92 z93 z94 z95 z96 z97 z98 z99 z100 z101 z102 z103 z104 z105 z106 z107 z108 z109 z110 z111 z112 z113 z114 z115 z116 z117 z118 z119 z120 z121 z122 z123 z124 z125 z126 z127 z128 z129 z130 z131 z132 z133 z134 z135 z136 z137 z138 z139 z140 z141 z142 z143 z144 z145 z146 z147 z148 z149 z150 z151 z152 z153 z154 z155 z156 z157 z158 z159 z160 z161 z162 z163 z164 z165 z166 z167 z168 z169 z170 z171 z172 z173 z174 z175 z176 z177 z178 z179 z180 z181 z182 z183 z184 z185 z186 z187 z188 z189 z190 z191 z192 z193 z194 z195 z196 z197 z198 z199 z200 z201 z202 z203 z204 z205 z206 z207 z208 z209 z210 z211 z212 z213 z214 z215 z216 z217 z218 z219 z220 z221 z222 z223 z224 z225 z226 z227 : Value} w' a' c' q' d' na' nn' nc' xs', xs'.map Nx.dt = T0 ++ (snV V0).2.1 → DX wB w' g1 g2 gv s0 (snV V0).1 a' c' q' d' na' nn' nc' xs' → Q .normal (Act.mk (List.toArray (u0 :: (.pointer (some ⟨g1, 0, none⟩)) :: (.pointer (some ⟨g2, 0, none⟩)) :: u3 :: u4 :: (.pointer (some ⟨gv, 0, none⟩)) :: (.slice na' nn' nc') :: z7 :: z8 :: z9 :: z10 :: u11 :: u12 :: u13 :: u14 :: u15 :: u16 :: u17 :: u18 :: u19 :: u20 :: u21 :: u22 :: u23 :: u24 :: u25 :: u26 :: u27 :: u28 :: u29 :: u30 :: u31 :: u32 :: u33 :: u34 :: u35 :: u36 :: u37 :: u38 :: u39 :: u40 :: u41 :: u42 :: u43 :: u44 :: z45 :: z46 :: z47 :: z48 :: z49 :: z50 :: z51 :: z52 :: z53 :: z54 :: z55 :: z56 :: z57 :: z58 :: z59 :: z60 :: z61 :: z62 :: z63 :: z64 :: z65 :: z66 :: z67 :: z68 :: z69 :: z70 :: z71 :: z72 :: z73 :: z74 :: z75 :: z76 :: z77 :: z78 :: z79 :: z80 :: z81 :: z82 :: z83 :: z84 :: z85 :: z86 :: z87 :: z88 :: z89 :: z90 :: z91 :: z92 :: z93 :: z94 :: z95 :: z96 :: z97 :: z98 :: z99 :: z100 :: z101 :: z102 :: z103 :: z104 :: z105 :: z106 :: z107 :: z108 :: z109 :: z110 :: z111 :: z112 :: z113 :: z114 :: z115 :: z116 :: z117 :: z118 :: z119 :: z120 :: z121 :: z122 :: z123 :: z124 :: z125 :: z126 :: z127 :: z128 :: z129 :: z130 :: z131 :: z132 :: z133 :: z134 :: z135 :: z136 :: z137 :: z138 :: z139 :: z140 :: z141 :: z142 :: z143 :: z144 :: z145 :: z146 :: z147 :: z148 :: z149 :: z150 :: z151 :: z152 :: z153 :: z154 :: z155 :: z156 :: z157 :: z158 :: z159 :: z160 :: z161 :: z162 :: z163 :: z164 :: z165 :: z166 :: z167 :: z168 :: z169 :: z170 :: z171 :: z172 :: z173 :: z174 :: z175 :: z176 :: z177 :: z178 :: z179 :: z180 :: z181 :: z182 :: z183 :: z184 :: z185 :: z186 :: z187 :: z188 :: z189 :: z190 :: z191 :: z192 :: z193 :: z194 :: z195 :: z196 :: z197 :: z198 :: z199 :: z200 :: z201 :: z202 :: z203 :: z204 :: z205 :: z206 :: z207 :: z208 :: z209 :: z210 :: z211 :: z212 :: z213 :: z214 :: z215 :: z216 :: z217 :: z218 :: z219 :: z220 :: z221 :: z222 :: z223 :: z224 :: z225 :: z226 :: z227 :: u228 :: u229 :: u230 :: u231 :: u232 :: u233 :: u234 :: u235 :: u236 :: u237 :: u238 :: u239 :: u240 :: u241 :: u242 :: u243 :: u244 :: u245 :: u246 :: u247 :: u248 :: u249 :: u250 :: u251 :: u252 :: u253 :: u254 :: u255 :: u256 :: u257 :: u258 :: u259 :: u260 :: u261 :: u262 :: u263 :: u264 :: u265 :: u266 :: u267 :: u268 :: u269 :: u270 :: u271 :: u272 :: u273 :: u274 :: u275 :: u276 :: u277 :: u278 :: u279 :: u280 :: u281 :: u282 :: u283 :: u284 :: u285 :: u286 :: u287 :: u288 :: u289 :: u290 :: u291 :: u292 :: u293 :: u294 :: u295 :: u296 :: u297 :: u298 :: u299 :: u300 :: u301 :: u302 :: [])) []) w' ∧ Q (.exit 1) (Act.mk (List.toArray (u0 :: (.pointer (some ⟨g1, 0, none⟩)) :: (.pointer (some ⟨g2, 0, none⟩)) :: u3 :: u4 :: (.pointer (some ⟨gv, 0, none⟩)) :: (.slice na' nn' nc') :: z7 :: z8 :: z9 :: z10 :: u11 :: u12 :: u13 :: u14 :: u15 :: u16 :: u17 :: u18 :: u19 :: u20 :: u21 :: u22 :: u23 :: u24 :: u25 :: u26 :: u27 :: u28 :: u29 :: u30 :: u31 :: u32 :: u33 :: u34 :: u35 :: u36 :: u37 :: u38 :: u39 :: u40 :: u41 :: u42 :: u43 :: u44 :: z45 :: z46 :: z47 :: z48 :: z49 :: z50 :: z51 :: z52 :: z53 :: z54 :: z55 :: z56 :: z57 :: z58 :: z59 :: z60 :: z61 :: z62 :: z63 :: z64 :: z65 :: z66 :: z67 :: z68 :: z69 :: z70 :: z71 :: z72 :: z73 :: z74 :: z75 :: z76 :: z77 :: z78 :: z79 :: z80 :: z81 :: z82 :: z83 :: z84 :: z85 :: z86 :: z87 :: z88 :: z89 :: z90 :: z91 :: z92 :: z93 :: z94 :: z95 :: z96 :: z97 :: z98 :: z99 :: z100 :: z101 :: z102 :: z103 :: z104 :: z105 :: z106 :: z107 :: z108 :: z109 :: z110 :: z111 :: z112 :: z113 :: z114 :: z115 :: z116 :: z117 :: z118 :: z119 :: z120 :: z121 :: z122 :: z123 :: z124 :: z125 :: z126 :: z127 :: z128 :: z129 :: z130 :: z131 :: z132 :: z133 :: z134 :: z135 :: z136 :: z137 :: z138 :: z139 :: z140 :: z141 :: z142 :: z143 :: z144 :: z145 :: z146 :: z147 :: z148 :: z149 :: z150 :: z151 :: z152 :: z153 :: z154 :: z155 :: z156 :: z157 :: z158 :: z159 :: z160 :: z161 :: z162 :: z163 :: z164 :: z165 :: z166 :: z167 :: z168 :: z169 :: z170 :: z171 :: z172 :: z173 :: z174 :: z175 :: z176 :: z177 :: z178 :: z179 :: z180 :: z181 :: z182 :: z183 :: z184 :: z185 :: z186 :: z187 :: z188 :: z189 :: z190 :: z191 :: z192 :: z193 :: z194 :: z195 :: z196 :: z197 :: z198 :: z199 :: z200 :: z201 :: z202 :: z203 :: z204 :: z205 :: z206 :: z207 :: z208 :: z209 :: z210 :: z211 :: z212 :: z213 :: z214 :: z215 :: z216 :: z217 :: z218 :: z219 :: z220 :: z221 :: z222 :: z223 :: z224 :: z225 :: z226 :: z227 :: u228 :: u229 :: u230 :: u231 :: u232 :: u233 :: u234 :: u235 :: u236 :: u237 :: u238 :: u239 :: u240 :: u241 :: u242 :: u243 :: u244 :: u245 :: u246 :: u247 :: u248 :: u249 :: u250 :: u251 :: u252 :: u253 :: u254 :: u255 :: u256 :: u257 :: u258 :: u259 :: u260 :: u261 :: u262 :: u263 :: u264 :: u265 :: u266 :: u267 :: u268 :: u269 :: u270 :: u271 :: u272 :: u273 :: u274 :: u275 :: u276 :: u277 :: u278 :: u279 :: u280 :: u281 :: u282 :: u283 :: u284 :: u285 :: u286 :: u287 :: u288 :: u289 :: u290 :: u291 :: u292 :: u293 :: u294 :: u295 :: u296 :: u297 :: u298 :: u299 :: u300 :: u301 :: u302 :: [])) []) w')  :
    Code.wp Try.prog (tailR 13 (Try.f30.body.getD .skip)) Q (Act.mk (List.toArray (u0 :: (.pointer (some ⟨g1, 0, none⟩)) :: (.pointer (some ⟨g2, 0, none⟩)) :: u3 :: u4 :: (.pointer (some ⟨gv, 0, none⟩)) :: (.slice na nn nc) :: (.int .i64 0) :: (.int .i64 0) :: u9 :: u10 :: u11 :: u12 :: u13 :: u14 :: u15 :: u16 :: u17 :: u18 :: u19 :: u20 :: u21 :: u22 :: u23 :: u24 :: u25 :: u26 :: u27 :: u28 :: u29 :: u30 :: u31 :: u32 :: u33 :: u34 :: u35 :: u36 :: u37 :: u38 :: u39 :: u40 :: u41 :: u42 :: u43 :: u44 :: u45 :: u46 :: u47 :: u48 :: u49 :: u50 :: u51 :: u52 :: u53 :: u54 :: u55 :: u56 :: u57 :: u58 :: u59 :: u60 :: u61 :: u62 :: u63 :: u64 :: u65 :: u66 :: u67 :: u68 :: u69 :: u70 :: u71 :: u72 :: u73 :: u74 :: u75 :: u76 :: u77 :: u78 :: u79 :: u80 :: u81 :: u82 :: u83 :: u84 :: u85 :: u86 :: u87 :: u88 :: u89 :: u90 :: u91 :: u92 :: u93 :: u94 :: u95 :: u96 :: u97 :: u98 :: u99 :: u100 :: u101 :: u102 :: u103 :: u104 :: u105 :: u106 :: u107 :: u108 :: u109 :: u110 :: u111 :: u112 :: u113 :: u114 :: u115 :: u116 :: u117 :: u118 :: u119 :: u120 :: u121 :: u122 :: u123 :: u124 :: u125 :: u126 :: u127 :: u128 :: u129 :: u130 :: u131 :: u132 :: u133 :: u134 :: u135 :: u136 :: u137 :: u138 :: u139 :: u140 :: u141 :: u142 :: u143 :: u144 :: u145 :: u146 :: u147 :: u148 :: u149 :: u150 :: u151 :: u152 :: u153 :: u154 :: u155 :: u156 :: u157 :: u158 :: u159 :: u160 :: u161 :: u162 :: u163 :: u164 :: u165 :: u166 :: u167 :: u168 :: u169 :: u170 :: u171 :: u172 :: u173 :: u174 :: u175 :: u176 :: u177 :: u178 :: u179 :: u180 :: u181 :: u182 :: u183 :: u184 :: u185 :: u186 :: u187 :: u188 :: u189 :: u190 :: u191 :: u192 :: u193 :: u194 :: u195 :: u196 :: u197 :: u198 :: u199 :: u200 :: u201 :: u202 :: u203 :: u204 :: u205 :: u206 :: u207 :: u208 :: u209 :: u210 :: u211 :: u212 :: u213 :: u214 :: u215 :: u216 :: u217 :: u218 :: u219 :: u220 :: u221 :: u222 :: u223 :: u224 :: u225 :: u226 :: u227 :: u228 :: u229 :: u230 :: u231 :: u232 :: u233 :: u234 :: u235 :: u236 :: u237 :: u238 :: u239 :: u240 :: u241 :: u242 :: u243 :: u244 :: u245 :: u246 :: u247 :: u248 :: u249 :: u250 :: u251 :: u252 :: u253 :: u254 :: u255 :: u256 :: u257 :: u258 :: u259 :: u260 :: u261 :: u262 :: u263 :: u264 :: u265 :: u266 :: u267 :: u268 :: u269 :: u270 :: u271 :: u272 :: u273 :: u274 :: u275 :: u276 :: u277 :: u278 :: u279 :: u280 :: u281 :: u282 :: u283 :: u284 :: u285 :: u286 :: u287 :: u288 :: u289 :: u290 :: u291 :: u292 :: u293 :: u294 :: u295 :: u296 :: u297 :: u298 :: u299 :: u300 :: u301 :: u302 :: [])) []) w := by
  conv => enter [2]; whnf
  have HQT : Hid _ := @hQT
  clear hQT
  subst hV
  subst hq
  have HX : Hid (snV V = ({ V with G := G }, [ntMeta V], true)) := by
    show _ = _
    unfold snV
    rw [if_neg (by rw [hfi]; decide), hG]
    rfl
  have HT : Hid _ := hT
  have hgl := ho.gl
  have hml : V.G.length = G.length + 1 := by rw [hG, List.length_cons]
  have hm1 : (1 : Int) ≤ (V.G.length : Int) := by omega
  have hm2 : 1 ≤ V.G.length := by omega
  have hdl : 1 ≤ d := by have := h.O.le; omega
  have hdl2 : (1 : Int) ≤ (d : Int) := by omega
  have hdl3 : V.G.length ≤ d := h.O.le
  have hdl4 : (V.G.length : Int) ≤ (d : Int) := by omega
  have HML : Hid _ := hml
  have HG : Hid _ := hG
  clear hT hml hG
  refine wp_seq_k fun K1 hK1 => ?_
  have HK1 : Hid _ := hK1
  clear hK1
  refine wp_seq_k fun K2 hK2 => ?_
  have HK2 : Hid _ := hK2
  clear hK2
  go_wp2
  refine HK2.out _ _ ?_
  clear HK2
  refine wp_cond_true rfl ?_
  clear HK1
  refine wp_seq_k fun K2 hK2 => ?_
  have HK2 : Hid _ := hK2
  clear hK2
  have kC : Calls Try.prog 61 #[.pointer (some ⟨gv, 0, none⟩)] w (fun e w' => e = .returned (.agg #[.int .i64 1, .int .i64 V.id, .string V.nm, .int .i64 (V.L.length : Int), .int .i64 0, .int .i64 0, .slice none 0 0, .slice none 0 0, .int .i64 0, .int .i64 0]) ∧ w.grownBy w' none) := rmeta_any w gv _ _ _ _ _ _ _ _ _ _ _ _ _ _ _ _ _ h.bv
  obtain ⟨i0, hi, hz0, hz1, hz2⟩ := info_parts Try.info_nt3
  have s0' : True := trivial
  go_wp2_with (first
    | (go_at_call 61; have _t := s0'; clear s0'; refine Calls.mono kC ?_; rintro e wc ⟨rfl, yc⟩; have bA := BxS.new wc 27 #[.int .i64 1, .int .i64 V.id, .string V.nm, .int .i64 (V.L.length : Int), .int .i64 0, .int .i64 0, .slice none 0 0, .slice none 0 0, .int .i64 0, .int .i64 0]; have yA := World.grownBy_alloc wc (.cells #[.int .i64 1, .int .i64 V.id, .string V.nm, .int .i64 (V.L.length : Int), .int .i64 0, .int .i64 0, .slice none 0 0, .slice none 0 0, .int .i64 0, .int .i64 0] 27) none; generalize hwA : wc.alloc (.cells #[.int .i64 1, .int .i64 V.id, .string V.nm, .int .i64 (V.L.length : Int), .int .i64 0, .int .i64 0, .slice none 0 0, .slice none 0 0, .int .i64 0, .int .i64 0] 27) = wA at bA yA; have hA := h.keepN (grown_trans yc yA); have s1' : True := trivial)
    | (at_builtin; have _t := s1'; clear s1'; refine wpList_apS wA rfl _ _ 54 27 i0 _ 10 120 Try.underlying54 hi hz0 hz1 hz2 rfl (by decide) rfl (.slice na nn nc) nn (flN xs) rfl hA.N.own ⟨wc.heap.size, 0, none⟩ 1 1 (xMeta V.id V.nm V.L.length).cells rfl rfl bA.newsA (by intro u hu; simp only [xMeta, Nx.cells, Nx.arr, List.mem_cons, List.not_mem_nil, or_false] at hu; rcases hu with rfl | rfl | rfl | rfl | rfl | rfl | rfl | rfl | rfl | rfl <;> rfl) (by decide) (by unfold maxLen; omega) (by omega) ?_; intro gx cx w5 hor u5 hO5))
  have h5 := hA.push (x := xMeta V.id V.nm V.L.length) rfl rfl rfl (Ans.nil _ _) (fun z e => by cases e) hor u5 hO5
  refine HK2.out _ _ ?_
  clear HK2
  have hOt : OgP w5 wB.heap.size (some ⟨gq, off, none⟩) V.G.length d (((0 : Int), (0 : Int)) :: G) := by have := h5.O; rw [HG.out] at this; rw [HG.out]; exact this
  have hOt := hOt.tail
  by_cases hd1 : d = 1
  · subst hd1
    rw [if_pos rfl] at hOt
    obtain rfl : G = [] := List.length_eq_zero_iff.1 (by have := HML.out; omega)
    have hOt : OgP w5 wB.heap.size (some ⟨gq, off, none⟩) 0 0 [] := by have h9 := hOt; rw [HML.out] at h9; exact h9
    refine wp_seq_k fun K2 hK2 => ?_
    have HK2 : Hid _ := hK2
    clear hK2
    have x8 : w5.cell? ⟨gv, 8, none⟩ = some (.slice (some ⟨gq, off, none⟩) V.G.length 1) := h5.bv.cell 8 (by show 8 < 13; decide)
    have s0' : True := trivial
    go_wp2_with (have _t := s0'; clear s0'; refine wpList_stC _ rfl _ _ _ rfl gv 8 92 _ #[.int .i64 V.id, .string V.nm, .slice a V.L.length c, .int .i64 V.mo, .int .i64 V.bu, .int .i64 V.st, .bool V.fi, .int .i64 V.at', .slice (some ⟨gq, off, none⟩) 0 0, .int .i64 V.ti, .int .i64 V.pa, .int .i64 V.tr, .int .i64 V.li] (.slice (some ⟨gq, off, none⟩) 0 0) rfl rfl h5.bv (stc_slG _ _ _ _ _) (by show 8 < 13; decide) rfl ?_; intro w8 b8 u8)
    refine HK2.out _ _ ?_
    clear HK2
    have h8 := h5.setV u8 (V' := { V with G := [] }) rfl hOt b8
    go_wp2
    refine (HQT.out (by rw [HX.out]) w8 a c (some ⟨gq, off, none⟩) 0 _ _ _ (xs ++ [xMeta V.id V.nm V.L.length]) ?_ ?_).2
    · rw [HX.out]; exact map_one HT.out _ _ rfl
    · rw [HX.out]; exact h8
  · rw [if_neg hd1] at hOt
    refine wp_seq_k fun K2 hK2 => ?_
    have HK2 : Hid _ := hK2
    clear hK2
    have x8 : w5.cell? ⟨gv, 8, none⟩ = some (.slice (some ⟨gq, off, none⟩) V.G.length d) := h5.bv.cell 8 (by show 8 < 13; decide)
    have s0' : True := trivial
    go_wp2_with (have _t := s0'; clear s0'; refine wpList_stC _ rfl _ _ _ rfl gv 8 92 _ #[.int .i64 V.id, .string V.nm, .slice a V.L.length c, .int .i64 V.mo, .int .i64 V.bu, .int .i64 V.st, .bool V.fi, .int .i64 V.at', .slice (some ⟨gq, off + 2, none⟩) (V.G.length - 1) (d - 1), .int .i64 V.ti, .int .i64 V.pa, .int .i64 V.tr, .int .i64 V.li] (.slice (some ⟨gq, off + 2, none⟩) (V.G.length - 1) (d - 1)) rfl rfl h5.bv (stc_slG _ _ _ _ _) (by show 8 < 13; decide) rfl ?_; intro w8 b8 u8)
    refine HK2.out _ _ ?_
    clear HK2
    have hm9 : V.G.length - 1 = G.length := by have := HML.out; omega
    rw [hm9] at b8 hOt ⊢
    have h8 := h5.setV u8 (V' := { V with G := G }) rfl hOt b8
    go_wp2
    refine (HQT.out (by rw [HX.out]) w8 a c (some ⟨gq, off + 2, none⟩) (d - 1) _ _ _ (xs ++ [xMeta V.id V.nm V.L.length]) ?_ ?_).2
    · rw [HX.out]; exact map_one HT.out _ _ rfl
    · rw [HX.out]; exact h8

set_option maxHeartbeats 16000000 in
theorem gf_t19 {u0 u3 u4 u10 u11 u12 u13 u14 u15 u16 u17 u18 u19 u20 u21 u22 u23 u24 u25 u26 u27 u28 u29 u30 u31 u32 u33 u34 u35 u36 u37 u38 u39 u40 u41 u42 u43 u44 u45 u46 u47 u48 u49 u50 u51 u52 u53 u54 u55 u56 u57 u58 u59 u60 u61 u62 u63 u64 u65 u66 u67 u68 u69 u70 u71 u72 u73 u74 u75 u76 u77 u78 u79 u80 u81 u82 u83 u84 u85 u86 u87 u88 u89 u90 u91 u92 u93 u94 u95 u96 u97 u98 u99 u100 u101 u102 u103 u104 u105 u106 u107 u108 u109 u110 u111 u112 u113 u114 u115 u116 u117 u118 u119 u120 u121 u122 u123 u124 u125 u126 u127 u128 u129 u130 u131 u132 u133 u134 u135 u136 u137 u138 u139 u140 u141 u142 u143 u144 u145 u146 u147 u148 u149 u150 u151 u152 u153 u154 u155 u156 u157 u158 u159 u160 u161 u162 u163 u164 u165 u166 u167 u168 u169 u170 u171 u172 u173 u174 u175 u176 u177 u178 u179 u180 u181 u182 u183 u184 u185 u186 u187 u188 u189 u190 u191 u192 u193 u194 u195 u196 u197 u198 u199 u200 u201 u202 u203 u204 u205 u206 u207 u208 u209 u210 u211 u212 u213 u214 u215 u216 u217 u218 u219 u220 u221 u222 u223 u224 u225 u226 u227 u228 u229 u230 u231 u232 u233 u234 u235 u236 u237 u238 u239 u240 u241 u242 u243 u244 u245 u246 u247 u248 u249 u250 u251 u252 u253 u254 u255 u256 u257 u258 u259 u260 u261 u262 u263 u264 u265 u266 u267 u268 u269 u270 u271 u272 u273 u274 u275 u276 u277 u278 u279 u280 u281 u282 u283 u284 u285 u286 u287 u288 u289 u290 u291 u292 u293 u294 u295 u296 u297 u298 u299 u300 u301 u302 : Value} (Q : Exit → Act → World → Prop) (wB w : World) (g1 g2 gv : Nat) (s0 : Int) (V : Gv) (a : Option Addr) (c : Nat) (q : Option Addr) (d : Nat) (na : Option Addr) (nn nc : Nat) (xs : List Nx) (V0 : Gv) (T0 : List Nt) (h : DX wB w g1 g2 gv s0 V a c q d na nn nc xs) (ho : GvO V0) (hnn : nn ≤ 1000) (hPn : ∀ c a a' wz, a.defers = a'.defers → Q (.panic c) a wz → Q (.panic c) a' wz) (gq off x y en : Nat) (cur : Array Value) (G : List (Int × Int)) (D : List Nat) (hq : q = some ⟨gq, off, none⟩) (hT : xs.map Nx.dt = T0) (hG : V.G = ((x : Int), (y : Int)) :: G) (hxe : x < en) (hen9 : en ≤ V.L.length) (hn9 : V.L.length ≤ 65536) (hey : en ≤ y) (bq : BxS w gq 82 cur) (hlq : wB.heap.size ≤ gq) (hsz : off + V.G.length * 2 ≤ cur.size) (hDD : (V.L.drop x).take (en - x) = D) (hX : snV V0 = ({ V with G := if en = y then G else ((en : Int), (y : Int)) :: G }, [ntPie V x en], true)) (hQT : (snV V0).2.2 = true → ∀ {z7 z8 z9 z10 z45 z46 z47 z48 z49 z50 z51 z52 z53 z54 z55 z56 z57 z58 z59 z60 z61 z62 z63 z64 z65 z66 z67 z68 z69 z70 z71 z72 z73 z74 z75 z76 z77 z78 z79 z80 z81 z82 z83 z84 z85 z86 z87 z88 z89 z90 z91 z92 z93 z94 z95 z96 z97 z98 z99 z100 z101 z102 z103 z104 z105 z106 z107 z108 z109 z110 z111 z112 z113 z114 z115 z116 z117 z118 z119 z120 z121 z122 z123 z124 z125 z126 z127 z128 z129 z130 z131 z132 z133 z134 z135 z136 z137 z138 z139 z140 z141 z142 z143 z144 z145 z146 z147 z148 z149 z150 z151 z152 z153 z154 z155 z156 z157 z158 z159 z160 z161 z162 z163 z164 z165 z166 z167 z168 z169 z170 z171 z172 z173 z174 z175 z176 z177 z178 z179 z180 z181 z182 z183 z184 z185 z186 z187 z188 z189 z190 z191 z192 z193 z194 z195 z196 z197 z198 z199 z200 z201 z202 z203 z204 z205 z206 z207 z208 z209 z210 z211 z212 z213 z214 z215 z216 z217 z218 z219 z220 z221 z222 z223 z224 z225 z226 z227 : Value} w' a' c' q' d' na' nn' nc' xs', xs'.map Nx.dt = T0 ++ (snV V0).2.1 → DX wB w' g1 g2 gv s0 (snV V0).1 a' c' q' d' na' nn' nc' xs' → Q .normal (Act.mk (List.toArray (u0 :: (.pointer (some ⟨g1, 0, none⟩)) :: (.pointer (some ⟨g2, 0, none⟩)) :: u3 :: u4 :: (.pointer (some ⟨gv, 0, none⟩)) :: (.slice na' nn' nc') :: z7 :: z8 :: z9 :: z10 :: u11 :: u12 :: u13 :: u14 :: u15 :: u16 :: u17 :: u18 :: u19 :: u20 :: u21 :: u22 :: u23 :: u24 :: u25 :: u26 :: u27 :: u28 :: u29 :: u30 :: u31 :: u32 :: u33 :: u34 :: u35 :: u36 :: u37 :: u38 :: u39 :: u40 :: u41 :: u42 :: u43 :: u44 :: z45 :: z46 :: z47 :: z48 :: z49 :: z50 :: z51 :: z52 :: z53 :: z54 :: z55 :: z56 :: z57 :: z58 :: z59 :: z60 :: z61 :: z62 :: z63 :: z64 :: z65 :: z66 :: z67 :: z68 :: z69 :: z70 :: z71 :: z72 :: z73 :: z74 :: z75 :: z76 :: z77 :: z78 :: z79 :: z80 :: z81 :: z82 :: z83 :: z84 :: z85 :: z86 :: z87 :: z88 :: z89 :: z90 :: z91 :: z92 :: z93 :: z94 :: z95 :: z96 :: z97 :: z98 :: z99 :: z100 :: z101 :: z102 :: z103 :: z104 :: z105 :: z106 :: z107 :: z108 :: z109 :: z110 :: z111 :: z112 :: z113 :: z114 :: z115 :: z116 :: z117 :: z118 :: z119 :: z120 :: z121 :: z122 :: z123 :: z124 :: z125 :: z126 :: z127 :: z128 :: z129 :: z130 :: z131 :: z132 :: z133 :: z134 :: z135 :: z136 :: z137 :: z138 :: z139 :: z140 :: z141 :: z142 :: z143 :: z144 :: z145 :: z146 :: z147 :: z148 :: z149 :: z150 :: z151 :: z152 :: z153 :: z154 :: z155 :: z156 :: z157 :: z158 :: z159 :: z160 :: z161 :: z162 :: z163 :: z164 :: z165 :: z166 :: z167 :: z168 :: z169 :: z170 :: z171 :: z172 :: z173 :: z174 :: z175 :: z176 :: z177 :: z178 :: z179 :: z180 :: z181 :: z182 :: z183 :: z184 :: z185 :: z186 :: z187 :: z188 :: z189 :: z190 :: z191 :: z192 :: z193 :: z194 :: z195 :: z196 :: z197 :: z198 :: z199 :: z200 :: z201 :: z202 :: z203 :: z204 :: z205 :: z206 :: z207 :: z208 :: z209 :: z210 :: z211 :: z212 :: z213 :: z214 :: z215 :: z216 :: z217 :: z218 :: z219 :: z220 :: z221 :: z222 :: z223 :: z224 :: z225 :: z226 :: z227 :: u228 :: u229 :: u230 :: u231 :: u232 :: u233 :: u234 :: u235 :: u236 :: u237 :: u238 :: u239 :: u240 :: u241 :: u242 :: u243 :: u244 :: u245 :: u246 :: u247 :: u248 :: u249 :: u250 :: u251 :: u252 :: u253 :: u254 :: u255 :: u256 :: u257 :: u258 :: u259 :: u260 :: u261 :: u262 :: u263 :: u264 :: u265 :: u266 :: u267 :: u268 :: u269 :: u270 :: u271 :: u272 :: u273 :: u274 :: u275 :: u276 :: u277 :: u278 :: u279 :: u280 :: u281 :: u282 :: u283 :: u284 :: u285 :: u286 :: u287 :: u288 :: u289 :: u290 :: u291 :: u292 :: u293 :: u294 :: u295 :: u296 :: u297 :: u298 :: u299 :: u300 :: u301 :: u302 :: [])) []) w' ∧ Q (.exit 1) (Act.mk (List.toArray (u0 :: (.pointer (some ⟨g1, 0, none⟩)) :: (.pointer (some ⟨g2, 0, none⟩)) :: u3 :: u4 :: (.pointer (some ⟨gv, 0, none⟩)) :: (.slice na' nn' nc') :: z7 :: z8 :: z9 :: z10 :: u11 :: u12 :: u13 :: u14 :: u15 :: u16 :: u17 :: u18 :: u19 :: u20 :: u21 :: u22 :: u23 :: u24 :: u25 :: u26 :: u27 :: u28 :: u29 :: u30 :: u31 :: u32 :: u33 :: u34 :: u35 :: u36 :: u37 :: u38 :: u39 :: u40 :: u41 :: u42 :: u43 :: u44 :: z45 :: z46 :: z47 :: z48 :: z49 :: z50 :: z51 :: z52 :: z53 :: z54 :: z55 :: z56 :: z57 :: z58 :: z59 :: z60 :: z61 :: z62 :: z63 :: z64 :: z65 :: z66 :: z67 :: z68 :: z69 :: z70 :: z71 :: z72 :: z73 :: z74 :: z75 :: z76 :: z77 :: z78 :: z79 :: z80 :: z81 :: z82 :: z83 :: z84 :: z85 :: z86 :: z87 :: z88 :: z89 :: z90 :: z91 :: z92 :: z93 :: z94 :: z95 :: z96 :: z97 :: z98 :: z99 :: z100 :: z101 :: z102 :: z103 :: z104 :: z105 :: z106 :: z107 :: z108 :: z109 :: z110 :: z111 :: z112 :: z113 :: z114 :: z115 :: z116 :: z117 :: z118 :: z119 :: z120 :: z121 :: z122 :: z123 :: z124 :: z125 :: z126 :: z127 :: z128 :: z129 :: z130 :: z131 :: z132 :: z133 :: z134 :: z135 :: z136 :: z137 :: z138 :: z139 :: z140 :: z141 :: z142 :: z143 :: z144 :: z145 :: z146 :: z147 :: z148 :: z149 :: z150 :: z151 :: z152 :: z153 :: z154 :: z155 :: z156 :: z157 :: z158 :: z159 :: z160 :: z161 :: z162 :: z163 :: z164 :: z165 :: z166 :: z167 :: z168 :: z169 :: z170 :: z171 :: z172 :: z173 :: z174 :: z175 :: z176 :: z177 :: z178 :: z179 :: z180 :: z181 :: z182 :: z183 :: z184 :: z185 :: z186 :: z187 :: z188 :: z189 :: z190 :: z191 :: z192 :: z193 :: z194 :: z195 :: z196 :: z197 :: z198 :: z199 :: z200 :: z201 :: z202 :: z203 :: z204 :: z205 :: z206 :: z207 :: z208 :: z209 :: z210 :: z211 :: z212 :: z213 :: z214 :: z215 :: z216 :: z217 :: z218 :: z219 :: z220 :: z221 :: z222 :: z223 :: z224 :: z225 :: z226 :: z227 :: u228 :: u229 :: u230 :: u231 :: u232 :: u233 :: u234 :: u235 :: u236 :: u237 :: u238 :: u239 :: u240 :: u241 :: u242 :: u243 :: u244 :: u245 :: u246 :: u247 :: u248 :: u249 :: u250 :: u251 :: u252 :: u253 :: u254 :: u255 :: u256 :: u257 :: u258 :: u259 :: u260 :: u261 :: u262 :: u263 :: u264 :: u265 :: u266 :: u267 :: u268 :: u269 :: u270 :: u271 :: u272 :: u273 :: u274 :: u275 :: u276 :: u277 :: u278 :: u279 :: u280 :: u281 :: u282 :: u283 :: u284 :: u285 :: u286 :: u287 :: u288 :: u289 :: u290 :: u291 :: u292 :: u293 :: u294 :: u295 :: u296 :: u297 :: u298 :: u299 :: u300 :: u301 :: u302 :: [])) []) w')  :
    Code.wp Try.prog (tailR 19 (Try.f30.body.getD .skip)) Q (Act.mk (List.toArray (u0 :: (.pointer (some ⟨g1, 0, none⟩)) :: (.pointer (some ⟨g2, 0, none⟩)) :: u3 :: u4 :: (.pointer (some ⟨gv, 0, none⟩)) :: (.slice na nn nc) :: (.int .i64 (x : Int)) :: (.int .i64 (y : Int)) :: (.int .i64 (en : Int)) :: u10 :: u11 :: u12 :: u13 :: u14 :: u15 :: u16 :: u17 :: u18 :: u19 :: u20 :: u21 :: u22 :: u23 :: u24 :: u25 :: u26 :: u27 :: u28 :: u29 :: u30 :: u31 :: u32 :: u33 :: u34 :: u35 :: u36 :: u37 :: u38 :: u39 :: u40 :: u41 :: u42 :: u43 :: u44 :: u45 :: u46 :: u47 :: u48 :: u49 :: u50 :: u51 :: u52 :: u53 :: u54 :: u55 :: u56 :: u57 :: u58 :: u59 :: u60 :: u61 :: u62 :: u63 :: u64 :: u65 :: u66 :: u67 :: u68 :: u69 :: u70 :: u71 :: u72 :: u73 :: u74 :: u75 :: u76 :: u77 :: u78 :: u79 :: u80 :: u81 :: u82 :: u83 :: u84 :: u85 :: u86 :: u87 :: u88 :: u89 :: u90 :: u91 :: u92 :: u93 :: u94 :: u95 :: u96 :: u97 :: u98 :: u99 :: u100 :: u101 :: u102 :: u103 :: u104 :: u105 :: u106 :: u107 :: u108 :: u109 :: u110 :: u111 :: u112 :: u113 :: u114 :: u115 :: u116 :: u117 :: u118 :: u119 :: u120 :: u121 :: u122 :: u123 :: u124 :: u125 :: u126 :: u127 :: u128 :: u129 :: u130 :: u131 :: u132 :: u133 :: u134 :: u135 :: u136 :: u137 :: u138 :: u139 :: u140 :: u141 :: u142 :: u143 :: u144 :: u145 :: u146 :: u147 :: u148 :: u149 :: u150 :: u151 :: u152 :: u153 :: u154 :: u155 :: u156 :: u157 :: u158 :: u159 :: u160 :: u161 :: u162 :: u163 :: u164 :: u165 :: u166 :: u167 :: u168 :: u169 :: u170 :: u171 :: u172 :: u173 :: u174 :: u175 :: u176 :: u177 :: u178 :: u179 :: u180 :: u181 :: u182 :: u183 :: u184 :: u185 :: u186 :: u187 :: u188 :: u189 :: u190 :: u191 :: u192 :: u193 :: u194 :: u195 :: u196 :: u197 :: u198 :: u199 :: u200 :: u201 :: u202 :: u203 :: u204 :: u205 :: u206 :: u207 :: u208 :: u209 :: u210 :: u211 :: u212 :: u213 :: u214 :: u215 :: u216 :: u217 :: u218 :: u219 :: u220 :: u221 :: u222 :: u223 :: u224 :: u225 :: u226 :: u227 :: u228 :: u229 :: u230 :: u231 :: u232 :: u233 :: u234 :: u235 :: u236 :: u237 :: u238 :: u239 :: u240 :: u241 :: u242 :: u243 :: u244 :: u245 :: u246 :: u247 :: u248 :: u249 :: u250 :: u251 :: u252 :: u253 :: u254 :: u255 :: u256 :: u257 :: u258 :: u259 :: u260 :: u261 :: u262 :: u263 :: u264 :: u265 :: u266 :: u267 :: u268 :: u269 :: u270 :: u271 :: u272 :: u273 :: u274 :: u275 :: u276 :: u277 :: u278 :: u279 :: u280 :: u281 :: u282 :: u283 :: u284 :: u285 :: u286 :: u287 :: u288 :: u289 :: u290 :: u291 :: u292 :: u293 :: u294 :: u295 :: u296 :: u297 :: u298 :: u299 :: u300 :: u301 :: u302 :: [])) []) w := by
  conv => enter [2]; whnf
  have HQT : Hid _ := @hQT
  clear hQT
  subst hq
  have HX : Hid _ := hX
  have HDD : Hid _ := hDD
  have HT : Hid _ := hT
  have hml : V.G.length = G.length + 1 := by rw [hG, List.length_cons]
  have hdl3 : V.G.length ≤ d := h.O.le
  have HML : Hid _ := hml
  have HG : Hid _ := hG
  have HSZ : off < cur.size := by omega
  clear hX hDD hT
  refine wp_seq_k fun K1 hK1 => ?_
  have HK1 : Hid _ := hK1
  clear hK1
  have kC : Calls Try.prog 62 #[.pointer (some ⟨gv, 0, none⟩), .int .i64 (x : Int), .int .i64 (en : Int)] w (fun e w' => ∃ a4 c4, e = .returned (.agg #[.int .i64 2, .int .i64 V.id, .string ⟨#[]⟩, .int .i64 0, .int .i64 0, .int .i64 (x : Int), .slice a4 D.length c4, .slice none 0 0, .int .i64 0, .int .i64 0]) ∧ Ans w' w.heap.size a4 D.length c4 D ∧ w.grownBy w' none) := by have := rpiece_any w gv _ _ _ _ _ _ _ _ _ _ _ _ _ _ _ _ _ V.L h.A.rd h.bv x en hxe hen9 hn9; rw [HDD.out] at this; exact this
  obtain ⟨i0, hi, hz0, hz1, hz2⟩ := info_parts Try.info_nt3
  have s0' : True := trivial
  go_wp2_with (first
    | (go_at_call 62; have _t := s0'; clear s0'; refine Calls.mono kC ?_; rintro e wc ⟨a4, c4, rfl, hA4, yc⟩; have bA := BxS.new wc 27 #[.int .i64 2, .int .i64 V.id, .string ⟨#[]⟩, .int .i64 0, .int .i64 0, .int .i64 (x : Int), .slice a4 D.length c4, .slice none 0 0, .int .i64 0, .int .i64 0]; have yA := World.grownBy_alloc wc (.cells #[.int .i64 2, .int .i64 V.id, .string ⟨#[]⟩, .int .i64 0, .int .i64 0, .int .i64 (x : Int), .slice a4 D.length c4, .slice none 0 0, .int .i64 0, .int .i64 0] 27) none; generalize hwA : wc.alloc (.cells #[.int .i64 2, .int .i64 V.id, .string ⟨#[]⟩, .int .i64 0, .int .i64 0, .int .i64 (x : Int), .slice a4 D.length c4, .slice none 0 0, .int .i64 0, .int .i64 0] 27) = wA at bA yA; have hA := h.keepN (grown_trans yc yA); have s1' : True := trivial)
    | (at_builtin; have _t := s1'; clear s1'; refine wpList_apS wA rfl _ _ 54 27 i0 _ 10 120 Try.underlying54 hi hz0 hz1 hz2 rfl (by decide) rfl (.slice na nn nc) nn (flN xs) rfl hA.N.own ⟨wc.heap.size, 0, none⟩ 1 1 (xPie V.id x D a4 c4).cells rfl rfl bA.newsA (by intro u hu; simp only [xPie, Nx.cells, Nx.arr, List.mem_cons, List.not_mem_nil, or_false] at hu; rcases hu with rfl | rfl | rfl | rfl | rfl | rfl | rfl | rfl | rfl | rfl <;> rfl) (by decide) (by unfold maxLen; omega) (by omega) ?_; intro gx cx w5 hor u5 hO5))
  have h5 := hA.push (x := xPie V.id x D a4 c4) rfl rfl rfl ((hA4.wide h.g.size).keep yA) (fun z e e2 => by have h1 := hA4.new z e; have h2 := h.N.lt e2; omega) hor u5 hO5
  refine HK1.out _ _ ?_
  clear HK1
  have bq5 : BxS w5 gq 82 cur := ((bq.keep yc (by simp)).keep yA (by simp)).keep u5 (fun e => by obtain ⟨cs, hb⟩ := own_bxS hA.N.own e.symm; exact BxS.apart ((bq.keep yc (by simp)).keep yA (by simp)) hb (by decide) rfl)
  have x8 : w5.cell? ⟨gv, 8, none⟩ = some (.slice (some ⟨gq, off, none⟩) V.G.length d) := h5.bv.cell 8 (by show 8 < 13; decide)
  have hm0 : 0 < V.G.length := by omega
  have hm1 : (0 : Int) < (V.G.length : Int) := by omega
  clear hml hG
  refine wp_seq_k fun K1 hK1 => ?_
  have HK1 : Hid _ := hK1
  clear hK1
  have s0' : True := trivial
  go_wp2_with (have _t := s0'; clear s0'; refine wpList_stC _ rfl _ _ _ rfl gq off 82 cur (cur.setIfInBounds off (.int .i64 (en : Int))) (.int .i64 (en : Int)) rfl rfl bq5 (stc_int _ _ _) HSZ rfl ?_; intro w6 b6 u6)
  refine HK1.out _ _ ?_
  clear HK1
  have hO6 : OgP w6 wB.heap.size (some ⟨gq, off, none⟩) (((en : Int), (y : Int)) :: G).length d (((en : Int), (y : Int)) :: G) := by
    have h9 := h5.O
    rw [HG.out] at h9
    exact h9.head bq5 b6
  have h6 := h5.hd bq5 hlq u6 (V' := { V with G := ((en : Int), (y : Int)) :: G }) rfl (by show (((en : Int), (y : Int)) :: G).length = _; rw [HML.out, List.length_cons]) hO6
  clear h5 x8 bq5 b6 u6 hO6 hA hor u5 hO5 yc yA bA
  by_cases hee : en = y
  · subst hee
    have HX2 : Hid (snV V0 = ({ V with G := G }, [ntPie V x en], true)) := by show _ = _; rw [HX.out, if_pos rfl]
    clear HX
    have HX := HX2
    have hOt := h6.O.tail
    have hm1' : (1 : Int) ≤ ((G.length + 1 : Nat) : Int) := by omega
    have hd0 : G.length + 1 ≤ d := by have := HML.out; omega
    have hd2 : (1 : Int) ≤ (d : Int) := by omega
    have hd3 : ((G.length + 1 : Nat) : Int) ≤ (d : Int) := by omega
    obtain ⟨mm, hmm⟩ : ∃ mm, G.length + 1 = mm := ⟨_, rfl⟩
    have hmm1 : (1 : Int) ≤ (mm : Int) := by omega
    have hmm2 : (mm : Int) ≤ (d : Int) := by omega
    have hmm3 : mm ≤ d := by omega
    have hmm4 : 1 ≤ mm := by omega
    have bv6 : BxS w6 gv 92 #[.int .i64 V.id, .string V.nm, .slice a V.L.length c, .int .i64 V.mo, .int .i64 V.bu, .int .i64 V.st, .bool V.fi, .int .i64 V.at', .slice (some ⟨gq, off, none⟩) mm d, .int .i64 V.ti, .int .i64 V.pa, .int .i64 V.tr, .int .i64 V.li] := by rw [← hmm]; exact h6.bv
    clear hm1' hd3
    have HMM : Hid _ := hmm
    clear hmm
    by_cases hd1 : d = 1
    · subst hd1
      obtain rfl : G = [] := List.length_eq_zero_iff.1 (by have := HMM.out; omega)
      have hOt : OgP w6 wB.heap.size (some ⟨gq, off, none⟩) 0 0 [] := by have := hOt; rw [if_pos rfl] at this; exact this
      have x8 : w6.cell? ⟨gv, 8, none⟩ = some (.slice (some ⟨gq, off, none⟩) mm 1) := bv6.cell 8 (by show 8 < 13; decide)
      have s0' : True := trivial
      go_wp2_with (have _t := s0'; clear s0'; refine wpList_stC _ rfl _ _ _ rfl gv 8 92 _ #[.int .i64 V.id, .string V.nm, .slice a V.L.length c, .int .i64 V.mo, .int .i64 V.bu, .int .i64 V.st, .bool V.fi, .int .i64 V.at', .slice (some ⟨gq, off, none⟩) 0 0, .int .i64 V.ti, .int .i64 V.pa, .int .i64 V.tr, .int .i64 V.li] (.slice (some ⟨gq, off, none⟩) 0 0) rfl rfl bv6 (stc_slG _ _ _ _ _) (by show 8 < 13; decide) rfl ?_; intro w8 b8 u8)
      have h8 := h6.setV u8 (V' := { V with G := [] }) rfl hOt b8
      refine (HQT.out (by rw [HX.out]) w8 a c (some ⟨gq, off, none⟩) 0 _ _ _ (xs ++ [xPie V.id x D a4 c4]) ?_ ?_).1
      · rw [HX.out]; exact map_one HT.out _ _ (by show Nt.mk _ _ _ _ _ _ _ _ _ _ = _; rw [← HDD.out]; rfl)
      · rw [HX.out]; exact h8
    · have hOt : OgP w6 wB.heap.size (some ⟨gq, off + 2, none⟩) G.length (d - 1) G := by have := hOt; rw [if_neg hd1] at this; exact this
      have x8 : w6.cell? ⟨gv, 8, none⟩ = some (.slice (some ⟨gq, off, none⟩) mm d) := bv6.cell 8 (by show 8 < 13; decide)
      have s0' : True := trivial
      go_wp2_with (have _t := s0'; clear s0'; refine wpList_stC _ rfl _ _ _ rfl gv 8 92 _ #[.int .i64 V.id, .string V.nm, .slice a V.L.length c, .int .i64 V.mo, .int .i64 V.bu, .int .i64 V.st, .bool V.fi, .int .i64 V.at', .slice (some ⟨gq, off + 2, none⟩) (mm - 1) (d - 1), .int .i64 V.ti, .int .i64 V.pa, .int .i64 V.tr, .int .i64 V.li] (.slice (some ⟨gq, off + 2, none⟩) (mm - 1) (d - 1)) rfl rfl bv6 (stc_slG _ _ _ _ _) (by show 8 < 13; decide) rfl ?_; intro w8 b8 u8)
      have hm9 : mm - 1 = G.length := by have := HMM.out; omega
      rw [hm9] at b8
      have h8 := h6.setV u8 (V' := { V with G := G }) rfl hOt b8
      refine (HQT.out (by rw [HX.out]) w8 a c (some ⟨gq, off + 2, none⟩) (d - 1) _ _ _ (xs ++ [xPie V.id x D a4 c4]) ?_ ?_).1
      · rw [HX.out]; exact map_one HT.out _ _ (by show Nt.mk _ _ _ _ _ _ _ _ _ _ = _; rw [← HDD.out]; rfl)
      · rw [HX.out]; exact h8
  · have HX2 : Hid (snV V0 = ({ V with G := ((en : Int), (y : Int)) :: G }, [ntPie V x en], true)) := by show _ = _; rw [HX.out, if_neg hee]
    clear HX
    have HX := HX2
    have hee2 : ((en : Int) == (y : Int)) = false := beq_eq_false_iff_ne.2 (by omega)
    have hee3 : ¬ (en : Int) = (y : Int) := by omega
    go_wp2
    refine (HQT.out (by rw [HX.out]) w6 a c (some ⟨gq, off, none⟩) d _ _ _ (xs ++ [xPie V.id x D a4 c4]) ?_ ?_).1
    · rw [HX.out]; exact map_one HT.out _ _ (by show Nt.mk _ _ _ _ _ _ _ _ _ _ = _; rw [← HDD.out]; rfl)
    · rw [HX.out]; exact h6

set_option maxHeartbeats 16000000 in
theorem gf_t13p {u0 u3 u4 u9 u10 u11 u12 u13 u14 u15 u16 u17 u18 u19 u20 u21 u22 u23 u24 u25 u26 u27 u28 u29 u30 u31 u32 u33 u34 u35 u36 u37 u38 u39 u40 u41 u42 u43 u44 u45 u46 u47 u48 u49 u50 u51 u52 u53 u54 u55 u56 u57 u58 u59 u60 u61 u62 u63 u64 u65 u66 u67 u68 u69 u70 u71 u72 u73 u74 u75 u76 u77 u78 u79 u80 u81 u82 u83 u84 u85 u86 u87 u88 u89 u90 u91 u92 u93 u94 u95 u96 u97 u98 u99 u100 u101 u102 u103 u104 u105 u106 u107 u108 u109 u110 u111 u112 u113 u114 u115 u116 u117 u118 u119 u120 u121 u122 u123 u124 u125 u126 u127 u128 u129 u130 u131 u132 u133 u134 u135 u136 u137 u138 u139 u140 u141 u142 u143 u144 u145 u146 u147 u148 u149 u150 u151 u152 u153 u154 u155 u156 u157 u158 u159 u160 u161 u162 u163 u164 u165 u166 u167 u168 u169 u170 u171 u172 u173 u174 u175 u176 u177 u178 u179 u180 u181 u182 u183 u184 u185 u186 u187 u188 u189 u190 u191 u192 u193 u194 u195 u196 u197 u198 u199 u200 u201 u202 u203 u204 u205 u206 u207 u208 u209 u210 u211 u212 u213 u214 u215 u216 u217 u218 u219 u220 u221 u222 u223 u224 u225 u226 u227 u228 u229 u230 u231 u232 u233 u234 u235 u236 u237 u238 u239 u240 u241 u242 u243 u244 u245 u246 u247 u248 u249 u250 u251 u252 u253 u254 u255 u256 u257 u258 u259 u260 u261 u262 u263 u264 u265 u266 u267 u268 u269 u270 u271 u272 u273 u274 u275 u276 u277 u278 u279 u280 u281 u282 u283 u284 u285 u286 u287 u288 u289 u290 u291 u292 u293 u294 u295 u296 u297 u298 u299 u300 u301 u302 : Value} (Q : Exit → Act → World → Prop) (wB w : World) (g1 g2 gv : Nat) (s0 : Int) (V : Gv) (a : Option Addr) (c : Nat) (q : Option Addr) (d : Nat) (na : Option Addr) (nn nc : Nat) (xs : List Nx) (V0 : Gv) (T0 : List Nt) (h : DX wB w g1 g2 gv s0 V a c q d na nn nc xs) (ho : GvO V0) (hnn : nn ≤ 1000) (hPn : ∀ c a a' wz, a.defers = a'.defers → Q (.panic c) a wz → Q (.panic c) a' wz) (gq off x y : Nat) (cur : Array Value) (G : List (Int × Int)) (hT : xs.map Nx.dt = T0) (hV : V = V0) (hfi : V0.fi = false) (hG : V.G = ((x : Int), (y : Int)) :: G) (hq : q = some ⟨gq, off, none⟩) (hxy : x < y) (hyn : y ≤ V.L.length) (bq : BxS w gq 82 cur) (hlq : wB.heap.size ≤ gq) (hsz : off + V.G.length * 2 ≤ cur.size) (hQT : (snV V0).2.2 = true → ∀ {z7 z8 z9 z10 z45 z46 z47 z48 z49 z50 z51 z52 z53 z54 z55 z56 z57 z58 z59 z60 z61 z62 z63 z64 z65 z66 z67 z68 z69 z70 z71 z72 z73 z74 z75 z76 z77 z78 z79 z80 z81 z82 z83 z84 z85 z86 z87 z88 z89 z90 z91 z92 z93 z94 z95 z96 z97 z98 z99 z100 z101 z102 z103 z104 z105 z106 z107 z108 z109 z110 z111 z112 z113 z114 z115 z116 z117 z118 z119 z120 z121 z122 z123 z124 z125 z126 z127 z128 z129 z130 z131 z132 z133 z134 z135 z136 z137 z138 z139 z140 z141 z142 z143 z144 z145 z146 z147 z148 z149 z150 z151 z152 z153 z154 z155 z156 z157 z158 z159 z160 z161 z162 z163 z164 z165 z166 z167 z168 z169 z170 z171 z172 z173 z174 z175 z176 z177 z178 z179 z180 z181 z182 z183 z184 z185 z186 z187 z188 z189 z190 z191 z192 z193 z194 z195 z196 z197 z198 z199 z200 z201 z202 z203 z204 z205 z206 z207 z208 z209 z210 z211 z212 z213 z214 z215 z216 z217 z218 z219 z220 z221 z222 z223 z224 z225 z226 z227 : Value} w' a' c' q' d' na' nn' nc' xs', xs'.map Nx.dt = T0 ++ (snV V0).2.1 → DX wB w' g1 g2 gv s0 (snV V0).1 a' c' q' d' na' nn' nc' xs' → Q .normal (Act.mk (List.toArray (u0 :: (.pointer (some ⟨g1, 0, none⟩)) :: (.pointer (some ⟨g2, 0, none⟩)) :: u3 :: u4 :: (.pointer (some ⟨gv, 0, none⟩)) :: (.slice na' nn' nc') :: z7 :: z8 :: z9 :: z10 :: u11 :: u12 :: u13 :: u14 :: u15 :: u16 :: u17 :: u18 :: u19 :: u20 :: u21 :: u22 :: u23 :: u24 :: u25 :: u26 :: u27 :: u28 :: u29 :: u30 :: u31 :: u32 :: u33 :: u34 :: u35 :: u36 :: u37 :: u38 :: u39 :: u40 :: u41 :: u42 :: u43 :: u44 :: z45 :: z46 :: z47 :: z48 :: z49 :: z50 :: z51 :: z52 :: z53 :: z54 :: z55 :: z56 :: z57 :: z58 :: z59 :: z60 :: z61 :: z62 :: z63 :: z64 :: z65 :: z66 :: z67 :: z68 :: z69 :: z70 :: z71 :: z72 :: z73 :: z74 :: z75 :: z76 :: z77 :: z78 :: z79 :: z80 :: z81 :: z82 :: z83 :: z84 :: z85 :: z86 :: z87 :: z88 :: z89 :: z90 :: z91 :: z92 :: z93 :: z94 :: z95 :: z96 :: z97 :: z98 :: z99 :: z100 :: z101 :: z102 :: z103 :: z104 :: z105 :: z106 :: z107 :: z108 :: z109 :: z110 :: z111 :: z112 :: z113 :: z114 :: z115 :: z116 :: z117 :: z118 :: z119 :: z120 :: z121 :: z122 :: z123 :: z124 :: z125 :: z126 :: z127 :: z128 :: z129 :: z130 :: z131 :: z132 :: z133 :: z134 :: z135 :: z136 :: z137 :: z138 :: z139 :: z140 :: z141 :: z142 :: z143 :: z144 :: z145 :: z146 :: z147 :: z148 :: z149 :: z150 :: z151 :: z152 :: z153 :: z154 :: z155 :: z156 :: z157 :: z158 :: z159 :: z160 :: z161 :: z162 :: z163 :: z164 :: z165 :: z166 :: z167 :: z168 :: z169 :: z170 :: z171 :: z172 :: z173 :: z174 :: z175 :: z176 :: z177 :: z178 :: z179 :: z180 :: z181 :: z182 :: z183 :: z184 :: z185 :: z186 :: z187 :: z188 :: z189 :: z190 :: z191 :: z192 :: z193 :: z194 :: z195 :: z196 :: z197 :: z198 :: z199 :: z200 :: z201 :: z202 :: z203 :: z204 :: z205 :: z206 :: z207 :: z208 :: z209 :: z210 :: z211 :: z212 :: z213 :: z214 :: z215 :: z216 :: z217 :: z218 :: z219 :: z220 :: z221 :: z222 :: z223 :: z224 :: z225 :: z226 :: z227 :: u228 :: u229 :: u230 :: u231 :: u232 :: u233 :: u234 :: u235 :: u236 :: u237 :: u238 :: u239 :: u240 :: u241 :: u242 :: u243 :: u244 :: u245 :: u246 :: u247 :: u248 :: u249 :: u250 :: u251 :: u252 :: u253 :: u254 :: u255 :: u256 :: u257 :: u258 :: u259 :: u260 :: u261 :: u262 :: u263 :: u264 :: u265 :: u266 :: u267 :: u268 :: u269 :: u270 :: u271 :: u272 :: u273 :: u274 :: u275 :: u276 :: u277 :: u278 :: u279 :: u280 :: u281 :: u282 :: u283 :: u284 :: u285 :: u286 :: u287 :: u288 :: u289 :: u290 :: u291 :: u292 :: u293 :: u294 :: u295 :: u296 :: u297 :: u298 :: u299 :: u300 :: u301 :: u302 :: [])) []) w' ∧ Q (.exit 1) (Act.mk (List.toArray (u0 :: (.pointer (some ⟨g1, 0, none⟩)) :: (.pointer (some ⟨g2, 0, none⟩)) :: u3 :: u4 :: (.pointer (some ⟨gv, 0, none⟩)) :: (.slice na' nn' nc') :: z7 :: z8 :: z9 :: z10 :: u11 :: u12 :: u13 :: u14 :: u15 :: u16 :: u17 :: u18 :: u19 :: u20 :: u21 :: u22 :: u23 :: u24 :: u25 :: u26 :: u27 :: u28 :: u29 :: u30 :: u31 :: u32 :: u33 :: u34 :: u35 :: u36 :: u37 :: u38 :: u39 :: u40 :: u41 :: u42 :: u43 :: u44 :: z45 :: z46 :: z47 :: z48 :: z49 :: z50 :: z51 :: z52 :: z53 :: z54 :: z55 :: z56 :: z57 :: z58 :: z59 :: z60 :: z61 :: z62 :: z63 :: z64 :: z65 :: z66 :: z67 :: z68 :: z69 :: z70 :: z71 :: z72 :: z73 :: z74 :: z75 :: z76 :: z77 :: z78 :: z79 :: z80 :: z81 :: z82 :: z83 :: z84 :: z85 :: z86 :: z87 :: z88 :: z89 :: z90 :: z91 :: z92 :: z93 :: z94 :: z95 :: z96 :: z97 :: z98 :: z99 :: z100 :: z101 :: z102 :: z103 :: z104 :: z105 :: z106 :: z107 :: z108 :: z109 :: z110 :: z111 :: z112 :: z113 :: z114 :: z115 :: z116 :: z117 :: z118 :: z119 :: z120 :: z121 :: z122 :: z123 :: z124 :: z125 :: z126 :: z127 :: z128 :: z129 :: z130 :: z131 :: z132 :: z133 :: z134 :: z135 :: z136 :: z137 :: z138 :: z139 :: z140 :: z141 :: z142 :: z143 :: z144 :: z145 :: z146 :: z147 :: z148 :: z149 :: z150 :: z151 :: z152 :: z153 :: z154 :: z155 :: z156 :: z157 :: z158 :: z159 :: z160 :: z161 :: z162 :: z163 :: z164 :: z165 :: z166 :: z167 :: z168 :: z169 :: z170 :: z171 :: z172 :: z173 :: z174 :: z175 :: z176 :: z177 :: z178 :: z179 :: z180 :: z181 :: z182 :: z183 :: z184 :: z185 :: z186 :: z187 :: z188 :: z189 :: z190 :: z191 :: z192 :: z193 :: z194 :: z195 :: z196 :: z197 :: z198 :: z199 :: z200 :: z201 :: z202 :: z203 :: z204 :: z205 :: z206 :: z207 :: z208 :: z209 :: z210 :: z211 :: z212 :: z213 :: z214 :: z215 :: z216 :: z217 :: z218 :: z219 :: z220 :: z221 :: z222 :: z223 :: z224 :: z225 :: z226 :: z227 :: u228 :: u229 :: u230 :: u231 :: u232 :: u233 :: u234 :: u235 :: u236 :: u237 :: u238 :: u239 :: u240 :: u241 :: u242 :: u243 :: u244 :: u245 :: u246 :: u247 :: u248 :: u249 :: u250 :: u251 :: u252 :: u253 :: u254 :: u255 :: u256 :: u257 :: u258 :: u259 :: u260 :: u261 :: u262 :: u263 :: u264 :: u265 :: u266 :: u267 :: u268 :: u269 :: u270 :: u271 :: u272 :: u273 :: u274 :: u275 :: u276 :: u277 :: u278 :: u279 :: u280 :: u281 :: u282 :: u283 :: u284 :: u285 :: u286 :: u287 :: u288 :: u289 :: u290 :: u291 :: u292 :: u293 :: u294 :: u295 :: u296 :: u297 :: u298 :: u299 :: u300 :: u301 :: u302 :: [])) []) w')  :
    Code.wp Try.prog (tailR 13 (Try.f30.body.getD .skip)) Q (Act.mk (List.toArray (u0 :: (.pointer (some ⟨g1, 0, none⟩)) :: (.pointer (some ⟨g2, 0, none⟩)) :: u3 :: u4 :: (.pointer (some ⟨gv, 0, none⟩)) :: (.slice na nn nc) :: (.int .i64 (x : Int)) :: (.int .i64 (y : Int)) :: u9 :: u10 :: u11 :: u12 :: u13 :: u14 :: u15 :: u16 :: u17 :: u18 :: u19 :: u20 :: u21 :: u22 :: u23 :: u24 :: u25 :: u26 :: u27 :: u28 :: u29 :: u30 :: u31 :: u32 :: u33 :: u34 :: u35 :: u36 :: u37 :: u38 :: u39 :: u40 :: u41 :: u42 :: u43 :: u44 :: u45 :: u46 :: u47 :: u48 :: u49 :: u50 :: u51 :: u52 :: u53 :: u54 :: u55 :: u56 :: u57 :: u58 :: u59 :: u60 :: u61 :: u62 :: u63 :: u64 :: u65 :: u66 :: u67 :: u68 :: u69 :: u70 :: u71 :: u72 :: u73 :: u74 :: u75 :: u76 :: u77 :: u78 :: u79 :: u80 :: u81 :: u82 :: u83 :: u84 :: u85 :: u86 :: u87 :: u88 :: u89 :: u90 :: u91 :: u92 :: u93 :: u94 :: u95 :: u96 :: u97 :: u98 :: u99 :: u100 :: u101 :: u102 :: u103 :: u104 :: u105 :: u106 :: u107 :: u108 :: u109 :: u110 :: u111 :: u112 :: u113 :: u114 :: u115 :: u116 :: u117 :: u118 :: u119 :: u120 :: u121 :: u122 :: u123 :: u124 :: u125 :: u126 :: u127 :: u128 :: u129 :: u130 :: u131 :: u132 :: u133 :: u134 :: u135 :: u136 :: u137 :: u138 :: u139 :: u140 :: u141 :: u142 :: u143 :: u144 :: u145 :: u146 :: u147 :: u148 :: u149 :: u150 :: u151 :: u152 :: u153 :: u154 :: u155 :: u156 :: u157 :: u158 :: u159 :: u160 :: u161 :: u162 :: u163 :: u164 :: u165 :: u166 :: u167 :: u168 :: u169 :: u170 :: u171 :: u172 :: u173 :: u174 :: u175 :: u176 :: u177 :: u178 :: u179 :: u180 :: u181 :: u182 :: u183 :: u184 :: u185 :: u186 :: u187 :: u188 :: u189 :: u190 :: u191 :: u192 :: u193 :: u194 :: u195 :: u196 :: u197 :: u198 :: u199 :: u200 :: u201 :: u202 :: u203 :: u204 :: u205 :: u206 :: u207 :: u208 :: u209 :: u210 :: u211 :: u212 :: u213 :: u214 :: u215 :: u216 :: u217 :: u218 :: u219 :: u220 :: u221 :: u222 :: u223 :: u224 :: u225 :: u226 :: u227 :: u228 :: u229 :: u230 :: u231 :: u232 :: u233 :: u234 :: u235 :: u236 :: u237 :: u238 :: u239 :: u240 :: u241 :: u242 :: u243 :: u244 :: u245 :: u246 :: u247 :: u248 :: u249 :: u250 :: u251 :: u252 :: u253 :: u254 :: u255 :: u256 :: u257 :: u258 :: u259 :: u260 :: u261 :: u262 :: u263 :: u264 :: u265 :: u266 :: u267 :: u268 :: u269 :: u270 :: u271 :: u272 :: u273 :: u274 :: u275 :: u276 :: u277 :: u278 :: u279 :: u280 :: u281 :: u282 :: u283 :: u284 :: u285 :: u286 :: u287 :: u288 :: u289 :: u290 :: u291 :: u292 :: u293 :: u294 :: u295 :: u296 :: u297 :: u298 :: u299 :: u300 :: u301 :: u302 :: [])) []) w := by
  conv => enter [2]; whnf
  have HQT : Hid _ := @hQT
  clear hQT
  subst hV
  subst hq
  obtain ⟨k, hk⟩ : ∃ k : Nat, V.mo = (k : Int) := ⟨V.mo.toNat, by have := ho.mo; omega⟩
  obtain ⟨en, hen⟩ : ∃ en, enN V x y = en := ⟨_, rfl⟩
  have hen2 : en = if x + k ≤ y then x + k else y := by
    rw [← hen]; unfold enN; rw [hk, Int.toNat_natCast]
  have hk1 : 1 ≤ k ∧ k ≤ 1024 := by have := ho.mo; omega
  have hle : x < en ∧ en ≤ y := by
    rw [hen2]
    by_cases e : x + k ≤ y
    · rw [if_pos e]; omega
    · rw [if_neg e]; omega
  have hn9 := ho.n9
  have hxe := hle.1
  have hen9 : en ≤ V.L.length := by omega
  have hz : ¬ ((x : Int) = 0 ∧ (y : Int) = 0) := by omega
  have HX : Hid (snV V = ({ V with G := if en = y then G else ((en : Int), (y : Int)) :: G }, [ntPie V x en], true)) := by
    show _ = _
    unfold snV
    rw [if_neg (by rw [hfi]; decide), hG]
    show ((agD V ((x : Int), (y : Int)) G).1, (agD V ((x : Int), (y : Int)) G).2, true) = _
    unfold agD
    rw [if_neg hz, Int.toNat_natCast, Int.toNat_natCast, hen]
  obtain ⟨D, hDD⟩ : ∃ D, (V.L.drop x).take (en - x) = D := ⟨_, rfl⟩
  have HDD : Hid _ := hDD
  have HEN : Hid _ := hen2
  have hy0 : ((y : Int) == 0) = false := beq_eq_false_iff_ne.2 (by omega)
  have hy1 : ¬ (y : Int) = 0 := by omega
  obtain ⟨s, hs⟩ : ∃ s, x + k = s := ⟨_, rfl⟩
  have hws : IntKind.i64.wrap ((x : Int) + (k : Int)) = (s : Int) := by rw [← hs]; exact wrap_i64_in _ (by omega) (by omega)
  have x3 : w.cell? ⟨gv, 3, none⟩ = some (.int .i64 (k : Int)) := by have := h.bv.cell 3 (by show 3 < 13; decide); rw [← hk]; exact this
  rw [hs] at hen2 HEN
  have HS : Hid _ := hs
  have HK9 : Hid _ := hk
  clear hen hDD hk hs hen2
  have HT : Hid _ := hT
  have hgl := ho.gl
  have hml : V.G.length = G.length + 1 := by rw [hG, List.length_cons]
  have hm1 : (1 : Int) ≤ (V.G.length : Int) := by omega
  have hm2 : 1 ≤ V.G.length := by omega
  have hdl : 1 ≤ d := by have := h.O.le; omega
  have hdl2 : (1 : Int) ≤ (d : Int) := by omega
  have hdl3 : V.G.length ≤ d := h.O.le
  have hdl4 : (V.G.length : Int) ≤ (d : Int) := by omega
  have HML : Hid _ := hml
  have HG : Hid _ := hG
  clear hT hml hG
  have HSZ : Hid _ := hsz
  clear hsz
  refine wp_seq_k fun K1 hK1 => ?_
  have HK1 : Hid _ := hK1
  clear hK1
  go_wp2
  refine HK1.out _ _ ?_
  clear HK1
  refine wp_seq_k fun K1 hK1 => ?_
  have HK1 : Hid _ := hK1
  clear hK1
  go_wp2
  refine HK1.out _ _ ?_
  clear HK1
  refine wp_seq_k fun K1 hK1 => ?_
  have HK1 : Hid _ := hK1
  clear hK1
  by_cases hsy : s < y
  · have hen3 : en = s := by have := HEN.out; rw [if_pos (by omega)] at this; exact this
    subst hen3
    have m1 : (en : Int) < (y : Int) := by omega
    go_wp2
    refine HK1.out _ _ ?_
    clear HK1
    exact gf_t19 Q wB w g1 g2 gv s0 V a c _ d na nn nc xs V T0 h ho hnn hPn gq off x y en cur G D rfl HT.out HG.out hxe hen9 hn9 hle.2 bq hlq HSZ.out HDD.out HX.out HQT.out
  · have hen3 : en = y := by have := HEN.out; by_cases e : s ≤ y; (rw [if_pos e] at this; omega); (rw [if_neg e] at this; exact this)
    subst hen3
    have m1 : ¬ (s : Int) < (en : Int) := by omega
    go_wp2
    refine HK1.out _ _ ?_
    clear HK1
    exact gf_t19 Q wB w g1 g2 gv s0 V a c _ d na nn nc xs V T0 h ho hnn hPn gq off x en en cur G D rfl HT.out HG.out hxe hen9 hn9 hle.2 bq hlq HSZ.out HDD.out (by rw [HX.out]; simp) HQT.out
end
end Go.Proofs.Ytnimehkfnpepfaa
