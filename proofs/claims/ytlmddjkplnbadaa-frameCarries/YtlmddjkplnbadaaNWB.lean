import Derived.Test.YtlmddjkplnbadaaNWA
namespace Go.Proofs.Ytlmddjkplnbadaa
open Go.RowKit
set_option maxRecDepth 100000
set_option linter.unusedVariables false
set_option linter.unusedSimpArgs false

set_option maxHeartbeats 32000000 in
/-- the one that may miss frames hears this one -/
theorem ca_t49 {u0 u1 u2 u3 u4 u5 u6 u7 u8 u9 u11 u12 u13 u15 u16 u19 u20 u21 u22 u24 u25 u26 u27 u28 u29 u30 u32 u33 u34 u35 u36 u37 u38 u39 u40 u41 u42 u43 u44 u45 u46 u47 u48 u49 u50 u51 u52 u53 u54 u55 u56 u57 u58 u59 u60 u61 u62 u63 u64 u65 u66 u67 u68 u69 u70 u71 u72 u73 u74 u75 u76 u77 u78 u79 u80 u81 u82 u83 u84 u85 u86 u87 u88 u89 u90 u91 u92 u93 u94 u95 u96 u97 u98 u99 u100 u101 u102 u103 u104 u105 u106 u107 u108 u109 u110 u111 u112 u113 u114 u115 u116 u117 u118 u119 u120 u121 u122 u123 u124 u125 u126 u127 u128 u129 u130 u131 u132 u133 u134 u135 u136 u137 u138 u139 u140 u141 u142 u143 u144 u145 u146 u147 u148 u149 u150 u151 u152 u153 u154 u155 u156 u157 u158 u159 u160 u161 u162 u163 u164 u165 u166 u167 u168 u169 u170 u171 u172 u173 u174 u175 u176 u177 u178 u179 u180 u181 u182 u183 u184 u185 u186 u187 u188 u189 u190 u191 u192 u193 u194 u195 u196 u197 u198 u199 u200 u201 u202 u203 u204 u205 u206 u207 u208 u209 u210 u211 u212 u213 u214 u215 u216 u217 u218 u219 u220 u221 u222 u223 u224 u225 u226 u227 u228 u229 u230 u231 u232 u233 u234 u235 u236 u237 u238 u239 u240 u241 u242 u243 u244 u245 u246 u247 u248 u249 u250 u251 u252 u253 u254 u255 u256 u257 u258 u259 u260 u261 u262 u263 u264 u265 u266 u267 u268 u269 u270 u271 u272 u273 u274 u275 u276 u277 u278 u279 u280 u281 u282 u283 u284 u285 u286 u287 u288 u289 u290 u291 u292 u293 u294 u295 u296 u297 u298 u299 u300 u301 u302 u303 u304 u305 u306 u307 u308 u309 u310 u311 u312 u313 u314 u315 u316 u317 u318 u319 u320 u321 u322 u323 u324 u325 u326 u327 u328 u329 u330 u331 u332 u333 u334 u335 u336 u337 u338 u339 u340 u341 u342 u343 u344 u345 u346 u347 u348 u349 u350 u351 u352 u353 u354 u355 u356 u357 u358 u359 u360 u361 u362 u363 u364 u365 u366 u367 u368 u369 u370 u371 u372 u373 u374 u375 u376 u377 u378 u379 u380 u381 u382 u383 u384 u385 u386 u387 u388 u389 u390 u391 u392 u393 u394 u395 u396 u397 u398 u399 u400 u401 u402 u403 u404 u405 u406 u407 u408 u409 u410 u411 u412 u413 u414 u415 u416 u417 u418 u419 u420 u421 u422 u423 u424 u425 u426 u427 u428 u429 u430 u431 u432 u433 u434 u435 u436 u437 u438 u439 u440 u441 u442 u443 u444 u445 u446 u447 u448 u449 u450 u451 u452 u453 u454 u455 u456 u457 u458 u459 u460 u461 u462 u463 u464 u465 u466 u467 u468 u469 u470 u471 u472 u473 u474 u475 u476 u477 u478 u479 u480 u481 u482 u483 u484 u485 : Value} (Q : Exit → Act → World → Prop) (w0 w : World) (g6 g8 g10 : Nat) (N ma : Int) (t : Nat) (Qs : List Qd) (MA : Int) (EA : List Ed) (MB : Int) (EB : List Ed) (ua : Option Addr) (un uc : Nat) (us : List Pu) (aa : Option Addr) (an ac : Nat) (aks : List Tk) (ba : Option Addr) (bn bc : Nat) (bs : List Tk) (ca : Option Addr) (cn cc : Nat) (cs : List Nat) (da : Option Addr) (dn dc : Nat) (ds : List Bool) (hM : FM w w0.heap.size g6 g8 g10 N ma t Qs MA EA MB EB ua un uc us aa an ac aks ba bn bc bs ca cn cc cs da dn dc ds) (G : w0.grownBy w none) (ya : Option Addr) (yn yc ly : Nat) (Y : List Nat) (hY : Ans w ly ya yn yc Y) (g24 : Nat) (c24 : Array Value) (b24 : BxS w g24 28 c24) (i kf ch mi : Nat) (ma' lo : Int) (EB' : List Ed) (PB : List Pd) (hHR : HR 77 N MB EB Y 77 N ma' EB' (ch : Int) PB lo i 0) (hE7 : EB'.length = 7) (hlo : bs ≠ [] → lo = (mi : Int)) (hPB : PB.length ≤ 100000) (hbn : bn ≤ 100000) (h10 : w0.heap.size ≤ g10)
    (hQ : ∀ {z27 z28 z29 z30 z34 z226 z227 z228 z229 z230 z231 z232 z233 z234 z235 z236 z237 z238 z239 z240 z241 z242 z243 z244 z245 z246 z247 z248 z249 z250 z251 z252 z253 z254 z255 z256 z257 z258 z259 z260 z261 z262 z263 z264 z265 z266 : Value} w' ba' bn' bc' (ps : List Pk), ps.map Pk.d = PB → FM w' w0.heap.size g6 g8 g10 N ma t Qs MA EA ma' EB' ua un uc us aa an ac aks ba' bn' bc' (bs ++ ps.map (mkT kf ch)) ca cn cc cs da dn dc ds → w0.grownBy w' none → Q .normal (Act.mk (List.toArray (u0 :: u1 :: u2 :: u3 :: u4 :: u5 :: u6 :: u7 :: u8 :: u9 :: (.pointer (some ⟨g10, 0, none⟩)) :: u11 :: u12 :: u13 :: (.slice ba' bn' bc') :: u15 :: u16 :: (.int .i64 0) :: (.int .i64 (i : Int)) :: u19 :: u20 :: u21 :: u22 :: (.slice ya yn yc) :: u24 :: u25 :: u26 :: z27 :: z28 :: z29 :: z30 :: (.int .i64 (kf : Int)) :: u32 :: u33 :: z34 :: u35 :: u36 :: u37 :: u38 :: u39 :: u40 :: u41 :: u42 :: u43 :: u44 :: u45 :: u46 :: u47 :: u48 :: u49 :: u50 :: u51 :: u52 :: u53 :: u54 :: u55 :: u56 :: u57 :: u58 :: u59 :: u60 :: u61 :: u62 :: u63 :: u64 :: u65 :: u66 :: u67 :: u68 :: u69 :: u70 :: u71 :: u72 :: u73 :: u74 :: u75 :: u76 :: u77 :: u78 :: u79 :: u80 :: u81 :: u82 :: u83 :: u84 :: u85 :: u86 :: u87 :: u88 :: u89 :: u90 :: u91 :: u92 :: u93 :: u94 :: u95 :: u96 :: u97 :: u98 :: u99 :: u100 :: u101 :: u102 :: u103 :: u104 :: u105 :: u106 :: u107 :: u108 :: u109 :: u110 :: u111 :: u112 :: u113 :: u114 :: u115 :: u116 :: u117 :: u118 :: u119 :: u120 :: u121 :: u122 :: u123 :: u124 :: u125 :: u126 :: u127 :: u128 :: u129 :: u130 :: u131 :: u132 :: u133 :: u134 :: u135 :: u136 :: u137 :: u138 :: u139 :: u140 :: u141 :: u142 :: u143 :: u144 :: u145 :: u146 :: u147 :: u148 :: u149 :: u150 :: u151 :: u152 :: u153 :: u154 :: u155 :: u156 :: u157 :: u158 :: u159 :: u160 :: u161 :: u162 :: u163 :: u164 :: u165 :: u166 :: u167 :: u168 :: u169 :: u170 :: u171 :: u172 :: u173 :: u174 :: u175 :: u176 :: u177 :: u178 :: u179 :: u180 :: u181 :: u182 :: u183 :: u184 :: u185 :: u186 :: u187 :: u188 :: u189 :: u190 :: u191 :: u192 :: u193 :: u194 :: u195 :: u196 :: u197 :: u198 :: u199 :: u200 :: u201 :: u202 :: u203 :: u204 :: u205 :: u206 :: u207 :: u208 :: u209 :: u210 :: u211 :: u212 :: u213 :: u214 :: u215 :: u216 :: u217 :: u218 :: u219 :: u220 :: u221 :: u222 :: u223 :: u224 :: u225 :: z226 :: z227 :: z228 :: z229 :: z230 :: z231 :: z232 :: z233 :: z234 :: z235 :: z236 :: z237 :: z238 :: z239 :: z240 :: z241 :: z242 :: z243 :: z244 :: z245 :: z246 :: z247 :: z248 :: z249 :: z250 :: z251 :: z252 :: z253 :: z254 :: z255 :: z256 :: z257 :: z258 :: z259 :: z260 :: z261 :: z262 :: z263 :: z264 :: z265 :: z266 :: u267 :: u268 :: u269 :: u270 :: u271 :: u272 :: u273 :: u274 :: u275 :: u276 :: u277 :: u278 :: u279 :: u280 :: u281 :: u282 :: u283 :: u284 :: u285 :: u286 :: u287 :: u288 :: u289 :: u290 :: u291 :: u292 :: u293 :: u294 :: u295 :: u296 :: u297 :: u298 :: u299 :: u300 :: u301 :: u302 :: u303 :: u304 :: u305 :: u306 :: u307 :: u308 :: u309 :: u310 :: u311 :: u312 :: u313 :: u314 :: u315 :: u316 :: u317 :: u318 :: u319 :: u320 :: u321 :: u322 :: u323 :: u324 :: u325 :: u326 :: u327 :: u328 :: u329 :: u330 :: u331 :: u332 :: u333 :: u334 :: u335 :: u336 :: u337 :: u338 :: u339 :: u340 :: u341 :: u342 :: u343 :: u344 :: u345 :: u346 :: u347 :: u348 :: u349 :: u350 :: u351 :: u352 :: u353 :: u354 :: u355 :: u356 :: u357 :: u358 :: u359 :: u360 :: u361 :: u362 :: u363 :: u364 :: u365 :: u366 :: u367 :: u368 :: u369 :: u370 :: u371 :: u372 :: u373 :: u374 :: u375 :: u376 :: u377 :: u378 :: u379 :: u380 :: u381 :: u382 :: u383 :: u384 :: u385 :: u386 :: u387 :: u388 :: u389 :: u390 :: u391 :: u392 :: u393 :: u394 :: u395 :: u396 :: u397 :: u398 :: u399 :: u400 :: u401 :: u402 :: u403 :: u404 :: u405 :: u406 :: u407 :: u408 :: u409 :: u410 :: u411 :: u412 :: u413 :: u414 :: u415 :: u416 :: u417 :: u418 :: u419 :: u420 :: u421 :: u422 :: u423 :: u424 :: u425 :: u426 :: u427 :: u428 :: u429 :: u430 :: u431 :: u432 :: u433 :: u434 :: u435 :: u436 :: u437 :: u438 :: u439 :: u440 :: u441 :: u442 :: u443 :: u444 :: u445 :: u446 :: u447 :: u448 :: u449 :: u450 :: u451 :: u452 :: u453 :: u454 :: u455 :: u456 :: u457 :: u458 :: u459 :: u460 :: u461 :: u462 :: u463 :: u464 :: u465 :: u466 :: u467 :: u468 :: u469 :: u470 :: u471 :: u472 :: u473 :: u474 :: u475 :: u476 :: u477 :: u478 :: u479 :: u480 :: u481 :: u482 :: u483 :: u484 :: u485 :: [])) []) w') :
    Code.wp Try.prog (tailR 49 (Try.f10.body.getD .skip)) Q (Act.mk (List.toArray (u0 :: u1 :: u2 :: u3 :: u4 :: u5 :: u6 :: u7 :: u8 :: u9 :: (.pointer (some ⟨g10, 0, none⟩)) :: u11 :: u12 :: u13 :: (.slice ba bn bc) :: u15 :: u16 :: (.int .i64 (mi : Int)) :: (.int .i64 (i : Int)) :: u19 :: u20 :: u21 :: u22 :: (.slice ya yn yc) :: u24 :: u25 :: u26 :: u27 :: u28 :: u29 :: u30 :: (.int .i64 (kf : Int)) :: u32 :: u33 :: u34 :: u35 :: u36 :: u37 :: u38 :: u39 :: u40 :: u41 :: u42 :: u43 :: u44 :: u45 :: u46 :: u47 :: u48 :: u49 :: u50 :: u51 :: u52 :: u53 :: u54 :: u55 :: u56 :: u57 :: u58 :: u59 :: u60 :: u61 :: u62 :: u63 :: u64 :: u65 :: u66 :: u67 :: u68 :: u69 :: u70 :: u71 :: u72 :: u73 :: u74 :: u75 :: u76 :: u77 :: u78 :: u79 :: u80 :: u81 :: u82 :: u83 :: u84 :: u85 :: u86 :: u87 :: u88 :: u89 :: u90 :: u91 :: u92 :: u93 :: u94 :: u95 :: u96 :: u97 :: u98 :: u99 :: u100 :: u101 :: u102 :: u103 :: u104 :: u105 :: u106 :: u107 :: u108 :: u109 :: u110 :: u111 :: u112 :: u113 :: u114 :: u115 :: u116 :: u117 :: u118 :: u119 :: u120 :: u121 :: u122 :: u123 :: u124 :: u125 :: u126 :: u127 :: u128 :: u129 :: u130 :: u131 :: u132 :: u133 :: u134 :: u135 :: u136 :: u137 :: u138 :: u139 :: u140 :: u141 :: u142 :: u143 :: u144 :: u145 :: u146 :: u147 :: u148 :: u149 :: u150 :: u151 :: u152 :: u153 :: u154 :: u155 :: u156 :: u157 :: u158 :: u159 :: u160 :: u161 :: u162 :: u163 :: u164 :: u165 :: u166 :: u167 :: u168 :: u169 :: u170 :: u171 :: u172 :: u173 :: u174 :: u175 :: u176 :: u177 :: u178 :: u179 :: u180 :: u181 :: u182 :: u183 :: u184 :: u185 :: u186 :: u187 :: u188 :: u189 :: u190 :: u191 :: u192 :: u193 :: u194 :: u195 :: u196 :: u197 :: u198 :: u199 :: u200 :: u201 :: u202 :: u203 :: u204 :: u205 :: u206 :: u207 :: u208 :: u209 :: u210 :: u211 :: u212 :: u213 :: u214 :: u215 :: u216 :: u217 :: u218 :: u219 :: u220 :: u221 :: u222 :: u223 :: u224 :: u225 :: u226 :: u227 :: u228 :: u229 :: u230 :: u231 :: u232 :: u233 :: u234 :: u235 :: u236 :: u237 :: u238 :: u239 :: u240 :: u241 :: u242 :: u243 :: u244 :: u245 :: u246 :: u247 :: u248 :: u249 :: u250 :: u251 :: u252 :: u253 :: u254 :: u255 :: u256 :: u257 :: u258 :: u259 :: u260 :: u261 :: u262 :: u263 :: u264 :: u265 :: u266 :: u267 :: u268 :: u269 :: u270 :: u271 :: u272 :: u273 :: u274 :: u275 :: u276 :: u277 :: u278 :: u279 :: u280 :: u281 :: u282 :: u283 :: u284 :: u285 :: u286 :: u287 :: u288 :: u289 :: u290 :: u291 :: u292 :: u293 :: u294 :: u295 :: u296 :: u297 :: u298 :: u299 :: u300 :: u301 :: u302 :: u303 :: u304 :: u305 :: u306 :: u307 :: u308 :: u309 :: u310 :: u311 :: u312 :: u313 :: u314 :: u315 :: u316 :: u317 :: u318 :: u319 :: u320 :: u321 :: u322 :: u323 :: u324 :: u325 :: u326 :: u327 :: u328 :: u329 :: u330 :: u331 :: u332 :: u333 :: u334 :: u335 :: u336 :: u337 :: u338 :: u339 :: u340 :: u341 :: u342 :: u343 :: u344 :: u345 :: u346 :: u347 :: u348 :: u349 :: u350 :: u351 :: u352 :: u353 :: u354 :: u355 :: u356 :: u357 :: u358 :: u359 :: u360 :: u361 :: u362 :: u363 :: u364 :: u365 :: u366 :: u367 :: u368 :: u369 :: u370 :: u371 :: u372 :: u373 :: u374 :: u375 :: u376 :: u377 :: u378 :: u379 :: u380 :: u381 :: u382 :: u383 :: u384 :: u385 :: u386 :: u387 :: u388 :: u389 :: u390 :: u391 :: u392 :: u393 :: u394 :: u395 :: u396 :: u397 :: u398 :: u399 :: u400 :: u401 :: u402 :: u403 :: u404 :: u405 :: u406 :: u407 :: u408 :: u409 :: u410 :: u411 :: u412 :: u413 :: u414 :: u415 :: u416 :: u417 :: u418 :: u419 :: u420 :: u421 :: u422 :: u423 :: u424 :: u425 :: u426 :: u427 :: u428 :: u429 :: u430 :: u431 :: u432 :: u433 :: u434 :: u435 :: u436 :: u437 :: u438 :: u439 :: u440 :: u441 :: u442 :: u443 :: u444 :: u445 :: u446 :: u447 :: u448 :: u449 :: u450 :: u451 :: u452 :: u453 :: u454 :: u455 :: u456 :: u457 :: u458 :: u459 :: u460 :: u461 :: u462 :: u463 :: u464 :: u465 :: u466 :: u467 :: u468 :: u469 :: u470 :: u471 :: u472 :: u473 :: u474 :: u475 :: u476 :: u477 :: u478 :: u479 :: u480 :: u481 :: u482 :: u483 :: u484 :: u485 :: [])) []) w := by
  let pq : Exit → Act → World → Prop := bodyPost Try.prog Try.f10 (fun _ _ => True)
  conv => enter [2]; whnf
  have HQ : Hid _ := @hQ
  have HL : Hid _ := hlo
  have HM0 : Hid _ := hM
  clear hQ hlo
  have i4 := Try.info_li
  obtain ⟨la, lc, ll, es, b10, hL⟩ := hM.lb
  have HR9 : Hid _ := hHR
  clear hHR hM
  refine wp_seq_k fun K1 hK1 => ?_
  have HK1 : Hid _ := hK1
  clear hK1
  have s0 : True := trivial
  go_wp2_with (first
    | (have _t := s0; clear s0; refine wpList_ldX _ rfl _ (.tmp 10) rfl g10 _ rfl b10 Try.underlying43 i4 ?_; have s1 : True := trivial)
    | (go_at_call 37; have _t := s1; clear s1; refine (hear_any 77 N MB la 7 lc EB ya yn yc Y w hL.rd hY.rd 77 N ma' (ch : Int) EB' PB lo i 0 HR9.out).mono ?_; rintro e w5 ⟨xa, xn, xc, ex, pa, pn, pc, ps, rfl, hX, hP, hpd, hdp, g5⟩; have b105 := b10.keep g5 (by simp); have s2 : True := trivial)
    | (have _t := s2; clear s2; refine wpList_stX _ rfl _ (.tmp 10) (.tmp 230) rfl g10 _ _ rfl rfl b105 i4 rfl (by simp [Value.oneCell']) ?_; intro w6 b106 u6))
  have hxn := hX.len
  have e7 : xn = 7 := by omega
  subst e7
  have hty := b105.tyo1
  have hM6 := (HM0.out.keep g5).wB u6 ⟨xa, xc, _, ex, b106, hX.tyO u6 hty (by decide) (by decide)⟩
  have hP6 := hP.tyO u6 hty (by decide) (by decide)
  have hY6 := (hY.keep g5).tyO u6 hty (by decide)
  have b246 := (b24.keep g5 (by simp)).tyO u6 hty (by decide)
  have G6 := grown_far (grown_trans G g5) u6 (fun q e => by have e := Option.some.inj e; omega)
  have hlps : ps.length = pn := by have := hP.len; rw [List.length_map] at this; exact this
  have hpn : pn ≤ 100000 := by rw [← hpd, List.length_map] at hPB; omega
  have hbs : bs.length = bn := by have := HM0.out.b.len; rw [List.length_map] at this; exact this
  have hap : ∀ y, y ∈ bs → ∀ p, p ∈ ps → ∀ g, y.p.rw.v.ownBlock = some g → p.rw.v.ownBlock ≠ some g := fun y hy p hp g e => (HM0.out.b.each _ (List.mem_map_of_mem hy)).later2 (hP.each _ (List.mem_map_of_mem hp)) (Nat.le_refl _) g e
  have HAP : Hid _ := hap
  have HPD : Hid _ := hpd
  have zG := G.size
  clear hxn hE7 hX hP b10 b105 hL u6 hty hap hpd hlps
  refine HK1.out _ _ ?_
  clear HK1
  refine wp_seq_k fun K2 hK2 => ?_
  have HK2 : Hid _ := hK2
  clear hK2
  by_cases hb0 : bn = 0
  · have d1 : decide ((bn : Int) > 0) = false := decide_eq_false (by omega)
    have d2 : ¬ 0 < bn := by omega
    clear hb0 hbs
    go_wp2
    clear d1 d2
    refine HK2.out _ _ ?_
    clear HK2
    refine wp_seq_k fun K3 hK3 => ?_
    have HK3 : Hid _ := hK3
    clear hK3
    go_wp2
    refine HK3.out _ _ ?_
    clear HK3
    refine ca_t53 _ w0 w6 g6 g8 g10 N ma t Qs MA EA ma' EB' ua un uc us aa an ac aks ba bn bc bs ca cn cc cs da dn dc ds hM6 G6 kf ch ps pa pn pc w.heap.size hP6 zG ya yn yc ly Y hY6 g24 c24 b246 hpn HAP.out hbn ?_
    intros
    rename_i w7 ba' bn' bc' hM7 G7
    exact HQ.out w7 ba' bn' bc' ps HPD.out hM7 G7
  · have hl := HL.out (by intro e; rw [e] at hbs; exact hb0 hbs.symm)
    subst hl
    have d1 : decide ((bn : Int) > 0) = true := decide_eq_true (by omega)
    have d2 : 0 < bn := by omega
    clear hb0 hbs
    go_wp2
    clear d1 d2
    refine HK2.out _ _ ?_
    clear HK2
    refine wp_seq_k fun K3 hK3 => ?_
    have HK3 : Hid _ := hK3
    clear hK3
    go_wp2
    refine HK3.out _ _ ?_
    clear HK3
    refine ca_t53 _ w0 w6 g6 g8 g10 N ma t Qs MA EA ma' EB' ua un uc us aa an ac aks ba bn bc bs ca cn cc cs da dn dc ds hM6 G6 kf ch ps pa pn pc w.heap.size hP6 zG ya yn yc ly Y hY6 g24 c24 b246 hpn HAP.out hbn ?_
    intros
    rename_i w7 ba' bn' bc' hM7 G7
    exact HQ.out w7 ba' bn' bc' ps HPD.out hM7 G7

set_option maxHeartbeats 32000000 in
/-- which channel, and whether it is gone -/
theorem ca_t45 {u0 u2 u3 u4 u5 u6 u7 u8 u9 u11 u12 u13 u19 u20 u21 u22 u25 u26 u27 u28 u29 u30 u32 u33 u34 u35 u36 u37 u38 u39 u40 u41 u42 u43 u44 u45 u46 u47 u48 u49 u50 u51 u52 u53 u54 u55 u56 u57 u58 u59 u60 u61 u62 u63 u64 u65 u66 u67 u68 u69 u70 u71 u72 u73 u74 u75 u76 u77 u78 u79 u80 u81 u82 u83 u84 u85 u86 u87 u88 u89 u90 u91 u92 u93 u94 u95 u96 u97 u98 u99 u100 u101 u102 u103 u104 u105 u106 u107 u108 u109 u110 u111 u112 u113 u114 u115 u116 u117 u118 u119 u120 u121 u122 u123 u124 u125 u126 u127 u128 u129 u130 u131 u132 u133 u134 u135 u136 u137 u138 u139 u140 u141 u142 u143 u144 u145 u146 u147 u148 u149 u150 u151 u152 u153 u154 u155 u156 u157 u158 u159 u160 u161 u162 u163 u164 u165 u166 u167 u168 u169 u170 u171 u172 u173 u174 u175 u176 u177 u178 u179 u180 u181 u182 u183 u184 u185 u186 u187 u188 u189 u190 u191 u192 u193 u194 u195 u196 u197 u198 u199 u200 u201 u202 u203 u204 u205 u206 u207 u208 u209 u210 u211 u212 u213 u214 u215 u216 u217 u218 u219 u220 u221 u222 u223 u224 u225 u226 u227 u228 u229 u230 u231 u232 u233 u234 u235 u236 u237 u238 u239 u240 u241 u242 u243 u244 u245 u246 u247 u248 u249 u250 u251 u252 u253 u254 u255 u256 u257 u258 u259 u260 u261 u262 u263 u264 u265 u266 u267 u268 u269 u270 u271 u272 u273 u274 u275 u276 u277 u278 u279 u280 u281 u282 u283 u284 u285 u286 u287 u288 u289 u290 u291 u292 u293 u294 u295 u296 u297 u298 u299 u300 u301 u302 u303 u304 u305 u306 u307 u308 u309 u310 u311 u312 u313 u314 u315 u316 u317 u318 u319 u320 u321 u322 u323 u324 u325 u326 u327 u328 u329 u330 u331 u332 u333 u334 u335 u336 u337 u338 u339 u340 u341 u342 u343 u344 u345 u346 u347 u348 u349 u350 u351 u352 u353 u354 u355 u356 u357 u358 u359 u360 u361 u362 u363 u364 u365 u366 u367 u368 u369 u370 u371 u372 u373 u374 u375 u376 u377 u378 u379 u380 u381 u382 u383 u384 u385 u386 u387 u388 u389 u390 u391 u392 u393 u394 u395 u396 u397 u398 u399 u400 u401 u402 u403 u404 u405 u406 u407 u408 u409 u410 u411 u412 u413 u414 u415 u416 u417 u418 u419 u420 u421 u422 u423 u424 u425 u426 u427 u428 u429 u430 u431 u432 u433 u434 u435 u436 u437 u438 u439 u440 u441 u442 u443 u444 u445 u446 u447 u448 u449 u450 u451 u452 u453 u454 u455 u456 u457 u458 u459 u460 u461 u462 u463 u464 u465 u466 u467 u468 u469 u470 u471 u472 u473 u474 u475 u476 u477 u478 u479 u480 u481 u482 u483 u484 u485 : Value} (Q : Exit → Act → World → Prop) (w0 w : World) (g6 g8 g10 : Nat) (N ma : Int) (t : Nat) (Qs : List Qd) (MA : Int) (EA : List Ed) (MB : Int) (EB : List Ed) (ua : Option Addr) (un uc : Nat) (us : List Pu) (aa : Option Addr) (an ac : Nat) (aks : List Tk) (ba : Option Addr) (bn bc : Nat) (bs : List Tk) (ca : Option Addr) (cn cc : Nat) (cs : List Nat) (da : Option Addr) (dn dc : Nat) (ds : List Bool) (hM : FM w w0.heap.size g6 g8 g10 N ma t Qs MA EA MB EB ua un uc us aa an ac aks ba bn bc bs ca cn cc cs da dn dc ds) (G : w0.grownBy w none) (ya : Option Addr) (yn yc ly : Nat) (Y : List Nat) (hY : Ans w ly ya yn yc Y) (g24 : Nat) (c24 : Array Value) (b24 : BxS w g24 28 c24) (i kf ch mi : Nat) (ma' lo : Int) (EB' : List Ed) (PB : List Pd) (hHR : HR 77 N MB EB Y 77 N ma' EB' (ch : Int) PB lo i 0) (hE7 : EB'.length = 7) (hlo : bs ≠ [] → lo = (mi : Int)) (hbn : bn ≤ 100000) (h10 : w0.heap.size ≤ g10) (ja : Option Addr) (jn jc : Nat) (F : Nat → Jb) (hJ : RdJb w0 ja jn jc F) (d : Bool) (hd : d = if i < jn then (F i).ls else false) (hi : i < 250) (hmi : mi ≤ 300) (hcn : cn ≤ 1000) (hdn : dn ≤ 1000) (hPB : d = false → PB.length ≤ 100000) (hx24 : w.cell? ⟨g24, 1, none⟩ = some (.int .i64 (ch : Int)))
    (hQ1 : d = true → ∀ {z33 z203 z204 z205 z206 z207 z208 z209 z210 z211 z212 z213 z214 z215 z216 z217 z218 z219 z220 z221 z222 z223 z224 z225 : Value} w' ca' cn' cc' da' dn' dc', FM w' w0.heap.size g6 g8 g10 N ma t Qs MA EA MB EB ua un uc us aa an ac aks ba bn bc bs ca' cn' cc' (cs ++ [ch]) da' dn' dc' (ds ++ [d]) → w0.grownBy w' none → Q (.exit 1) (Act.mk (List.toArray (u0 :: (.slice ja jn jc) :: u2 :: u3 :: u4 :: u5 :: u6 :: u7 :: u8 :: u9 :: (.pointer (some ⟨g10, 0, none⟩)) :: u11 :: u12 :: u13 :: (.slice ba bn bc) :: (.slice ca' cn' cc') :: (.slice da' dn' dc') :: (.int .i64 ((mi + 1 : Nat) : Int)) :: (.int .i64 (i : Int)) :: u19 :: u20 :: u21 :: u22 :: (.slice ya yn yc) :: (.pointer (some ⟨g24, 0, none⟩)) :: u25 :: u26 :: u27 :: u28 :: u29 :: u30 :: (.int .i64 (kf : Int)) :: u32 :: z33 :: u34 :: u35 :: u36 :: u37 :: u38 :: u39 :: u40 :: u41 :: u42 :: u43 :: u44 :: u45 :: u46 :: u47 :: u48 :: u49 :: u50 :: u51 :: u52 :: u53 :: u54 :: u55 :: u56 :: u57 :: u58 :: u59 :: u60 :: u61 :: u62 :: u63 :: u64 :: u65 :: u66 :: u67 :: u68 :: u69 :: u70 :: u71 :: u72 :: u73 :: u74 :: u75 :: u76 :: u77 :: u78 :: u79 :: u80 :: u81 :: u82 :: u83 :: u84 :: u85 :: u86 :: u87 :: u88 :: u89 :: u90 :: u91 :: u92 :: u93 :: u94 :: u95 :: u96 :: u97 :: u98 :: u99 :: u100 :: u101 :: u102 :: u103 :: u104 :: u105 :: u106 :: u107 :: u108 :: u109 :: u110 :: u111 :: u112 :: u113 :: u114 :: u115 :: u116 :: u117 :: u118 :: u119 :: u120 :: u121 :: u122 :: u123 :: u124 :: u125 :: u126 :: u127 :: u128 :: u129 :: u130 :: u131 :: u132 :: u133 :: u134 :: u135 :: u136 :: u137 :: u138 :: u139 :: u140 :: u141 :: u142 :: u143 :: u144 :: u145 :: u146 :: u147 :: u148 :: u149 :: u150 :: u151 :: u152 :: u153 :: u154 :: u155 :: u156 :: u157 :: u158 :: u159 :: u160 :: u161 :: u162 :: u163 :: u164 :: u165 :: u166 :: u167 :: u168 :: u169 :: u170 :: u171 :: u172 :: u173 :: u174 :: u175 :: u176 :: u177 :: u178 :: u179 :: u180 :: u181 :: u182 :: u183 :: u184 :: u185 :: u186 :: u187 :: u188 :: u189 :: u190 :: u191 :: u192 :: u193 :: u194 :: u195 :: u196 :: u197 :: u198 :: u199 :: u200 :: u201 :: u202 :: z203 :: z204 :: z205 :: z206 :: z207 :: z208 :: z209 :: z210 :: z211 :: z212 :: z213 :: z214 :: z215 :: z216 :: z217 :: z218 :: z219 :: z220 :: z221 :: z222 :: z223 :: z224 :: z225 :: u226 :: u227 :: u228 :: u229 :: u230 :: u231 :: u232 :: u233 :: u234 :: u235 :: u236 :: u237 :: u238 :: u239 :: u240 :: u241 :: u242 :: u243 :: u244 :: u245 :: u246 :: u247 :: u248 :: u249 :: u250 :: u251 :: u252 :: u253 :: u254 :: u255 :: u256 :: u257 :: u258 :: u259 :: u260 :: u261 :: u262 :: u263 :: u264 :: u265 :: u266 :: u267 :: u268 :: u269 :: u270 :: u271 :: u272 :: u273 :: u274 :: u275 :: u276 :: u277 :: u278 :: u279 :: u280 :: u281 :: u282 :: u283 :: u284 :: u285 :: u286 :: u287 :: u288 :: u289 :: u290 :: u291 :: u292 :: u293 :: u294 :: u295 :: u296 :: u297 :: u298 :: u299 :: u300 :: u301 :: u302 :: u303 :: u304 :: u305 :: u306 :: u307 :: u308 :: u309 :: u310 :: u311 :: u312 :: u313 :: u314 :: u315 :: u316 :: u317 :: u318 :: u319 :: u320 :: u321 :: u322 :: u323 :: u324 :: u325 :: u326 :: u327 :: u328 :: u329 :: u330 :: u331 :: u332 :: u333 :: u334 :: u335 :: u336 :: u337 :: u338 :: u339 :: u340 :: u341 :: u342 :: u343 :: u344 :: u345 :: u346 :: u347 :: u348 :: u349 :: u350 :: u351 :: u352 :: u353 :: u354 :: u355 :: u356 :: u357 :: u358 :: u359 :: u360 :: u361 :: u362 :: u363 :: u364 :: u365 :: u366 :: u367 :: u368 :: u369 :: u370 :: u371 :: u372 :: u373 :: u374 :: u375 :: u376 :: u377 :: u378 :: u379 :: u380 :: u381 :: u382 :: u383 :: u384 :: u385 :: u386 :: u387 :: u388 :: u389 :: u390 :: u391 :: u392 :: u393 :: u394 :: u395 :: u396 :: u397 :: u398 :: u399 :: u400 :: u401 :: u402 :: u403 :: u404 :: u405 :: u406 :: u407 :: u408 :: u409 :: u410 :: u411 :: u412 :: u413 :: u414 :: u415 :: u416 :: u417 :: u418 :: u419 :: u420 :: u421 :: u422 :: u423 :: u424 :: u425 :: u426 :: u427 :: u428 :: u429 :: u430 :: u431 :: u432 :: u433 :: u434 :: u435 :: u436 :: u437 :: u438 :: u439 :: u440 :: u441 :: u442 :: u443 :: u444 :: u445 :: u446 :: u447 :: u448 :: u449 :: u450 :: u451 :: u452 :: u453 :: u454 :: u455 :: u456 :: u457 :: u458 :: u459 :: u460 :: u461 :: u462 :: u463 :: u464 :: u465 :: u466 :: u467 :: u468 :: u469 :: u470 :: u471 :: u472 :: u473 :: u474 :: u475 :: u476 :: u477 :: u478 :: u479 :: u480 :: u481 :: u482 :: u483 :: u484 :: u485 :: [])) []) w')
    (hQ2 : d = false → ∀ {z27 z28 z29 z30 z33 z34 z203 z204 z205 z206 z207 z208 z209 z210 z211 z212 z213 z214 z215 z216 z217 z218 z219 z220 z221 z222 z223 z224 z225 z226 z227 z228 z229 z230 z231 z232 z233 z234 z235 z236 z237 z238 z239 z240 z241 z242 z243 z244 z245 z246 z247 z248 z249 z250 z251 z252 z253 z254 z255 z256 z257 z258 z259 z260 z261 z262 z263 z264 z265 z266 : Value} w' ba' bn' bc' ca' cn' cc' da' dn' dc' (ps : List Pk), ps.map Pk.d = PB → FM w' w0.heap.size g6 g8 g10 N ma t Qs MA EA ma' EB' ua un uc us aa an ac aks ba' bn' bc' (bs ++ ps.map (mkT kf ch)) ca' cn' cc' (cs ++ [ch]) da' dn' dc' (ds ++ [d]) → w0.grownBy w' none → Q .normal (Act.mk (List.toArray (u0 :: (.slice ja jn jc) :: u2 :: u3 :: u4 :: u5 :: u6 :: u7 :: u8 :: u9 :: (.pointer (some ⟨g10, 0, none⟩)) :: u11 :: u12 :: u13 :: (.slice ba' bn' bc') :: (.slice ca' cn' cc') :: (.slice da' dn' dc') :: (.int .i64 0) :: (.int .i64 (i : Int)) :: u19 :: u20 :: u21 :: u22 :: (.slice ya yn yc) :: (.pointer (some ⟨g24, 0, none⟩)) :: u25 :: u26 :: z27 :: z28 :: z29 :: z30 :: (.int .i64 (kf : Int)) :: u32 :: z33 :: z34 :: u35 :: u36 :: u37 :: u38 :: u39 :: u40 :: u41 :: u42 :: u43 :: u44 :: u45 :: u46 :: u47 :: u48 :: u49 :: u50 :: u51 :: u52 :: u53 :: u54 :: u55 :: u56 :: u57 :: u58 :: u59 :: u60 :: u61 :: u62 :: u63 :: u64 :: u65 :: u66 :: u67 :: u68 :: u69 :: u70 :: u71 :: u72 :: u73 :: u74 :: u75 :: u76 :: u77 :: u78 :: u79 :: u80 :: u81 :: u82 :: u83 :: u84 :: u85 :: u86 :: u87 :: u88 :: u89 :: u90 :: u91 :: u92 :: u93 :: u94 :: u95 :: u96 :: u97 :: u98 :: u99 :: u100 :: u101 :: u102 :: u103 :: u104 :: u105 :: u106 :: u107 :: u108 :: u109 :: u110 :: u111 :: u112 :: u113 :: u114 :: u115 :: u116 :: u117 :: u118 :: u119 :: u120 :: u121 :: u122 :: u123 :: u124 :: u125 :: u126 :: u127 :: u128 :: u129 :: u130 :: u131 :: u132 :: u133 :: u134 :: u135 :: u136 :: u137 :: u138 :: u139 :: u140 :: u141 :: u142 :: u143 :: u144 :: u145 :: u146 :: u147 :: u148 :: u149 :: u150 :: u151 :: u152 :: u153 :: u154 :: u155 :: u156 :: u157 :: u158 :: u159 :: u160 :: u161 :: u162 :: u163 :: u164 :: u165 :: u166 :: u167 :: u168 :: u169 :: u170 :: u171 :: u172 :: u173 :: u174 :: u175 :: u176 :: u177 :: u178 :: u179 :: u180 :: u181 :: u182 :: u183 :: u184 :: u185 :: u186 :: u187 :: u188 :: u189 :: u190 :: u191 :: u192 :: u193 :: u194 :: u195 :: u196 :: u197 :: u198 :: u199 :: u200 :: u201 :: u202 :: z203 :: z204 :: z205 :: z206 :: z207 :: z208 :: z209 :: z210 :: z211 :: z212 :: z213 :: z214 :: z215 :: z216 :: z217 :: z218 :: z219 :: z220 :: z221 :: z222 :: z223 :: z224 :: z225 :: z226 :: z227 :: z228 :: z229 :: z230 :: z231 :: z232 :: z233 :: z234 :: z235 :: z236 :: z237 :: z238 :: z239 :: z240 :: z241 :: z242 :: z243 :: z244 :: z245 :: z246 :: z247 :: z248 :: z249 :: z250 :: z251 :: z252 :: z253 :: z254 :: z255 :: z256 :: z257 :: z258 :: z259 :: z260 :: z261 :: z262 :: z263 :: z264 :: z265 :: z266 :: u267 :: u268 :: u269 :: u270 :: u271 :: u272 :: u273 :: u274 :: u275 :: u276 :: u277 :: u278 :: u279 :: u280 :: u281 :: u282 :: u283 :: u284 :: u285 :: u286 :: u287 :: u288 :: u289 :: u290 :: u291 :: u292 :: u293 :: u294 :: u295 :: u296 :: u297 :: u298 :: u299 :: u300 :: u301 :: u302 :: u303 :: u304 :: u305 :: u306 :: u307 :: u308 :: u309 :: u310 :: u311 :: u312 :: u313 :: u314 :: u315 :: u316 :: u317 :: u318 :: u319 :: u320 :: u321 :: u322 :: u323 :: u324 :: u325 :: u326 :: u327 :: u328 :: u329 :: u330 :: u331 :: u332 :: u333 :: u334 :: u335 :: u336 :: u337 :: u338 :: u339 :: u340 :: u341 :: u342 :: u343 :: u344 :: u345 :: u346 :: u347 :: u348 :: u349 :: u350 :: u351 :: u352 :: u353 :: u354 :: u355 :: u356 :: u357 :: u358 :: u359 :: u360 :: u361 :: u362 :: u363 :: u364 :: u365 :: u366 :: u367 :: u368 :: u369 :: u370 :: u371 :: u372 :: u373 :: u374 :: u375 :: u376 :: u377 :: u378 :: u379 :: u380 :: u381 :: u382 :: u383 :: u384 :: u385 :: u386 :: u387 :: u388 :: u389 :: u390 :: u391 :: u392 :: u393 :: u394 :: u395 :: u396 :: u397 :: u398 :: u399 :: u400 :: u401 :: u402 :: u403 :: u404 :: u405 :: u406 :: u407 :: u408 :: u409 :: u410 :: u411 :: u412 :: u413 :: u414 :: u415 :: u416 :: u417 :: u418 :: u419 :: u420 :: u421 :: u422 :: u423 :: u424 :: u425 :: u426 :: u427 :: u428 :: u429 :: u430 :: u431 :: u432 :: u433 :: u434 :: u435 :: u436 :: u437 :: u438 :: u439 :: u440 :: u441 :: u442 :: u443 :: u444 :: u445 :: u446 :: u447 :: u448 :: u449 :: u450 :: u451 :: u452 :: u453 :: u454 :: u455 :: u456 :: u457 :: u458 :: u459 :: u460 :: u461 :: u462 :: u463 :: u464 :: u465 :: u466 :: u467 :: u468 :: u469 :: u470 :: u471 :: u472 :: u473 :: u474 :: u475 :: u476 :: u477 :: u478 :: u479 :: u480 :: u481 :: u482 :: u483 :: u484 :: u485 :: [])) []) w') :
    Code.wp Try.prog (tailR 45 (Try.f10.body.getD .skip)) Q (Act.mk (List.toArray (u0 :: (.slice ja jn jc) :: u2 :: u3 :: u4 :: u5 :: u6 :: u7 :: u8 :: u9 :: (.pointer (some ⟨g10, 0, none⟩)) :: u11 :: u12 :: u13 :: (.slice ba bn bc) :: (.slice ca cn cc) :: (.slice da dn dc) :: (.int .i64 (mi : Int)) :: (.int .i64 (i : Int)) :: u19 :: u20 :: u21 :: u22 :: (.slice ya yn yc) :: (.pointer (some ⟨g24, 0, none⟩)) :: u25 :: u26 :: u27 :: u28 :: u29 :: u30 :: (.int .i64 (kf : Int)) :: u32 :: u33 :: u34 :: u35 :: u36 :: u37 :: u38 :: u39 :: u40 :: u41 :: u42 :: u43 :: u44 :: u45 :: u46 :: u47 :: u48 :: u49 :: u50 :: u51 :: u52 :: u53 :: u54 :: u55 :: u56 :: u57 :: u58 :: u59 :: u60 :: u61 :: u62 :: u63 :: u64 :: u65 :: u66 :: u67 :: u68 :: u69 :: u70 :: u71 :: u72 :: u73 :: u74 :: u75 :: u76 :: u77 :: u78 :: u79 :: u80 :: u81 :: u82 :: u83 :: u84 :: u85 :: u86 :: u87 :: u88 :: u89 :: u90 :: u91 :: u92 :: u93 :: u94 :: u95 :: u96 :: u97 :: u98 :: u99 :: u100 :: u101 :: u102 :: u103 :: u104 :: u105 :: u106 :: u107 :: u108 :: u109 :: u110 :: u111 :: u112 :: u113 :: u114 :: u115 :: u116 :: u117 :: u118 :: u119 :: u120 :: u121 :: u122 :: u123 :: u124 :: u125 :: u126 :: u127 :: u128 :: u129 :: u130 :: u131 :: u132 :: u133 :: u134 :: u135 :: u136 :: u137 :: u138 :: u139 :: u140 :: u141 :: u142 :: u143 :: u144 :: u145 :: u146 :: u147 :: u148 :: u149 :: u150 :: u151 :: u152 :: u153 :: u154 :: u155 :: u156 :: u157 :: u158 :: u159 :: u160 :: u161 :: u162 :: u163 :: u164 :: u165 :: u166 :: u167 :: u168 :: u169 :: u170 :: u171 :: u172 :: u173 :: u174 :: u175 :: u176 :: u177 :: u178 :: u179 :: u180 :: u181 :: u182 :: u183 :: u184 :: u185 :: u186 :: u187 :: u188 :: u189 :: u190 :: u191 :: u192 :: u193 :: u194 :: u195 :: u196 :: u197 :: u198 :: u199 :: u200 :: u201 :: u202 :: u203 :: u204 :: u205 :: u206 :: u207 :: u208 :: u209 :: u210 :: u211 :: u212 :: u213 :: u214 :: u215 :: u216 :: u217 :: u218 :: u219 :: u220 :: u221 :: u222 :: u223 :: u224 :: u225 :: u226 :: u227 :: u228 :: u229 :: u230 :: u231 :: u232 :: u233 :: u234 :: u235 :: u236 :: u237 :: u238 :: u239 :: u240 :: u241 :: u242 :: u243 :: u244 :: u245 :: u246 :: u247 :: u248 :: u249 :: u250 :: u251 :: u252 :: u253 :: u254 :: u255 :: u256 :: u257 :: u258 :: u259 :: u260 :: u261 :: u262 :: u263 :: u264 :: u265 :: u266 :: u267 :: u268 :: u269 :: u270 :: u271 :: u272 :: u273 :: u274 :: u275 :: u276 :: u277 :: u278 :: u279 :: u280 :: u281 :: u282 :: u283 :: u284 :: u285 :: u286 :: u287 :: u288 :: u289 :: u290 :: u291 :: u292 :: u293 :: u294 :: u295 :: u296 :: u297 :: u298 :: u299 :: u300 :: u301 :: u302 :: u303 :: u304 :: u305 :: u306 :: u307 :: u308 :: u309 :: u310 :: u311 :: u312 :: u313 :: u314 :: u315 :: u316 :: u317 :: u318 :: u319 :: u320 :: u321 :: u322 :: u323 :: u324 :: u325 :: u326 :: u327 :: u328 :: u329 :: u330 :: u331 :: u332 :: u333 :: u334 :: u335 :: u336 :: u337 :: u338 :: u339 :: u340 :: u341 :: u342 :: u343 :: u344 :: u345 :: u346 :: u347 :: u348 :: u349 :: u350 :: u351 :: u352 :: u353 :: u354 :: u355 :: u356 :: u357 :: u358 :: u359 :: u360 :: u361 :: u362 :: u363 :: u364 :: u365 :: u366 :: u367 :: u368 :: u369 :: u370 :: u371 :: u372 :: u373 :: u374 :: u375 :: u376 :: u377 :: u378 :: u379 :: u380 :: u381 :: u382 :: u383 :: u384 :: u385 :: u386 :: u387 :: u388 :: u389 :: u390 :: u391 :: u392 :: u393 :: u394 :: u395 :: u396 :: u397 :: u398 :: u399 :: u400 :: u401 :: u402 :: u403 :: u404 :: u405 :: u406 :: u407 :: u408 :: u409 :: u410 :: u411 :: u412 :: u413 :: u414 :: u415 :: u416 :: u417 :: u418 :: u419 :: u420 :: u421 :: u422 :: u423 :: u424 :: u425 :: u426 :: u427 :: u428 :: u429 :: u430 :: u431 :: u432 :: u433 :: u434 :: u435 :: u436 :: u437 :: u438 :: u439 :: u440 :: u441 :: u442 :: u443 :: u444 :: u445 :: u446 :: u447 :: u448 :: u449 :: u450 :: u451 :: u452 :: u453 :: u454 :: u455 :: u456 :: u457 :: u458 :: u459 :: u460 :: u461 :: u462 :: u463 :: u464 :: u465 :: u466 :: u467 :: u468 :: u469 :: u470 :: u471 :: u472 :: u473 :: u474 :: u475 :: u476 :: u477 :: u478 :: u479 :: u480 :: u481 :: u482 :: u483 :: u484 :: u485 :: [])) []) w := by
  let pq : Exit → Act → World → Prop := bodyPost Try.prog Try.f10 (fun _ _ => True)
  conv => enter [2]; whnf
  have HQ1 : Hid _ := @hQ1
  have HQ2 : Hid _ := @hQ2
  have HL : Hid _ := hlo
  have HM0 : Hid _ := hM
  have HR9 : Hid _ := hHR
  have HE7 : Hid _ := hE7
  have HPB : Hid _ := hPB
  clear hQ1 hQ2 hlo hM hHR hE7 hPB
  have zG := G.size
  refine wp_seq_k fun K1 hK1 => ?_
  have HK1 : Hid _ := hK1
  clear hK1
  by_cases hlt : i < jn
  · obtain ⟨jb, jo, rfl, hjb, cj⟩ := (hJ.keep G).at' (by omega)
    have c3 : w.cell? ⟨jb, jo + i * 4 + 3, none⟩ = some (.bool (F i).ls) := cj i hlt 3 (by decide)
    rw [if_pos hlt] at hd
    have li : (i : Int) < (jn : Int) := by omega
    rw [← hd] at c3
    clear cj hd
    go_wp2
    clear c3 li
    refine HK1.out _ _ ?_
    clear HK1
    refine wp_seq_k fun K2 hK2 => ?_
    have HK2 : Hid _ := hK2
    clear hK2
    have s0 : True := trivial
    have x1 : w.cell? ⟨g24, 1, none⟩ = some (.int .i64 (ch : Int)) := hx24
    have hc0 := HM0.out.c
    go_wp2_with (first
      | (at_builtin; have _t := s0; clear s0; refine wpList_psT 73 3 1 8 _ Try.underlying73 Try.info_intT rfl (by decide) (by decide) w w0.heap.size (Ti ch) rfl _ _ rfl ca cn cc (cs.map Ti) rfl hc0 zG rfl (by omega) (by unfold maxLen; omega) _ rfl rfl (by intro u hu; simp only [Ti, List.mem_cons, List.not_mem_nil, or_false] at hu; rcases hu with rfl; rfl) (ans_nil _ _) (fun y hy b e e2 => by have e2 : (none : Option Nat) = some b := e2; cases e2) ?_; intro gx cx w1 hO1 u1 hor1; have hM1 := HM0.out.pC u1 hor1 (by rw [List.map_append]; exact hO1); have HM1 : Hid _ := hM1; have hd1 := hM1.d; clear hM1; have G1 := grown_far G u1 (fun q e => hc0.new q e); have zG1 := G1.size; have s1 : True := trivial)
      | (at_builtin; have _t := s1; clear s1; refine wpList_psT 74 4 1 1 _ Try.underlying74 Try.info_bl3 rfl (by decide) (by decide) w1 w0.heap.size (Tb d) rfl _ _ rfl da dn dc (ds.map Tb) rfl hd1 zG1 rfl (by omega) (by unfold maxLen; omega) _ rfl rfl (by intro u hu; simp only [Tb, List.mem_cons, List.not_mem_nil, or_false] at hu; rcases hu with rfl; rfl) (ans_nil _ _) (fun y hy b e e2 => by have e2 : (none : Option Nat) = some b := e2; cases e2) ?_; intro gy cy w2 hO2 u2 hor2))
    have hM2 := HM1.out.pD u2 hor2 (by rw [List.map_append]; exact hO2)
    have hY2 := (hY.tyO u1 hc0.tyo (by decide)).tyO u2 hd1.tyo (by decide)
    have b242 := (b24.tyO u1 hc0.tyo (by decide)).tyO u2 hd1.tyo (by decide)
    have G2 := grown_far G1 u2 (fun q e => hd1.new q e)
    clear x1 hO1 hO2 hd1
    refine HK2.out _ _ ?_
    clear HK2
    refine wp_seq_k fun K3 hK3 => ?_
    have HK3 : Hid _ := hK3
    clear hK3
    cases d
    · go_wp2
      refine HK3.out _ _ ?_
      clear HK3
      refine ca_t49 _ w0 w2 g6 g8 g10 N ma t Qs MA EA MB EB ua un uc us aa an ac aks ba bn bc bs (some ⟨gx, 0, none⟩) (cn + 1) cx (cs ++ [ch]) (some ⟨gy, 0, none⟩) (dn + 1) cy (ds ++ [false]) hM2 G2 ya yn yc ly Y hY2 g24 c24 b242 i kf ch mi ma' lo EB' PB HR9.out HE7.out HL.out (HPB.out (by simp)) hbn h10 ?_
      intros
      rename_i w3 ba' bn' bc' ps hps hM3 G3
      exact HQ2.out (by simp) w3 ba' bn' bc' _ _ _ _ _ _ ps hps hM3 G3
    · go_wp2
      exact HQ1.out (by simp) w2 _ _ _ _ _ _ hM2 G2
  · rw [if_neg hlt] at hd
    subst hd
    have li : ¬ (i : Int) < (jn : Int) := by omega
    have li2 : ¬ i < jn := hlt
    go_wp2
    clear li li2
    refine HK1.out _ _ ?_
    clear HK1
    refine wp_seq_k fun K2 hK2 => ?_
    have HK2 : Hid _ := hK2
    clear hK2
    have s0 : True := trivial
    have x1 : w.cell? ⟨g24, 1, none⟩ = some (.int .i64 (ch : Int)) := hx24
    have hc0 := HM0.out.c
    go_wp2_with (first
      | (at_builtin; have _t := s0; clear s0; refine wpList_psT 73 3 1 8 _ Try.underlying73 Try.info_intT rfl (by decide) (by decide) w w0.heap.size (Ti ch) rfl _ _ rfl ca cn cc (cs.map Ti) rfl hc0 zG rfl (by omega) (by unfold maxLen; omega) _ rfl rfl (by intro u hu; simp only [Ti, List.mem_cons, List.not_mem_nil, or_false] at hu; rcases hu with rfl; rfl) (ans_nil _ _) (fun y hy b e e2 => by have e2 : (none : Option Nat) = some b := e2; cases e2) ?_; intro gx cx w1 hO1 u1 hor1; have hM1 := HM0.out.pC u1 hor1 (by rw [List.map_append]; exact hO1); have HM1 : Hid _ := hM1; have hd1 := hM1.d; clear hM1; have G1 := grown_far G u1 (fun q e => hc0.new q e); have zG1 := G1.size; have s1 : True := trivial)
      | (at_builtin; have _t := s1; clear s1; refine wpList_psT 74 4 1 1 _ Try.underlying74 Try.info_bl3 rfl (by decide) (by decide) w1 w0.heap.size (Tb false) rfl _ _ rfl da dn dc (ds.map Tb) rfl hd1 zG1 rfl (by omega) (by unfold maxLen; omega) _ rfl rfl (by intro u hu; simp only [Tb, List.mem_cons, List.not_mem_nil, or_false] at hu; rcases hu with rfl; rfl) (ans_nil _ _) (fun y hy b e e2 => by have e2 : (none : Option Nat) = some b := e2; cases e2) ?_; intro gy cy w2 hO2 u2 hor2))
    have hM2 := HM1.out.pD u2 hor2 (by rw [List.map_append]; exact hO2)
    have hY2 := (hY.tyO u1 hc0.tyo (by decide)).tyO u2 hd1.tyo (by decide)
    have b242 := (b24.tyO u1 hc0.tyo (by decide)).tyO u2 hd1.tyo (by decide)
    have G2 := grown_far G1 u2 (fun q e => hd1.new q e)
    clear x1 hO1 hO2 hd1
    refine HK2.out _ _ ?_
    clear HK2
    refine wp_seq_k fun K3 hK3 => ?_
    have HK3 : Hid _ := hK3
    clear hK3
    · go_wp2
      refine HK3.out _ _ ?_
      clear HK3
      refine ca_t49 _ w0 w2 g6 g8 g10 N ma t Qs MA EA MB EB ua un uc us aa an ac aks ba bn bc bs (some ⟨gx, 0, none⟩) (cn + 1) cx (cs ++ [ch]) (some ⟨gy, 0, none⟩) (dn + 1) cy (ds ++ [false]) hM2 G2 ya yn yc ly Y hY2 g24 c24 b242 i kf ch mi ma' lo EB' PB HR9.out HE7.out HL.out (HPB.out (by simp)) hbn h10 ?_
      intros
      rename_i w3 ba' bn' bc' ps hps hM3 G3
      exact HQ2.out (by simp) w3 ba' bn' bc' _ _ _ _ _ _ ps hps hM3 G3

set_option maxHeartbeats 32000000 in
/-- what the one that hears all, is told -/
theorem ca_t41 {u0 u2 u3 u4 u5 u6 u7 u8 u9 u11 u12 u19 u20 u21 u22 u25 u26 u27 u29 u30 u32 u33 u34 u35 u36 u37 u38 u39 u40 u41 u42 u43 u44 u45 u46 u47 u48 u49 u50 u51 u52 u53 u54 u55 u56 u57 u58 u59 u60 u61 u62 u63 u64 u65 u66 u67 u68 u69 u70 u71 u72 u73 u74 u75 u76 u77 u78 u79 u80 u81 u82 u83 u84 u85 u86 u87 u88 u89 u90 u91 u92 u93 u94 u95 u96 u97 u98 u99 u100 u101 u102 u103 u104 u105 u106 u107 u108 u109 u110 u111 u112 u113 u114 u115 u116 u117 u118 u119 u120 u121 u122 u123 u124 u125 u126 u127 u128 u129 u130 u131 u132 u133 u134 u135 u136 u137 u138 u139 u140 u141 u142 u143 u144 u145 u146 u147 u148 u149 u150 u151 u152 u153 u154 u155 u156 u157 u158 u159 u160 u161 u162 u163 u164 u165 u166 u167 u168 u169 u170 u171 u172 u173 u174 u175 u176 u177 u178 u179 u180 u181 u182 u183 u184 u185 u186 u187 u188 u189 u190 u191 u192 u193 u194 u195 u196 u197 u198 u199 u200 u201 u202 u203 u204 u205 u206 u207 u208 u209 u210 u211 u212 u213 u214 u215 u216 u217 u218 u219 u220 u221 u222 u223 u224 u225 u226 u227 u228 u229 u230 u231 u232 u233 u234 u235 u236 u237 u238 u239 u240 u241 u242 u243 u244 u245 u246 u247 u248 u249 u250 u251 u252 u253 u254 u255 u256 u257 u258 u259 u260 u261 u262 u263 u264 u265 u266 u267 u268 u269 u270 u271 u272 u273 u274 u275 u276 u277 u278 u279 u280 u281 u282 u283 u284 u285 u286 u287 u288 u289 u290 u291 u292 u293 u294 u295 u296 u297 u298 u299 u300 u301 u302 u303 u304 u305 u306 u307 u308 u309 u310 u311 u312 u313 u314 u315 u316 u317 u318 u319 u320 u321 u322 u323 u324 u325 u326 u327 u328 u329 u330 u331 u332 u333 u334 u335 u336 u337 u338 u339 u340 u341 u342 u343 u344 u345 u346 u347 u348 u349 u350 u351 u352 u353 u354 u355 u356 u357 u358 u359 u360 u361 u362 u363 u364 u365 u366 u367 u368 u369 u370 u371 u372 u373 u374 u375 u376 u377 u378 u379 u380 u381 u382 u383 u384 u385 u386 u387 u388 u389 u390 u391 u392 u393 u394 u395 u396 u397 u398 u399 u400 u401 u402 u403 u404 u405 u406 u407 u408 u409 u410 u411 u412 u413 u414 u415 u416 u417 u418 u419 u420 u421 u422 u423 u424 u425 u426 u427 u428 u429 u430 u431 u432 u433 u434 u435 u436 u437 u438 u439 u440 u441 u442 u443 u444 u445 u446 u447 u448 u449 u450 u451 u452 u453 u454 u455 u456 u457 u458 u459 u460 u461 u462 u463 u464 u465 u466 u467 u468 u469 u470 u471 u472 u473 u474 u475 u476 u477 u478 u479 u480 u481 u482 u483 u484 u485 : Value} (Q : Exit → Act → World → Prop) (w0 w : World) (g6 g8 g10 : Nat) (N ma : Int) (t : Nat) (Qs : List Qd) (MA : Int) (EA : List Ed) (MB : Int) (EB : List Ed) (ua : Option Addr) (un uc : Nat) (us : List Pu) (aa : Option Addr) (an ac : Nat) (aks : List Tk) (ba : Option Addr) (bn bc : Nat) (bs : List Tk) (ca : Option Addr) (cn cc : Nat) (cs : List Nat) (da : Option Addr) (dn dc : Nat) (ds : List Bool) (hM : FM w w0.heap.size g6 g8 g10 N ma t Qs MA EA MB EB ua un uc us aa an ac aks ba bn bc bs ca cn cc cs da dn dc ds) (G : w0.grownBy w none) (ya : Option Addr) (yn yc ly : Nat) (Y : List Nat) (hY : Ans w ly ya yn yc Y) (g24 : Nat) (c24 : Array Value) (b24 : BxS w g24 28 c24) (i kf ch mi : Nat) (ma' lo : Int) (EB' : List Ed) (PB : List Pd) (hHR : HR 77 N MB EB Y 77 N ma' EB' (ch : Int) PB lo i 0) (hE7 : EB'.length = 7) (hlo : bs ≠ [] → lo = (mi : Int)) (hbn : bn ≤ 100000) (h10 : w0.heap.size ≤ g10) (ja : Option Addr) (jn jc : Nat) (F : Nat → Jb) (hJ : RdJb w0 ja jn jc F) (d : Bool) (hd : d = if i < jn then (F i).ls else false) (hi : i < 250) (hmi : mi ≤ 300) (hcn : cn ≤ 1000) (hdn : dn ≤ 1000) (hPB : d = false → PB.length ≤ 100000) (ps : List Pk) (pa : Option Addr) (pn pc lh : Nat) (hH : OwT 66 7 w lh pa pn pc (ps.map (Pk.he (ch : Int)))) (hlh : w0.heap.size ≤ lh) (hpn : pn ≤ 100000) (hbn' : an ≤ 100000) (hap : ∀ y, y ∈ aks → ∀ p, p ∈ ps → ∀ g, y.p.rw.v.ownBlock = some g → p.rw.v.ownBlock ≠ some g) (ow fi m0 : Int) (h24 : c24 = heA 77 (ch : Int) m0 ow fi)
    (hQ1 : d = true → ∀ {z32 z33 z188 z189 z190 z191 z192 z193 z194 z195 z196 z197 z198 z199 z200 z201 z202 z203 z204 z205 z206 z207 z208 z209 z210 z211 z212 z213 z214 z215 z216 z217 z218 z219 z220 z221 z222 z223 z224 z225 : Value} w' aa' an' ac' ca' cn' cc' da' dn' dc', FM w' w0.heap.size g6 g8 g10 N ma t Qs MA EA MB EB ua un uc us aa' an' ac' (aks ++ ps.map (mkT kf ch)) ba bn bc bs ca' cn' cc' (cs ++ [ch]) da' dn' dc' (ds ++ [d]) → w0.grownBy w' none → Q (.exit 1) (Act.mk (List.toArray (u0 :: (.slice ja jn jc) :: u2 :: u3 :: u4 :: u5 :: u6 :: u7 :: u8 :: u9 :: (.pointer (some ⟨g10, 0, none⟩)) :: u11 :: u12 :: (.slice aa' an' ac') :: (.slice ba bn bc) :: (.slice ca' cn' cc') :: (.slice da' dn' dc') :: (.int .i64 ((mi + 1 : Nat) : Int)) :: (.int .i64 (i : Int)) :: u19 :: u20 :: u21 :: u22 :: (.slice ya yn yc) :: (.pointer (some ⟨g24, 0, none⟩)) :: u25 :: u26 :: u27 :: (.slice pa pn pc) :: u29 :: u30 :: (.int .i64 (kf : Int)) :: z32 :: z33 :: u34 :: u35 :: u36 :: u37 :: u38 :: u39 :: u40 :: u41 :: u42 :: u43 :: u44 :: u45 :: u46 :: u47 :: u48 :: u49 :: u50 :: u51 :: u52 :: u53 :: u54 :: u55 :: u56 :: u57 :: u58 :: u59 :: u60 :: u61 :: u62 :: u63 :: u64 :: u65 :: u66 :: u67 :: u68 :: u69 :: u70 :: u71 :: u72 :: u73 :: u74 :: u75 :: u76 :: u77 :: u78 :: u79 :: u80 :: u81 :: u82 :: u83 :: u84 :: u85 :: u86 :: u87 :: u88 :: u89 :: u90 :: u91 :: u92 :: u93 :: u94 :: u95 :: u96 :: u97 :: u98 :: u99 :: u100 :: u101 :: u102 :: u103 :: u104 :: u105 :: u106 :: u107 :: u108 :: u109 :: u110 :: u111 :: u112 :: u113 :: u114 :: u115 :: u116 :: u117 :: u118 :: u119 :: u120 :: u121 :: u122 :: u123 :: u124 :: u125 :: u126 :: u127 :: u128 :: u129 :: u130 :: u131 :: u132 :: u133 :: u134 :: u135 :: u136 :: u137 :: u138 :: u139 :: u140 :: u141 :: u142 :: u143 :: u144 :: u145 :: u146 :: u147 :: u148 :: u149 :: u150 :: u151 :: u152 :: u153 :: u154 :: u155 :: u156 :: u157 :: u158 :: u159 :: u160 :: u161 :: u162 :: u163 :: u164 :: u165 :: u166 :: u167 :: u168 :: u169 :: u170 :: u171 :: u172 :: u173 :: u174 :: u175 :: u176 :: u177 :: u178 :: u179 :: u180 :: u181 :: u182 :: u183 :: u184 :: u185 :: u186 :: u187 :: z188 :: z189 :: z190 :: z191 :: z192 :: z193 :: z194 :: z195 :: z196 :: z197 :: z198 :: z199 :: z200 :: z201 :: z202 :: z203 :: z204 :: z205 :: z206 :: z207 :: z208 :: z209 :: z210 :: z211 :: z212 :: z213 :: z214 :: z215 :: z216 :: z217 :: z218 :: z219 :: z220 :: z221 :: z222 :: z223 :: z224 :: z225 :: u226 :: u227 :: u228 :: u229 :: u230 :: u231 :: u232 :: u233 :: u234 :: u235 :: u236 :: u237 :: u238 :: u239 :: u240 :: u241 :: u242 :: u243 :: u244 :: u245 :: u246 :: u247 :: u248 :: u249 :: u250 :: u251 :: u252 :: u253 :: u254 :: u255 :: u256 :: u257 :: u258 :: u259 :: u260 :: u261 :: u262 :: u263 :: u264 :: u265 :: u266 :: u267 :: u268 :: u269 :: u270 :: u271 :: u272 :: u273 :: u274 :: u275 :: u276 :: u277 :: u278 :: u279 :: u280 :: u281 :: u282 :: u283 :: u284 :: u285 :: u286 :: u287 :: u288 :: u289 :: u290 :: u291 :: u292 :: u293 :: u294 :: u295 :: u296 :: u297 :: u298 :: u299 :: u300 :: u301 :: u302 :: u303 :: u304 :: u305 :: u306 :: u307 :: u308 :: u309 :: u310 :: u311 :: u312 :: u313 :: u314 :: u315 :: u316 :: u317 :: u318 :: u319 :: u320 :: u321 :: u322 :: u323 :: u324 :: u325 :: u326 :: u327 :: u328 :: u329 :: u330 :: u331 :: u332 :: u333 :: u334 :: u335 :: u336 :: u337 :: u338 :: u339 :: u340 :: u341 :: u342 :: u343 :: u344 :: u345 :: u346 :: u347 :: u348 :: u349 :: u350 :: u351 :: u352 :: u353 :: u354 :: u355 :: u356 :: u357 :: u358 :: u359 :: u360 :: u361 :: u362 :: u363 :: u364 :: u365 :: u366 :: u367 :: u368 :: u369 :: u370 :: u371 :: u372 :: u373 :: u374 :: u375 :: u376 :: u377 :: u378 :: u379 :: u380 :: u381 :: u382 :: u383 :: u384 :: u385 :: u386 :: u387 :: u388 :: u389 :: u390 :: u391 :: u392 :: u393 :: u394 :: u395 :: u396 :: u397 :: u398 :: u399 :: u400 :: u401 :: u402 :: u403 :: u404 :: u405 :: u406 :: u407 :: u408 :: u409 :: u410 :: u411 :: u412 :: u413 :: u414 :: u415 :: u416 :: u417 :: u418 :: u419 :: u420 :: u421 :: u422 :: u423 :: u424 :: u425 :: u426 :: u427 :: u428 :: u429 :: u430 :: u431 :: u432 :: u433 :: u434 :: u435 :: u436 :: u437 :: u438 :: u439 :: u440 :: u441 :: u442 :: u443 :: u444 :: u445 :: u446 :: u447 :: u448 :: u449 :: u450 :: u451 :: u452 :: u453 :: u454 :: u455 :: u456 :: u457 :: u458 :: u459 :: u460 :: u461 :: u462 :: u463 :: u464 :: u465 :: u466 :: u467 :: u468 :: u469 :: u470 :: u471 :: u472 :: u473 :: u474 :: u475 :: u476 :: u477 :: u478 :: u479 :: u480 :: u481 :: u482 :: u483 :: u484 :: u485 :: [])) []) w')
    (hQ2 : d = false → ∀ {z27 z28 z29 z30 z32 z33 z34 z188 z189 z190 z191 z192 z193 z194 z195 z196 z197 z198 z199 z200 z201 z202 z203 z204 z205 z206 z207 z208 z209 z210 z211 z212 z213 z214 z215 z216 z217 z218 z219 z220 z221 z222 z223 z224 z225 z226 z227 z228 z229 z230 z231 z232 z233 z234 z235 z236 z237 z238 z239 z240 z241 z242 z243 z244 z245 z246 z247 z248 z249 z250 z251 z252 z253 z254 z255 z256 z257 z258 z259 z260 z261 z262 z263 z264 z265 z266 : Value} w' aa' an' ac' ba' bn' bc' ca' cn' cc' da' dn' dc' (qs : List Pk), qs.map Pk.d = PB → FM w' w0.heap.size g6 g8 g10 N ma t Qs MA EA ma' EB' ua un uc us aa' an' ac' (aks ++ ps.map (mkT kf ch)) ba' bn' bc' (bs ++ qs.map (mkT kf ch)) ca' cn' cc' (cs ++ [ch]) da' dn' dc' (ds ++ [d]) → w0.grownBy w' none → Q .normal (Act.mk (List.toArray (u0 :: (.slice ja jn jc) :: u2 :: u3 :: u4 :: u5 :: u6 :: u7 :: u8 :: u9 :: (.pointer (some ⟨g10, 0, none⟩)) :: u11 :: u12 :: (.slice aa' an' ac') :: (.slice ba' bn' bc') :: (.slice ca' cn' cc') :: (.slice da' dn' dc') :: (.int .i64 0) :: (.int .i64 (i : Int)) :: u19 :: u20 :: u21 :: u22 :: (.slice ya yn yc) :: (.pointer (some ⟨g24, 0, none⟩)) :: u25 :: u26 :: z27 :: z28 :: z29 :: z30 :: (.int .i64 (kf : Int)) :: z32 :: z33 :: z34 :: u35 :: u36 :: u37 :: u38 :: u39 :: u40 :: u41 :: u42 :: u43 :: u44 :: u45 :: u46 :: u47 :: u48 :: u49 :: u50 :: u51 :: u52 :: u53 :: u54 :: u55 :: u56 :: u57 :: u58 :: u59 :: u60 :: u61 :: u62 :: u63 :: u64 :: u65 :: u66 :: u67 :: u68 :: u69 :: u70 :: u71 :: u72 :: u73 :: u74 :: u75 :: u76 :: u77 :: u78 :: u79 :: u80 :: u81 :: u82 :: u83 :: u84 :: u85 :: u86 :: u87 :: u88 :: u89 :: u90 :: u91 :: u92 :: u93 :: u94 :: u95 :: u96 :: u97 :: u98 :: u99 :: u100 :: u101 :: u102 :: u103 :: u104 :: u105 :: u106 :: u107 :: u108 :: u109 :: u110 :: u111 :: u112 :: u113 :: u114 :: u115 :: u116 :: u117 :: u118 :: u119 :: u120 :: u121 :: u122 :: u123 :: u124 :: u125 :: u126 :: u127 :: u128 :: u129 :: u130 :: u131 :: u132 :: u133 :: u134 :: u135 :: u136 :: u137 :: u138 :: u139 :: u140 :: u141 :: u142 :: u143 :: u144 :: u145 :: u146 :: u147 :: u148 :: u149 :: u150 :: u151 :: u152 :: u153 :: u154 :: u155 :: u156 :: u157 :: u158 :: u159 :: u160 :: u161 :: u162 :: u163 :: u164 :: u165 :: u166 :: u167 :: u168 :: u169 :: u170 :: u171 :: u172 :: u173 :: u174 :: u175 :: u176 :: u177 :: u178 :: u179 :: u180 :: u181 :: u182 :: u183 :: u184 :: u185 :: u186 :: u187 :: z188 :: z189 :: z190 :: z191 :: z192 :: z193 :: z194 :: z195 :: z196 :: z197 :: z198 :: z199 :: z200 :: z201 :: z202 :: z203 :: z204 :: z205 :: z206 :: z207 :: z208 :: z209 :: z210 :: z211 :: z212 :: z213 :: z214 :: z215 :: z216 :: z217 :: z218 :: z219 :: z220 :: z221 :: z222 :: z223 :: z224 :: z225 :: z226 :: z227 :: z228 :: z229 :: z230 :: z231 :: z232 :: z233 :: z234 :: z235 :: z236 :: z237 :: z238 :: z239 :: z240 :: z241 :: z242 :: z243 :: z244 :: z245 :: z246 :: z247 :: z248 :: z249 :: z250 :: z251 :: z252 :: z253 :: z254 :: z255 :: z256 :: z257 :: z258 :: z259 :: z260 :: z261 :: z262 :: z263 :: z264 :: z265 :: z266 :: u267 :: u268 :: u269 :: u270 :: u271 :: u272 :: u273 :: u274 :: u275 :: u276 :: u277 :: u278 :: u279 :: u280 :: u281 :: u282 :: u283 :: u284 :: u285 :: u286 :: u287 :: u288 :: u289 :: u290 :: u291 :: u292 :: u293 :: u294 :: u295 :: u296 :: u297 :: u298 :: u299 :: u300 :: u301 :: u302 :: u303 :: u304 :: u305 :: u306 :: u307 :: u308 :: u309 :: u310 :: u311 :: u312 :: u313 :: u314 :: u315 :: u316 :: u317 :: u318 :: u319 :: u320 :: u321 :: u322 :: u323 :: u324 :: u325 :: u326 :: u327 :: u328 :: u329 :: u330 :: u331 :: u332 :: u333 :: u334 :: u335 :: u336 :: u337 :: u338 :: u339 :: u340 :: u341 :: u342 :: u343 :: u344 :: u345 :: u346 :: u347 :: u348 :: u349 :: u350 :: u351 :: u352 :: u353 :: u354 :: u355 :: u356 :: u357 :: u358 :: u359 :: u360 :: u361 :: u362 :: u363 :: u364 :: u365 :: u366 :: u367 :: u368 :: u369 :: u370 :: u371 :: u372 :: u373 :: u374 :: u375 :: u376 :: u377 :: u378 :: u379 :: u380 :: u381 :: u382 :: u383 :: u384 :: u385 :: u386 :: u387 :: u388 :: u389 :: u390 :: u391 :: u392 :: u393 :: u394 :: u395 :: u396 :: u397 :: u398 :: u399 :: u400 :: u401 :: u402 :: u403 :: u404 :: u405 :: u406 :: u407 :: u408 :: u409 :: u410 :: u411 :: u412 :: u413 :: u414 :: u415 :: u416 :: u417 :: u418 :: u419 :: u420 :: u421 :: u422 :: u423 :: u424 :: u425 :: u426 :: u427 :: u428 :: u429 :: u430 :: u431 :: u432 :: u433 :: u434 :: u435 :: u436 :: u437 :: u438 :: u439 :: u440 :: u441 :: u442 :: u443 :: u444 :: u445 :: u446 :: u447 :: u448 :: u449 :: u450 :: u451 :: u452 :: u453 :: u454 :: u455 :: u456 :: u457 :: u458 :: u459 :: u460 :: u461 :: u462 :: u463 :: u464 :: u465 :: u466 :: u467 :: u468 :: u469 :: u470 :: u471 :: u472 :: u473 :: u474 :: u475 :: u476 :: u477 :: u478 :: u479 :: u480 :: u481 :: u482 :: u483 :: u484 :: u485 :: [])) []) w') :
    Code.wp Try.prog (tailR 41 (Try.f10.body.getD .skip)) Q (Act.mk (List.toArray (u0 :: (.slice ja jn jc) :: u2 :: u3 :: u4 :: u5 :: u6 :: u7 :: u8 :: u9 :: (.pointer (some ⟨g10, 0, none⟩)) :: u11 :: u12 :: (.slice aa an ac) :: (.slice ba bn bc) :: (.slice ca cn cc) :: (.slice da dn dc) :: (.int .i64 (mi : Int)) :: (.int .i64 (i : Int)) :: u19 :: u20 :: u21 :: u22 :: (.slice ya yn yc) :: (.pointer (some ⟨g24, 0, none⟩)) :: u25 :: u26 :: u27 :: (.slice pa pn pc) :: u29 :: u30 :: (.int .i64 (kf : Int)) :: u32 :: u33 :: u34 :: u35 :: u36 :: u37 :: u38 :: u39 :: u40 :: u41 :: u42 :: u43 :: u44 :: u45 :: u46 :: u47 :: u48 :: u49 :: u50 :: u51 :: u52 :: u53 :: u54 :: u55 :: u56 :: u57 :: u58 :: u59 :: u60 :: u61 :: u62 :: u63 :: u64 :: u65 :: u66 :: u67 :: u68 :: u69 :: u70 :: u71 :: u72 :: u73 :: u74 :: u75 :: u76 :: u77 :: u78 :: u79 :: u80 :: u81 :: u82 :: u83 :: u84 :: u85 :: u86 :: u87 :: u88 :: u89 :: u90 :: u91 :: u92 :: u93 :: u94 :: u95 :: u96 :: u97 :: u98 :: u99 :: u100 :: u101 :: u102 :: u103 :: u104 :: u105 :: u106 :: u107 :: u108 :: u109 :: u110 :: u111 :: u112 :: u113 :: u114 :: u115 :: u116 :: u117 :: u118 :: u119 :: u120 :: u121 :: u122 :: u123 :: u124 :: u125 :: u126 :: u127 :: u128 :: u129 :: u130 :: u131 :: u132 :: u133 :: u134 :: u135 :: u136 :: u137 :: u138 :: u139 :: u140 :: u141 :: u142 :: u143 :: u144 :: u145 :: u146 :: u147 :: u148 :: u149 :: u150 :: u151 :: u152 :: u153 :: u154 :: u155 :: u156 :: u157 :: u158 :: u159 :: u160 :: u161 :: u162 :: u163 :: u164 :: u165 :: u166 :: u167 :: u168 :: u169 :: u170 :: u171 :: u172 :: u173 :: u174 :: u175 :: u176 :: u177 :: u178 :: u179 :: u180 :: u181 :: u182 :: u183 :: u184 :: u185 :: u186 :: u187 :: u188 :: u189 :: u190 :: u191 :: u192 :: u193 :: u194 :: u195 :: u196 :: u197 :: u198 :: u199 :: u200 :: u201 :: u202 :: u203 :: u204 :: u205 :: u206 :: u207 :: u208 :: u209 :: u210 :: u211 :: u212 :: u213 :: u214 :: u215 :: u216 :: u217 :: u218 :: u219 :: u220 :: u221 :: u222 :: u223 :: u224 :: u225 :: u226 :: u227 :: u228 :: u229 :: u230 :: u231 :: u232 :: u233 :: u234 :: u235 :: u236 :: u237 :: u238 :: u239 :: u240 :: u241 :: u242 :: u243 :: u244 :: u245 :: u246 :: u247 :: u248 :: u249 :: u250 :: u251 :: u252 :: u253 :: u254 :: u255 :: u256 :: u257 :: u258 :: u259 :: u260 :: u261 :: u262 :: u263 :: u264 :: u265 :: u266 :: u267 :: u268 :: u269 :: u270 :: u271 :: u272 :: u273 :: u274 :: u275 :: u276 :: u277 :: u278 :: u279 :: u280 :: u281 :: u282 :: u283 :: u284 :: u285 :: u286 :: u287 :: u288 :: u289 :: u290 :: u291 :: u292 :: u293 :: u294 :: u295 :: u296 :: u297 :: u298 :: u299 :: u300 :: u301 :: u302 :: u303 :: u304 :: u305 :: u306 :: u307 :: u308 :: u309 :: u310 :: u311 :: u312 :: u313 :: u314 :: u315 :: u316 :: u317 :: u318 :: u319 :: u320 :: u321 :: u322 :: u323 :: u324 :: u325 :: u326 :: u327 :: u328 :: u329 :: u330 :: u331 :: u332 :: u333 :: u334 :: u335 :: u336 :: u337 :: u338 :: u339 :: u340 :: u341 :: u342 :: u343 :: u344 :: u345 :: u346 :: u347 :: u348 :: u349 :: u350 :: u351 :: u352 :: u353 :: u354 :: u355 :: u356 :: u357 :: u358 :: u359 :: u360 :: u361 :: u362 :: u363 :: u364 :: u365 :: u366 :: u367 :: u368 :: u369 :: u370 :: u371 :: u372 :: u373 :: u374 :: u375 :: u376 :: u377 :: u378 :: u379 :: u380 :: u381 :: u382 :: u383 :: u384 :: u385 :: u386 :: u387 :: u388 :: u389 :: u390 :: u391 :: u392 :: u393 :: u394 :: u395 :: u396 :: u397 :: u398 :: u399 :: u400 :: u401 :: u402 :: u403 :: u404 :: u405 :: u406 :: u407 :: u408 :: u409 :: u410 :: u411 :: u412 :: u413 :: u414 :: u415 :: u416 :: u417 :: u418 :: u419 :: u420 :: u421 :: u422 :: u423 :: u424 :: u425 :: u426 :: u427 :: u428 :: u429 :: u430 :: u431 :: u432 :: u433 :: u434 :: u435 :: u436 :: u437 :: u438 :: u439 :: u440 :: u441 :: u442 :: u443 :: u444 :: u445 :: u446 :: u447 :: u448 :: u449 :: u450 :: u451 :: u452 :: u453 :: u454 :: u455 :: u456 :: u457 :: u458 :: u459 :: u460 :: u461 :: u462 :: u463 :: u464 :: u465 :: u466 :: u467 :: u468 :: u469 :: u470 :: u471 :: u472 :: u473 :: u474 :: u475 :: u476 :: u477 :: u478 :: u479 :: u480 :: u481 :: u482 :: u483 :: u484 :: u485 :: [])) []) w := by
  let pq : Exit → Act → World → Prop := bodyPost Try.prog Try.f10 (fun _ _ => True)
  conv => enter [2]; whnf
  have HQ1 : Hid _ := @hQ1
  have HQ2 : Hid _ := @hQ2
  have HL : Hid _ := hlo
  have HR9 : Hid _ := hHR
  have HE7 : Hid _ := hE7
  have HPB : Hid _ := hPB
  have HD : Hid _ := hd
  have HJ : Hid _ := hJ
  have H24 : Hid _ := h24
  clear hQ1 hQ2 hlo hHR hE7 hPB hd hJ h24
  refine wp_seq_k fun K1 hK1 => ?_
  have HK1 : Hid _ := hK1
  clear hK1
  refine wp_seq_k fun K2 hK2 => ?_
  have HK2 : Hid _ := hK2
  clear hK2
  go_wp2
  refine HK2.out _ _ ?_
  clear HK2
  go_wp2
  go_loopw [13, 32] (fun bv jv wr => ∃ (j : Nat) (a' : Option Addr) (n' c' : Nat), j ≤ pn ∧ jv = .int .i64 j ∧ bv = .slice a' n' c' ∧ n' = an + j ∧ FM wr w0.heap.size g6 g8 g10 N ma t Qs MA EA MB EB ua un uc us a' n' c' (aks ++ (ps.take j).map (mkT kf ch)) ba bn bc bs ca cn cc cs da dn dc ds ∧ OwT 66 7 wr lh pa pn pc (ps.map (Pk.he (ch : Int))) ∧ Ans wr ly ya yn yc Y ∧ BxS wr g24 28 c24 ∧ w0.grownBy wr none) (fun _ jv _ => pn - (intOf jv).toNat)
  case atStart => exact ⟨0, aa, an, ac, Nat.zero_le _, rfl, rfl, rfl, by rw [List.take_zero, List.map_nil, List.append_nil]; exact hM, hH, hY, b24, G⟩
  case round =>
    obtain ⟨j, a', n', c', hj, rfl, rfl, hn', hMr, hHr, hYr, b24r, Gr⟩ := hrel
    have HMr : Hid _ := hMr
    have hlp : ps.length = pn := by have := hH.len; rw [List.length_map] at this; exact this
    have HN : Hid _ := hn'
    have hnb : n' ≤ 200000 := by omega
    clear hn'
    by_cases hlt : j < pn
    · have lj : (j : Int) < (pn : Int) := by omega
      obtain ⟨gh, hgh⟩ := hHr.someT (by omega)
      have hpj : ps[j]? = some (ps.getD j pk0) := by rw [List.getD_eq_getElem?_getD, List.getElem?_eq_getElem (by omega)]; rfl
      rw [hgh] at hHr ⊢
      obtain ⟨x0, x1, x2, x3, x4, x5, x6⟩ := hHr.seven hpj
      have hAj : Ans wr lh (ps.getD j pk0).a (ps.getD j pk0).n (ps.getD j pk0).c (ps.getD j pk0).D := hHr.each _ (List.mem_map_of_mem (List.mem_of_getElem? hpj))
      have hapj := mk_apart (k := kf) hHr hap hpj
      have HT := mkT_take kf ch aks ps j _ hpj
      generalize ps.getD j pk0 = p at *
      have hrow := hMr.a
      have zr := Gr.size
      have HT : Hid _ := HT
      clear hMr hgh hlp
      have s0 : True := trivial
      go_wp2_with (at_builtin; have _t := s0; clear s0; refine wpList_psT 72 79 8 72 _ Try.underlying72 Try.info_tl3 rfl (by decide) (by decide) wr w0.heap.size (Tk.th (mkT kf ch p)) rfl _ _ rfl a' n' c' ((aks ++ (ps.take j).map (mkT kf ch)).map Tk.th) rfl hrow zr rfl (by omega) (by unfold maxLen; omega) _ rfl rfl (by intro u hu; simp only [mkT, Tk.th, Pk.cells, List.mem_cons, List.not_mem_nil, or_false] at hu; rcases hu with rfl | rfl | rfl | rfl | rfl | rfl | rfl | rfl <;> rfl) (hAj.wide hlh) hapj ?_; intro gx cx w5 hO5 u5 hor)
      have hty := hrow.tyo
      go_roundw
      case rel =>
        refine ⟨j + 1, some ⟨gx, 0, none⟩, n' + 1, cx, by omega, by go_num, rfl, by have := HN.out; omega, ?_, ?_, hYr.tyO u5 hty (by decide), b24r.tyO u5 hty (by decide), grown_far Gr u5 (fun q e => hrow.new q e)⟩
        · rw [HT.out]
          exact HMr.out.pA u5 hor (by rw [List.map_append]; exact hO5)
        · exact hHr.tyO u5 hty (by decide) (by decide)
      case measure => simp [intOf]; omega
    · obtain rfl : j = pn := by omega
      have HMr := HMr.out
      rw [List.take_of_length_le (by omega)] at HMr
      have HMr : Hid _ := HMr
      clear hlp
      have lj : ¬ (j : Int) < (j : Int) := by omega
      go_wp2
      refine HK1.out _ _ ?_
      clear HK1
      have x1 : wr.cell? ⟨g24, 1, none⟩ = some (.int .i64 (ch : Int)) := by
        have h : BxS wr g24 28 (heA 77 (ch : Int) m0 ow fi) := by rw [← H24.out]; exact b24r
        exact h.cell 1 (by show 1 < 5; decide)
      refine ca_t45 _ w0 wr g6 g8 g10 N ma t Qs MA EA MB EB ua un uc us a' n' c' (aks ++ ps.map (mkT kf ch)) ba bn bc bs ca cn cc cs da dn dc ds HMr.out Gr ya yn yc ly Y hYr g24 c24 b24r i kf ch mi ma' lo EB' PB HR9.out HE7.out HL.out hbn h10 ja jn jc F HJ.out d HD.out hi hmi hcn hdn HPB.out x1 ?_ ?_
      · intro ed
        intros
        rename_i w3 ca' cn' cc' da' dn' dc' hM3 G3
        exact HQ1.out ed w3 _ _ _ _ _ _ _ _ _ hM3 G3
      · intro ed
        intros
        rename_i w3 ba' bn' bc' ca' cn' cc' da' dn' dc' qs hqs hM3 G3
        exact HQ2.out ed w3 _ _ _ _ _ _ _ _ _ _ _ _ qs hqs hM3 G3

theorem mkT_d (k ch : Nat) (L : List Tk) (ps : List Pk) (PA : List Pd) (h : ps.map Pk.d = PA) : (L ++ ps.map (mkT k ch)).map Tk.d = L.map Tk.d ++ PA.map (tlk k ch) := by
  rw [← h, List.map_append, List.map_map, List.map_map]; rfl
set_option maxHeartbeats 64000000 in
/-- from 'var x []byte' on: a frame -/
theorem ca_t28 {u0 u2 u3 u4 u7 u9 u11 u12 u19 u20 u21 u22 u23 u24 u25 u26 u27 u28 u29 u30 u31 u32 u33 u34 u35 u36 u37 u38 u39 u40 u41 u42 u43 u44 u45 u46 u47 u48 u49 u50 u51 u52 u53 u54 u55 u56 u57 u58 u59 u60 u61 u62 u63 u64 u65 u66 u67 u68 u69 u70 u71 u72 u73 u74 u75 u76 u77 u78 u79 u80 u81 u82 u83 u84 u85 u86 u87 u88 u89 u90 u91 u92 u93 u94 u95 u96 u97 u98 u99 u100 u101 u102 u103 u104 u105 u106 u107 u108 u109 u110 u111 u112 u113 u114 u115 u116 u117 u118 u119 u120 u121 u122 u123 u124 u125 u126 u127 u128 u129 u130 u131 u132 u133 u134 u135 u136 u137 u138 u139 u140 u141 u142 u143 u144 u145 u146 u147 u148 u149 u150 u151 u152 u153 u154 u155 u156 u157 u158 u159 u160 u161 u162 u163 u164 u165 u166 u167 u168 u169 u170 u171 u172 u173 u174 u175 u176 u177 u178 u179 u180 u181 u182 u183 u184 u185 u186 u187 u188 u189 u190 u191 u192 u193 u194 u195 u196 u197 u198 u199 u200 u201 u202 u203 u204 u205 u206 u207 u208 u209 u210 u211 u212 u213 u214 u215 u216 u217 u218 u219 u220 u221 u222 u223 u224 u225 u226 u227 u228 u229 u230 u231 u232 u233 u234 u235 u236 u237 u238 u239 u240 u241 u242 u243 u244 u245 u246 u247 u248 u249 u250 u251 u252 u253 u254 u255 u256 u257 u258 u259 u260 u261 u262 u263 u264 u265 u266 u267 u268 u269 u270 u271 u272 u273 u274 u275 u276 u277 u278 u279 u280 u281 u282 u283 u284 u285 u286 u287 u288 u289 u290 u291 u292 u293 u294 u295 u296 u297 u298 u299 u300 u301 u302 u303 u304 u305 u306 u307 u308 u309 u310 u311 u312 u313 u314 u315 u316 u317 u318 u319 u320 u321 u322 u323 u324 u325 u326 u327 u328 u329 u330 u331 u332 u333 u334 u335 u336 u337 u338 u339 u340 u341 u342 u343 u344 u345 u346 u347 u348 u349 u350 u351 u352 u353 u354 u355 u356 u357 u358 u359 u360 u361 u362 u363 u364 u365 u366 u367 u368 u369 u370 u371 u372 u373 u374 u375 u376 u377 u378 u379 u380 u381 u382 u383 u384 u385 u386 u387 u388 u389 u390 u391 u392 u393 u394 u395 u396 u397 u398 u399 u400 u401 u402 u403 u404 u405 u406 u407 u408 u409 u410 u411 u412 u413 u414 u415 u416 u417 u418 u419 u420 u421 u422 u423 u424 u425 u426 u427 u428 u429 u430 u431 u432 u433 u434 u435 u436 u437 u438 u439 u440 u441 u442 u443 u444 u445 u446 u447 u448 u449 u450 u451 u452 u453 u454 u455 u456 u457 u458 u459 u460 u461 u462 u463 u464 u465 u466 u467 u468 u469 u470 u471 u472 u473 u474 u475 u476 u477 u478 u479 u480 u481 u482 u483 u484 u485 : Value} (Q : Exit → Act → World → Prop) (w0 w : World) (g6 g8 g10 : Nat) (N ma : Int) (t : Nat) (Qs : List Qd) (MA : Int) (EA : List Ed) (MB : Int) (EB : List Ed) (ua : Option Addr) (un uc : Nat) (us : List Pu) (aa : Option Addr) (an ac : Nat) (aks : List Tk) (ba : Option Addr) (bn bc : Nat) (bs : List Tk) (ca : Option Addr) (cn cc : Nat) (cs : List Nat) (da : Option Addr) (dn dc : Nat) (ds : List Bool) (hM : FM w w0.heap.size g6 g8 g10 N ma t Qs MA EA MB EB ua un uc us aa an ac aks ba bn bc bs ca cn cc cs da dn dc ds) (h6 : w0.heap.size ≤ g6) (h8 : w0.heap.size ≤ g8) (h10 : w0.heap.size ≤ g10) (G : w0.grownBy w none) (room i : Nat) (fl : List Bool) (mi : Nat) (hN : N = (room : Int) + 12) (hI : CI room i ma t Qs MA EA MB EB ((us).map Pu.d) ((aks).map Tk.d) fl cs ds mi) (hB : sel (aks.map Tk.d) fl = bs.map Tk.d) (hun : un ≤ i) (ja : Option Addr) (jn jc : Nat) (F : Nat → Jb) (hJ : RdJb w0 ja jn jc F) (d : Bool) (hd : d = if i < jn then (F i).ls else false) (hi : i < 250)
    (hQ1 : d = true → ∀ {z23 z24 z25 z26 z27 z28 z29 z30 z31 z32 z33 z142 z143 z144 z145 z146 z147 z148 z149 z150 z151 z152 z153 z154 z155 z156 z157 z158 z159 z160 z161 z162 z163 z164 z165 z166 z167 z168 z169 z170 z171 z172 z173 z174 z175 z176 z177 z178 z179 z180 z181 z182 z183 z184 z185 z186 z187 z188 z189 z190 z191 z192 z193 z194 z195 z196 z197 z198 z199 z200 z201 z202 z203 z204 z205 z206 z207 z208 z209 z210 z211 z212 z213 z214 z215 z216 z217 z218 z219 z220 z221 z222 z223 z224 z225 : Value} w' aa' an' ac' ca' cn' cc' da' dn' dc' ma' t' Qs' EA' (ps : List Pk) (ch : Nat) fs, FM w' w0.heap.size g6 g8 g10 N ma' t' Qs' ma' EA' MB EB ua un uc us aa' an' ac' (aks ++ ps.map (mkT cn ch)) ba bn bc bs ca' cn' cc' (cs ++ [ch]) da' dn' dc' (ds ++ [d]) → w0.grownBy w' none → CI room (i + 1) ma' t' Qs' ma' EA' MB EB ((us).map Pu.d) ((aks ++ ps.map (mkT cn ch)).map Tk.d) (fl ++ fs) (cs ++ [ch]) (ds ++ [d]) (mi + 1) → sel ((aks ++ ps.map (mkT cn ch)).map Tk.d) (fl ++ fs) = bs.map Tk.d → Q (.exit 1) (Act.mk (List.toArray (u0 :: (.slice ja jn jc) :: u2 :: u3 :: u4 :: (.int .i64 N) :: (.pointer (some ⟨g6, 0, none⟩)) :: (.int .i64 0) :: (.pointer (some ⟨g8, 0, none⟩)) :: u9 :: (.pointer (some ⟨g10, 0, none⟩)) :: u11 :: u12 :: (.slice aa' an' ac') :: (.slice ba bn bc) :: (.slice ca' cn' cc') :: (.slice da' dn' dc') :: (.int .i64 ((mi + 1 : Nat) : Int)) :: (.int .i64 (i : Int)) :: u19 :: u20 :: u21 :: u22 :: z23 :: z24 :: z25 :: z26 :: z27 :: z28 :: z29 :: z30 :: z31 :: z32 :: z33 :: u34 :: u35 :: u36 :: u37 :: u38 :: u39 :: u40 :: u41 :: u42 :: u43 :: u44 :: u45 :: u46 :: u47 :: u48 :: u49 :: u50 :: u51 :: u52 :: u53 :: u54 :: u55 :: u56 :: u57 :: u58 :: u59 :: u60 :: u61 :: u62 :: u63 :: u64 :: u65 :: u66 :: u67 :: u68 :: u69 :: u70 :: u71 :: u72 :: u73 :: u74 :: u75 :: u76 :: u77 :: u78 :: u79 :: u80 :: u81 :: u82 :: u83 :: u84 :: u85 :: u86 :: u87 :: u88 :: u89 :: u90 :: u91 :: u92 :: u93 :: u94 :: u95 :: u96 :: u97 :: u98 :: u99 :: u100 :: u101 :: u102 :: u103 :: u104 :: u105 :: u106 :: u107 :: u108 :: u109 :: u110 :: u111 :: u112 :: u113 :: u114 :: u115 :: u116 :: u117 :: u118 :: u119 :: u120 :: u121 :: u122 :: u123 :: u124 :: u125 :: u126 :: u127 :: u128 :: u129 :: u130 :: u131 :: u132 :: u133 :: u134 :: u135 :: u136 :: u137 :: u138 :: u139 :: u140 :: u141 :: z142 :: z143 :: z144 :: z145 :: z146 :: z147 :: z148 :: z149 :: z150 :: z151 :: z152 :: z153 :: z154 :: z155 :: z156 :: z157 :: z158 :: z159 :: z160 :: z161 :: z162 :: z163 :: z164 :: z165 :: z166 :: z167 :: z168 :: z169 :: z170 :: z171 :: z172 :: z173 :: z174 :: z175 :: z176 :: z177 :: z178 :: z179 :: z180 :: z181 :: z182 :: z183 :: z184 :: z185 :: z186 :: z187 :: z188 :: z189 :: z190 :: z191 :: z192 :: z193 :: z194 :: z195 :: z196 :: z197 :: z198 :: z199 :: z200 :: z201 :: z202 :: z203 :: z204 :: z205 :: z206 :: z207 :: z208 :: z209 :: z210 :: z211 :: z212 :: z213 :: z214 :: z215 :: z216 :: z217 :: z218 :: z219 :: z220 :: z221 :: z222 :: z223 :: z224 :: z225 :: u226 :: u227 :: u228 :: u229 :: u230 :: u231 :: u232 :: u233 :: u234 :: u235 :: u236 :: u237 :: u238 :: u239 :: u240 :: u241 :: u242 :: u243 :: u244 :: u245 :: u246 :: u247 :: u248 :: u249 :: u250 :: u251 :: u252 :: u253 :: u254 :: u255 :: u256 :: u257 :: u258 :: u259 :: u260 :: u261 :: u262 :: u263 :: u264 :: u265 :: u266 :: u267 :: u268 :: u269 :: u270 :: u271 :: u272 :: u273 :: u274 :: u275 :: u276 :: u277 :: u278 :: u279 :: u280 :: u281 :: u282 :: u283 :: u284 :: u285 :: u286 :: u287 :: u288 :: u289 :: u290 :: u291 :: u292 :: u293 :: u294 :: u295 :: u296 :: u297 :: u298 :: u299 :: u300 :: u301 :: u302 :: u303 :: u304 :: u305 :: u306 :: u307 :: u308 :: u309 :: u310 :: u311 :: u312 :: u313 :: u314 :: u315 :: u316 :: u317 :: u318 :: u319 :: u320 :: u321 :: u322 :: u323 :: u324 :: u325 :: u326 :: u327 :: u328 :: u329 :: u330 :: u331 :: u332 :: u333 :: u334 :: u335 :: u336 :: u337 :: u338 :: u339 :: u340 :: u341 :: u342 :: u343 :: u344 :: u345 :: u346 :: u347 :: u348 :: u349 :: u350 :: u351 :: u352 :: u353 :: u354 :: u355 :: u356 :: u357 :: u358 :: u359 :: u360 :: u361 :: u362 :: u363 :: u364 :: u365 :: u366 :: u367 :: u368 :: u369 :: u370 :: u371 :: u372 :: u373 :: u374 :: u375 :: u376 :: u377 :: u378 :: u379 :: u380 :: u381 :: u382 :: u383 :: u384 :: u385 :: u386 :: u387 :: u388 :: u389 :: u390 :: u391 :: u392 :: u393 :: u394 :: u395 :: u396 :: u397 :: u398 :: u399 :: u400 :: u401 :: u402 :: u403 :: u404 :: u405 :: u406 :: u407 :: u408 :: u409 :: u410 :: u411 :: u412 :: u413 :: u414 :: u415 :: u416 :: u417 :: u418 :: u419 :: u420 :: u421 :: u422 :: u423 :: u424 :: u425 :: u426 :: u427 :: u428 :: u429 :: u430 :: u431 :: u432 :: u433 :: u434 :: u435 :: u436 :: u437 :: u438 :: u439 :: u440 :: u441 :: u442 :: u443 :: u444 :: u445 :: u446 :: u447 :: u448 :: u449 :: u450 :: u451 :: u452 :: u453 :: u454 :: u455 :: u456 :: u457 :: u458 :: u459 :: u460 :: u461 :: u462 :: u463 :: u464 :: u465 :: u466 :: u467 :: u468 :: u469 :: u470 :: u471 :: u472 :: u473 :: u474 :: u475 :: u476 :: u477 :: u478 :: u479 :: u480 :: u481 :: u482 :: u483 :: u484 :: u485 :: [])) []) w')
    (hQ2 : d = false → ∀ {z23 z24 z25 z26 z27 z28 z29 z30 z31 z32 z33 z34 z142 z143 z144 z145 z146 z147 z148 z149 z150 z151 z152 z153 z154 z155 z156 z157 z158 z159 z160 z161 z162 z163 z164 z165 z166 z167 z168 z169 z170 z171 z172 z173 z174 z175 z176 z177 z178 z179 z180 z181 z182 z183 z184 z185 z186 z187 z188 z189 z190 z191 z192 z193 z194 z195 z196 z197 z198 z199 z200 z201 z202 z203 z204 z205 z206 z207 z208 z209 z210 z211 z212 z213 z214 z215 z216 z217 z218 z219 z220 z221 z222 z223 z224 z225 z226 z227 z228 z229 z230 z231 z232 z233 z234 z235 z236 z237 z238 z239 z240 z241 z242 z243 z244 z245 z246 z247 z248 z249 z250 z251 z252 z253 z254 z255 z256 z257 z258 z259 z260 z261 z262 z263 z264 z265 z266 : Value} w' aa' an' ac' ba' bn' bc' ca' cn' cc' da' dn' dc' ma' t' Qs' EA' EB' (ps qs : List Pk) (ch : Nat) fs, FM w' w0.heap.size g6 g8 g10 N ma' t' Qs' ma' EA' ma' EB' ua un uc us aa' an' ac' (aks ++ ps.map (mkT cn ch)) ba' bn' bc' (bs ++ qs.map (mkT cn ch)) ca' cn' cc' (cs ++ [ch]) da' dn' dc' (ds ++ [d]) → w0.grownBy w' none → CI room (i + 1) ma' t' Qs' ma' EA' ma' EB' ((us).map Pu.d) ((aks ++ ps.map (mkT cn ch)).map Tk.d) (fl ++ fs) (cs ++ [ch]) (ds ++ [d]) 0 → sel ((aks ++ ps.map (mkT cn ch)).map Tk.d) (fl ++ fs) = (bs ++ qs.map (mkT cn ch)).map Tk.d → Q .normal (Act.mk (List.toArray (u0 :: (.slice ja jn jc) :: u2 :: u3 :: u4 :: (.int .i64 N) :: (.pointer (some ⟨g6, 0, none⟩)) :: (.int .i64 0) :: (.pointer (some ⟨g8, 0, none⟩)) :: u9 :: (.pointer (some ⟨g10, 0, none⟩)) :: u11 :: u12 :: (.slice aa' an' ac') :: (.slice ba' bn' bc') :: (.slice ca' cn' cc') :: (.slice da' dn' dc') :: (.int .i64 0) :: (.int .i64 (i : Int)) :: u19 :: u20 :: u21 :: u22 :: z23 :: z24 :: z25 :: z26 :: z27 :: z28 :: z29 :: z30 :: z31 :: z32 :: z33 :: z34 :: u35 :: u36 :: u37 :: u38 :: u39 :: u40 :: u41 :: u42 :: u43 :: u44 :: u45 :: u46 :: u47 :: u48 :: u49 :: u50 :: u51 :: u52 :: u53 :: u54 :: u55 :: u56 :: u57 :: u58 :: u59 :: u60 :: u61 :: u62 :: u63 :: u64 :: u65 :: u66 :: u67 :: u68 :: u69 :: u70 :: u71 :: u72 :: u73 :: u74 :: u75 :: u76 :: u77 :: u78 :: u79 :: u80 :: u81 :: u82 :: u83 :: u84 :: u85 :: u86 :: u87 :: u88 :: u89 :: u90 :: u91 :: u92 :: u93 :: u94 :: u95 :: u96 :: u97 :: u98 :: u99 :: u100 :: u101 :: u102 :: u103 :: u104 :: u105 :: u106 :: u107 :: u108 :: u109 :: u110 :: u111 :: u112 :: u113 :: u114 :: u115 :: u116 :: u117 :: u118 :: u119 :: u120 :: u121 :: u122 :: u123 :: u124 :: u125 :: u126 :: u127 :: u128 :: u129 :: u130 :: u131 :: u132 :: u133 :: u134 :: u135 :: u136 :: u137 :: u138 :: u139 :: u140 :: u141 :: z142 :: z143 :: z144 :: z145 :: z146 :: z147 :: z148 :: z149 :: z150 :: z151 :: z152 :: z153 :: z154 :: z155 :: z156 :: z157 :: z158 :: z159 :: z160 :: z161 :: z162 :: z163 :: z164 :: z165 :: z166 :: z167 :: z168 :: z169 :: z170 :: z171 :: z172 :: z173 :: z174 :: z175 :: z176 :: z177 :: z178 :: z179 :: z180 :: z181 :: z182 :: z183 :: z184 :: z185 :: z186 :: z187 :: z188 :: z189 :: z190 :: z191 :: z192 :: z193 :: z194 :: z195 :: z196 :: z197 :: z198 :: z199 :: z200 :: z201 :: z202 :: z203 :: z204 :: z205 :: z206 :: z207 :: z208 :: z209 :: z210 :: z211 :: z212 :: z213 :: z214 :: z215 :: z216 :: z217 :: z218 :: z219 :: z220 :: z221 :: z222 :: z223 :: z224 :: z225 :: z226 :: z227 :: z228 :: z229 :: z230 :: z231 :: z232 :: z233 :: z234 :: z235 :: z236 :: z237 :: z238 :: z239 :: z240 :: z241 :: z242 :: z243 :: z244 :: z245 :: z246 :: z247 :: z248 :: z249 :: z250 :: z251 :: z252 :: z253 :: z254 :: z255 :: z256 :: z257 :: z258 :: z259 :: z260 :: z261 :: z262 :: z263 :: z264 :: z265 :: z266 :: u267 :: u268 :: u269 :: u270 :: u271 :: u272 :: u273 :: u274 :: u275 :: u276 :: u277 :: u278 :: u279 :: u280 :: u281 :: u282 :: u283 :: u284 :: u285 :: u286 :: u287 :: u288 :: u289 :: u290 :: u291 :: u292 :: u293 :: u294 :: u295 :: u296 :: u297 :: u298 :: u299 :: u300 :: u301 :: u302 :: u303 :: u304 :: u305 :: u306 :: u307 :: u308 :: u309 :: u310 :: u311 :: u312 :: u313 :: u314 :: u315 :: u316 :: u317 :: u318 :: u319 :: u320 :: u321 :: u322 :: u323 :: u324 :: u325 :: u326 :: u327 :: u328 :: u329 :: u330 :: u331 :: u332 :: u333 :: u334 :: u335 :: u336 :: u337 :: u338 :: u339 :: u340 :: u341 :: u342 :: u343 :: u344 :: u345 :: u346 :: u347 :: u348 :: u349 :: u350 :: u351 :: u352 :: u353 :: u354 :: u355 :: u356 :: u357 :: u358 :: u359 :: u360 :: u361 :: u362 :: u363 :: u364 :: u365 :: u366 :: u367 :: u368 :: u369 :: u370 :: u371 :: u372 :: u373 :: u374 :: u375 :: u376 :: u377 :: u378 :: u379 :: u380 :: u381 :: u382 :: u383 :: u384 :: u385 :: u386 :: u387 :: u388 :: u389 :: u390 :: u391 :: u392 :: u393 :: u394 :: u395 :: u396 :: u397 :: u398 :: u399 :: u400 :: u401 :: u402 :: u403 :: u404 :: u405 :: u406 :: u407 :: u408 :: u409 :: u410 :: u411 :: u412 :: u413 :: u414 :: u415 :: u416 :: u417 :: u418 :: u419 :: u420 :: u421 :: u422 :: u423 :: u424 :: u425 :: u426 :: u427 :: u428 :: u429 :: u430 :: u431 :: u432 :: u433 :: u434 :: u435 :: u436 :: u437 :: u438 :: u439 :: u440 :: u441 :: u442 :: u443 :: u444 :: u445 :: u446 :: u447 :: u448 :: u449 :: u450 :: u451 :: u452 :: u453 :: u454 :: u455 :: u456 :: u457 :: u458 :: u459 :: u460 :: u461 :: u462 :: u463 :: u464 :: u465 :: u466 :: u467 :: u468 :: u469 :: u470 :: u471 :: u472 :: u473 :: u474 :: u475 :: u476 :: u477 :: u478 :: u479 :: u480 :: u481 :: u482 :: u483 :: u484 :: u485 :: [])) []) w') :
    Code.wp Try.prog (tailR 28 (Try.f10.body.getD .skip)) Q (Act.mk (List.toArray (u0 :: (.slice ja jn jc) :: u2 :: u3 :: u4 :: (.int .i64 N) :: (.pointer (some ⟨g6, 0, none⟩)) :: u7 :: (.pointer (some ⟨g8, 0, none⟩)) :: u9 :: (.pointer (some ⟨g10, 0, none⟩)) :: u11 :: u12 :: (.slice aa an ac) :: (.slice ba bn bc) :: (.slice ca cn cc) :: (.slice da dn dc) :: (.int .i64 (mi : Int)) :: (.int .i64 (i : Int)) :: u19 :: u20 :: u21 :: u22 :: u23 :: u24 :: u25 :: u26 :: u27 :: u28 :: u29 :: u30 :: u31 :: u32 :: u33 :: u34 :: u35 :: u36 :: u37 :: u38 :: u39 :: u40 :: u41 :: u42 :: u43 :: u44 :: u45 :: u46 :: u47 :: u48 :: u49 :: u50 :: u51 :: u52 :: u53 :: u54 :: u55 :: u56 :: u57 :: u58 :: u59 :: u60 :: u61 :: u62 :: u63 :: u64 :: u65 :: u66 :: u67 :: u68 :: u69 :: u70 :: u71 :: u72 :: u73 :: u74 :: u75 :: u76 :: u77 :: u78 :: u79 :: u80 :: u81 :: u82 :: u83 :: u84 :: u85 :: u86 :: u87 :: u88 :: u89 :: u90 :: u91 :: u92 :: u93 :: u94 :: u95 :: u96 :: u97 :: u98 :: u99 :: u100 :: u101 :: u102 :: u103 :: u104 :: u105 :: u106 :: u107 :: u108 :: u109 :: u110 :: u111 :: u112 :: u113 :: u114 :: u115 :: u116 :: u117 :: u118 :: u119 :: u120 :: u121 :: u122 :: u123 :: u124 :: u125 :: u126 :: u127 :: u128 :: u129 :: u130 :: u131 :: u132 :: u133 :: u134 :: u135 :: u136 :: u137 :: u138 :: u139 :: u140 :: u141 :: u142 :: u143 :: u144 :: u145 :: u146 :: u147 :: u148 :: u149 :: u150 :: u151 :: u152 :: u153 :: u154 :: u155 :: u156 :: u157 :: u158 :: u159 :: u160 :: u161 :: u162 :: u163 :: u164 :: u165 :: u166 :: u167 :: u168 :: u169 :: u170 :: u171 :: u172 :: u173 :: u174 :: u175 :: u176 :: u177 :: u178 :: u179 :: u180 :: u181 :: u182 :: u183 :: u184 :: u185 :: u186 :: u187 :: u188 :: u189 :: u190 :: u191 :: u192 :: u193 :: u194 :: u195 :: u196 :: u197 :: u198 :: u199 :: u200 :: u201 :: u202 :: u203 :: u204 :: u205 :: u206 :: u207 :: u208 :: u209 :: u210 :: u211 :: u212 :: u213 :: u214 :: u215 :: u216 :: u217 :: u218 :: u219 :: u220 :: u221 :: u222 :: u223 :: u224 :: u225 :: u226 :: u227 :: u228 :: u229 :: u230 :: u231 :: u232 :: u233 :: u234 :: u235 :: u236 :: u237 :: u238 :: u239 :: u240 :: u241 :: u242 :: u243 :: u244 :: u245 :: u246 :: u247 :: u248 :: u249 :: u250 :: u251 :: u252 :: u253 :: u254 :: u255 :: u256 :: u257 :: u258 :: u259 :: u260 :: u261 :: u262 :: u263 :: u264 :: u265 :: u266 :: u267 :: u268 :: u269 :: u270 :: u271 :: u272 :: u273 :: u274 :: u275 :: u276 :: u277 :: u278 :: u279 :: u280 :: u281 :: u282 :: u283 :: u284 :: u285 :: u286 :: u287 :: u288 :: u289 :: u290 :: u291 :: u292 :: u293 :: u294 :: u295 :: u296 :: u297 :: u298 :: u299 :: u300 :: u301 :: u302 :: u303 :: u304 :: u305 :: u306 :: u307 :: u308 :: u309 :: u310 :: u311 :: u312 :: u313 :: u314 :: u315 :: u316 :: u317 :: u318 :: u319 :: u320 :: u321 :: u322 :: u323 :: u324 :: u325 :: u326 :: u327 :: u328 :: u329 :: u330 :: u331 :: u332 :: u333 :: u334 :: u335 :: u336 :: u337 :: u338 :: u339 :: u340 :: u341 :: u342 :: u343 :: u344 :: u345 :: u346 :: u347 :: u348 :: u349 :: u350 :: u351 :: u352 :: u353 :: u354 :: u355 :: u356 :: u357 :: u358 :: u359 :: u360 :: u361 :: u362 :: u363 :: u364 :: u365 :: u366 :: u367 :: u368 :: u369 :: u370 :: u371 :: u372 :: u373 :: u374 :: u375 :: u376 :: u377 :: u378 :: u379 :: u380 :: u381 :: u382 :: u383 :: u384 :: u385 :: u386 :: u387 :: u388 :: u389 :: u390 :: u391 :: u392 :: u393 :: u394 :: u395 :: u396 :: u397 :: u398 :: u399 :: u400 :: u401 :: u402 :: u403 :: u404 :: u405 :: u406 :: u407 :: u408 :: u409 :: u410 :: u411 :: u412 :: u413 :: u414 :: u415 :: u416 :: u417 :: u418 :: u419 :: u420 :: u421 :: u422 :: u423 :: u424 :: u425 :: u426 :: u427 :: u428 :: u429 :: u430 :: u431 :: u432 :: u433 :: u434 :: u435 :: u436 :: u437 :: u438 :: u439 :: u440 :: u441 :: u442 :: u443 :: u444 :: u445 :: u446 :: u447 :: u448 :: u449 :: u450 :: u451 :: u452 :: u453 :: u454 :: u455 :: u456 :: u457 :: u458 :: u459 :: u460 :: u461 :: u462 :: u463 :: u464 :: u465 :: u466 :: u467 :: u468 :: u469 :: u470 :: u471 :: u472 :: u473 :: u474 :: u475 :: u476 :: u477 :: u478 :: u479 :: u480 :: u481 :: u482 :: u483 :: u484 :: u485 :: [])) []) w := by
  let pq : Exit → Act → World → Prop := bodyPost Try.prog Try.f10 (fun _ _ => True)
  conv => enter [2]; whnf
  have HQ1 : Hid _ := @hQ1
  have HQ2 : Hid _ := @hQ2
  clear hQ1 hQ2
  obtain ⟨ch, t', ma', ow, fi, Qs', Y, EA', EB', PA, PB, lo, fs, hNX, hYl, hE, hV, hHA, hHB, hlo, hC, hsel, hfl⟩ := hI.step hN hi d
  -- the measures
  have m1 : us.length = un := by have := hM.u.len; rw [List.length_map] at this; exact this
  have m2 : aks.length = an := by have := hM.a.len; rw [List.length_map] at this; exact this
  have m3 : bs.length = bn := by have := hM.b.len; rw [List.length_map] at this; exact this
  have m4 : cs.length = cn := by have := hM.c.len; rw [List.length_map] at this; exact this
  have m5 : ds.length = dn := by have := hM.d.len; rw [List.length_map] at this; exact this
  have m6 := hC.lenA
  rw [List.length_append, List.length_map, List.length_map, List.length_map] at m6
  have m7 := sel_len (aks.map Tk.d) fl
  rw [hB, List.length_map, List.length_map] at m7
  have m8 := hI.lc
  have m9 := hI.mil
  have hPB : d = false → PB.length ≤ 100000 := fun e => by
    have h := sel_len (PA.map (tlk cs.length ch)) fs
    rw [hsel, e, if_neg (by decide), List.length_map, List.length_map] at h
    omega
  have hPA : PA.length ≤ 100000 := by omega
  have han : an ≤ 100000 := by omega
  have hbn : bn ≤ 100000 := by omega
  have hcn : cn ≤ 1000 := by omega
  have hdn : dn ≤ 1000 := by omega
  have hmi : mi ≤ 300 := by omega
  have hQ7 := (seD_iff.1 hC.se).2.2.2.1
  have hEA7 := hC.ea.1
  have hEB7 : EB'.length = 7 := by
    rcases hHB.p with ⟨_, _, _, _, _, _, _, _, e⟩ | ⟨_, e1, _, _, _, _, _, _, _, e⟩ | ⟨_, _, _, _, _, _, e, _⟩ | ⟨_, _, _, _, _, _, e, _⟩
    · cases e
    · exact absurd e e1
    · rw [← e]; exact hI.eb.1
    · rw [← e, List.length_set]; exact hI.eb.1
  have hlo' : bs ≠ [] → lo = (mi : Int) := fun e => hlo (by rw [hB]; exact fun e2 => e (List.map_eq_nil_iff.1 e2))
  have hS := sel_app (aks.map Tk.d) fl hI.fz (PA.map (tlk cs.length ch)) fs
  rw [hB, hsel] at hS
  rw [m4] at hC hS
  have hC1 : d = true → CI room (i + 1) ma' t' Qs' ma' EA' MB EB (us.map Pu.d) (aks.map Tk.d ++ PA.map (tlk cn ch)) (fl ++ fs) (cs ++ [ch]) (ds ++ [d]) (mi + 1) ∧ sel (aks.map Tk.d ++ PA.map (tlk cn ch)) (fl ++ fs) = bs.map Tk.d := fun e => by
    rw [if_pos e, if_pos e, if_pos e] at hC
    rw [if_pos e, List.append_nil] at hS
    exact ⟨hC, hS⟩
  have hC2 : d = false → CI room (i + 1) ma' t' Qs' ma' EA' ma' EB' (us.map Pu.d) (aks.map Tk.d ++ PA.map (tlk cn ch)) (fl ++ fs) (cs ++ [ch]) (ds ++ [d]) 0 ∧ sel (aks.map Tk.d ++ PA.map (tlk cn ch)) (fl ++ fs) = bs.map Tk.d ++ PB.map (tlk cn ch) := fun e => by
    have e : ¬ d = true := by rw [e]; decide
    rw [if_neg e, if_neg e, if_neg e] at hC
    rw [if_neg e] at hS
    exact ⟨hC, hS⟩
  have HC1 : Hid _ := hC1
  have HC2 : Hid _ := hC2
  have HM0 : Hid _ := hM
  have HJ : Hid _ := hJ
  have HD : Hid _ := hd
  have HPB : Hid _ := hPB
  have HLO : Hid _ := hlo'
  have HHA : Hid _ := hHA
  have HHB : Hid _ := hHB
  have HNX : Hid _ := hNX
  have HV : Hid _ := hV
  have HE : Hid _ := hE
  have HYL : Hid _ := hYl
  have HQ7 : Hid _ := hQ7
  have HA7 : Hid _ := hEA7
  have HB7 : Hid _ := hEB7
  have HPA : Hid _ := hPA
  obtain ⟨a1, c1, l1, q1, b6, hS6⟩ := hM.se
  clear hC hS hsel hfl hB hI hC1 hC2 m1 m2 m3 m4 m5 m6 m7 m8 m9 hun hM hJ hd hPB hlo' hlo hHA hHB hNX hV hE hYl hN hQ7 hEA7 hEB7 hPA
  have i5 := Try.info_se
  have i4 := Try.info_li
  have ih := Try.info_hd
  refine wp_seq_k fun K1 hK1 => ?_
  have HK1 : Hid _ := hK1
  clear hK1
  go_wp2
  refine HK1.out _ _ ?_
  clear HK1
  refine wp_seq_k fun K2 hK2 => ?_
  have HK2 : Hid _ := hK2
  clear hK2
  have s0 : True := trivial
  go_wp2_with (first
    | (have _t := s0; clear s0; refine wpList_ldX _ rfl _ (.tmp 6) rfl g6 _ rfl b6 Try.underlying38 i5 ?_; have s1 : True := trivial)
    | (go_at_call 34; have _t := s1; clear s1; refine (next_any 77 N ma (t : Int) (i : Int) 77 N ma' (t' : Int) Qs' Y 0 a1 7 c1 Qs w hS6.rd HNX.out).mono ?_; rintro e w2 ⟨a2, n2, c2, q2, ya, yn, yc, rfl, hK2, ⟨hA2, _⟩, g2⟩; have b62 := b6.keep g2 (by simp); have s2 : True := trivial)
    | (have _t := s2; clear s2; refine wpList_stX _ rfl _ (.tmp 6) (.tmp 146) rfl g6 _ _ rfl rfl b62 i5 rfl (by simp [Value.oneCell']) ?_; intro w3 b63 u3))
  have hn2 : n2 = 7 := by have := hK2.len; have := HQ7.out; omega
  subst hn2
  have hty3 := b62.tyo1
  have hM3 := (HM0.out.keep g2).wS u3 ⟨a2, c2, _, q2, b63, hK2.bx b62 (by decide) (by decide) (by decide) u3⟩
  have hA3 := hA2.tyO u3 hty3 (by decide)
  have G3 := grown_far (grown_trans G g2) u3 (fun q e => by have e := Option.some.inj e; omega)
  have hyn : (yn : Int) = N := by have := hA2.len; have := HYL.out; omega
  have HM3 : Hid _ := hM3
  clear hK2 hA2 b62 u3 b6 hS6 hty3 hM3 b63
  refine HK2.out _ _ ?_
  clear HK2
  refine wp_seq_k fun K3 hK3 => ?_
  have HK3 : Hid _ := hK3
  clear hK3
  go_wp2
  clear hyn
  refine HK3.out _ _ ?_
  clear HK3
  refine wp_seq_k fun K4 hK4 => ?_
  have HK4 : Hid _ := hK4
  clear hK4
  have s0 : True := trivial
  go_wp2_with (first
    | (go_at_call 20; have _t := s0; clear s0; refine (unpack_any _ _ _ _ w3 hA3.rd).mono ?_; rintro e w4 ⟨da9, dn9, dc9, rfl, hA4, g4⟩; rw [HV.out, HE.out]; have bn9 := BxS.new w4 28 (heA 0 0 0 0 0); have gn := World.grownBy_alloc w4 (.cells (heA 0 0 0 0 0) 28) none; unfold heA at bn9 gn; generalize hw5 : w4.alloc (.cells #[.int .i64 0, .int .i64 0, .int .i64 0, .int .i64 0, .int .i64 0] 28) = w5 at bn9 gn; have s1 : True := trivial)
    | (have _t := s1; clear s1; unfold heA; refine wpList_stX _ rfl _ (.tmp 24) (.tmp 160) rfl w4.heap.size _ _ rfl rfl bn9 ih rfl (by simp [Value.oneCell']) ?_; intro w6 b24 u6))
  have z4 := g4.size
  have Y6 : w3.grownBy w6 none := grown_far (grown_trans g4 gn) u6 (fun q e => by have e := Option.some.inj e; omega)
  have hM6 := HM3.out.keep Y6
  have hA6 := hA3.keep Y6
  have G6 := grown_trans G3 Y6
  obtain ⟨g24, hg24⟩ : ∃ g24, w4.heap.size = g24 := ⟨_, rfl⟩
  rw [hg24] at b24 ⊢
  clear hw5 bn9 gn u6 hA3 hA4 HM3 Y6 G3 hg24 z4 g4
  refine HK4.out _ _ ?_
  clear HK4
  refine wp_seq_k fun K5 hK5 => ?_
  have HK5 : Hid _ := hK5
  clear hK5
  go_wp2
  refine HK5.out _ _ ?_
  clear HK5
  refine wp_seq_k fun K6 hK6 => ?_
  have HK6 : Hid _ := hK6
  clear hK6
  go_wp2
  refine HK6.out _ _ ?_
  clear HK6
  refine wp_seq_k fun K7 hK7 => ?_
  have HK7 : Hid _ := hK7
  clear hK7
  go_wp2
  refine HK7.out _ _ ?_
  clear HK7
  refine wp_seq_k fun K8 hK8 => ?_
  have HK8 : Hid _ := hK8
  clear hK8
  obtain ⟨la, lc, ll, es, b8, hL⟩ := hM6.la
  have HM6 : Hid _ := hM6
  clear hM6
  have s0 : True := trivial
  go_wp2_with (first
    | (have _t := s0; clear s0; refine wpList_ldX _ rfl _ (.tmp 8) rfl g8 _ rfl b8 Try.underlying43 i4 ?_; have s1 : True := trivial)
    | (go_at_call 37; have _t := s1; clear s1; refine (hear_any 77 N MA la 7 lc EA ya yn yc Y w6 hL.rd hA6.rd 77 N ma' (ch : Int) EA' PA 0 i 0 HHA.out).mono ?_; rintro e w7 ⟨xa, xn, xc, ex, pa, pn, pc, ps, rfl, hX, hP, hpd, hdp, g7⟩; have b87 := b8.keep g7 (by simp); have s2 : True := trivial)
    | (have _t := s2; clear s2; refine wpList_stX _ rfl _ (.tmp 8) (.tmp 170) rfl g8 _ _ rfl rfl b87 i4 rfl (by simp [Value.oneCell']) ?_; intro w8 b88 u8))
  have hxn : xn = 7 := by have := hX.len; have := HA7.out; omega
  subst hxn
  have hty := b87.tyo1
  have hM8 := (HM6.out.keep g7).wA u8 ⟨xa, xc, _, ex, b88, hX.tyO u8 hty (by decide) (by decide)⟩
  have hP8 := hP.tyO u8 hty (by decide) (by decide)
  have hY8 := (hA6.keep g7).tyO u8 hty (by decide)
  have b248 := (b24.keep g7 (by simp)).tyO u8 hty (by decide)
  have G8 := grown_far (grown_trans G6 g7) u8 (fun q e => by have e := Option.some.inj e; omega)
  have hpn : pn ≤ 100000 := by have h1 := hP.len; have h2 := HPA.out; rw [← hpd, List.length_map] at h2; rw [List.length_map] at h1; omega
  have hap : ∀ y, y ∈ aks → ∀ p, p ∈ ps → ∀ g, y.p.rw.v.ownBlock = some g → p.rw.v.ownBlock ≠ some g := fun y hy p hp g e => (HM6.out.a.each _ (List.mem_map_of_mem hy)).later2 (hP.each _ (List.mem_map_of_mem hp)) (Nat.le_refl _) g e
  have HAP : Hid _ := hap
  have HPD : Hid _ := hpd
  have zG := G6.size
  clear hX hP b8 b87 hL u8 hty hap hpd b24 hA6 HM6
  refine HK8.out _ _ ?_
  clear HK8
  refine wp_seq_k fun K9 hK9 => ?_
  have HK9 : Hid _ := hK9
  clear hK9
  go_wp2
  refine HK9.out _ _ ?_
  clear HK9
  refine wp_seq_k fun K10 hK10 => ?_
  have HK10 : Hid _ := hK10
  clear hK10
  go_wp2
  refine HK10.out _ _ ?_
  clear HK10
  refine ca_t41 _ w0 w8 g6 g8 g10 N ma' t' Qs' ma' EA' MB EB ua un uc us aa an ac aks ba bn bc bs ca cn cc cs da dn dc ds hM8 G8 ya yn yc _ Y hY8 g24 _ b248 i cn ch mi ma' lo EB' PB HHB.out HB7.out HLO.out hbn h10 ja jn jc F HJ.out d HD.out hi hmi hcn hdn HPB.out ps pa pn pc w6.heap.size hP8 zG hpn han HAP.out ow fi ma rfl ?_ ?_
  · intro ed
    intros
    rename_i w9 aa' an' ac' ca' cn' cc' da' dn' dc' hM9 G9
    obtain ⟨k1, k2⟩ := HC1.out ed
    exact HQ1.out ed w9 _ _ _ _ _ _ _ _ _ ma' t' Qs' EA' ps ch fs hM9 G9 (by rw [mkT_d cn ch aks ps PA HPD.out]; exact k1) (by rw [mkT_d cn ch aks ps PA HPD.out]; exact k2)
  · intro ed
    intros
    rename_i w9 aa' an' ac' ba' bn' bc' ca' cn' cc' da' dn' dc' qs hqs hM9 G9
    obtain ⟨k1, k2⟩ := HC2.out ed
    exact HQ2.out ed w9 _ _ _ _ _ _ _ _ _ _ _ _ ma' t' Qs' EA' EB' ps qs ch fs hM9 G9 (by rw [mkT_d cn ch aks ps PA HPD.out]; exact k1) (by rw [mkT_d cn ch aks ps PA HPD.out, mkT_d cn ch bs qs PB hqs]; exact k2)
end Go.Proofs.Ytlmddjkplnbadaa
