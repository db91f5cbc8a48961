import Derived.Test.YtlmddjkplnbadaaNWk
import Derived.Test.YtlmddjkplnbadaaNWA
import Derived.Test.YtlmddjkplnbadaaNT
import Derived.Test.YtlmddjkplnbadaaNOn2
import Derived.Test.YtlmddjkplnbadaaHAI
import Derived.Test.YtlmddjkplnbadaaNWB
namespace Go.Proofs.Ytlmddjkplnbadaa
open Go.RowKit
set_option maxRecDepth 100000
set_option linter.unusedVariables false
set_option linter.unusedSimpArgs false

set_option maxHeartbeats 64000000 in
/-- the last loop, and the verdict -/
theorem ca_t74 {u0 u1 u2 u3 u4 u6 u7 u8 u9 u10 u11 u12 u17 u18 u19 u20 u21 u22 u23 u24 u25 u26 u27 u28 u29 u30 u31 u32 u33 u34 u35 u36 u37 u38 u39 u40 u41 u42 u43 u44 u45 u46 u47 u48 u49 u50 u51 u52 u53 u54 u55 u56 u57 u58 u59 u60 u61 u62 u63 u64 u65 u66 u67 u68 u69 u70 u71 u72 u73 u74 u75 u76 u77 u78 u79 u80 u81 u82 u83 u84 u85 u86 u87 u88 u89 u90 u91 u92 u93 u94 u95 u96 u97 u98 u99 u100 u101 u102 u103 u104 u105 u106 u107 u108 u109 u110 u111 u112 u113 u114 u115 u116 u117 u118 u119 u120 u121 u122 u123 u124 u125 u126 u127 u128 u129 u130 u131 u132 u133 u134 u135 u136 u137 u138 u139 u140 u141 u142 u143 u144 u145 u146 u147 u148 u149 u150 u151 u152 u153 u154 u155 u156 u157 u158 u159 u160 u161 u162 u163 u164 u165 u166 u167 u168 u169 u170 u171 u172 u173 u174 u175 u176 u177 u178 u179 u180 u181 u182 u183 u184 u185 u186 u187 u188 u189 u190 u191 u192 u193 u194 u195 u196 u197 u198 u199 u200 u201 u202 u203 u204 u205 u206 u207 u208 u209 u210 u211 u212 u213 u214 u215 u216 u217 u218 u219 u220 u221 u222 u223 u224 u225 u226 u227 u228 u229 u230 u231 u232 u233 u234 u235 u236 u237 u238 u239 u240 u241 u242 u243 u244 u245 u246 u247 u248 u249 u250 u251 u252 u253 u254 u255 u256 u257 u258 u259 u260 u261 u262 u263 u264 u265 u266 u267 u268 u269 u270 u271 u272 u273 u274 u275 u276 u277 u278 u279 u280 u281 u282 u283 u284 u285 u286 u287 u288 u289 u290 u291 u292 u293 u294 u295 u296 u297 u298 u299 u300 u301 u302 u303 u304 u305 u306 u307 u308 u309 u310 u311 u312 u313 u314 u315 u316 u317 u318 u319 u320 u321 u322 u323 u324 u325 u326 u327 u328 u329 u330 u331 u332 u333 u334 u335 u336 u337 u338 u339 u340 u341 u342 u343 u344 u345 u346 u347 u348 u349 u350 u351 u352 u353 u354 u355 u356 u357 u358 u359 u360 u361 u362 u363 u364 u365 u366 u367 u368 u369 u370 u371 u372 u373 u374 u375 u376 u377 u378 u379 u380 u381 u382 u383 u384 u385 u386 u387 u388 u389 u390 u391 u392 u393 u394 u395 u396 u397 u398 u399 u400 u401 u402 u403 u404 u405 u406 u407 u408 u409 u410 u411 u412 u413 u414 u415 u416 u417 u418 u419 u420 u421 u422 u423 u424 u425 u426 u427 u428 u429 u430 u431 u432 u433 u434 u435 u436 u437 u438 u439 u440 u441 u442 u443 u444 u445 u446 u447 u448 u449 u450 u451 u452 u453 u454 u455 u456 u457 u458 u459 u460 u461 u462 u463 u464 u465 u466 u467 u468 u469 u470 u471 u472 u473 u474 u475 u476 u477 u478 u479 u480 u481 u482 u483 u484 u485 : Value} (w0 w : World) (lo room : Nat) (aa ba ca da : Option Addr) (an ac bn bc cn cc dc : Nat) (N : Int) (aks bs : List Tk) (cs : List Nat) (ds fl : List Bool) (hA : OwT 79 8 w lo aa an ac (aks.map Tk.th)) (hB : OwT 79 8 w lo ba bn bc (bs.map Tk.th)) (hC : OwT 3 1 w lo ca cn cc (cs.map Ti)) (hD : OwT 4 1 w lo da cn dc (ds.map Tb)) (hN : N = (room : Int) + 12) (hr : 1 ≤ room ∧ room ≤ 60) (hcn : cn ≤ 1000) (han : an ≤ 100000) (hbn : bn ≤ 100000) (hfr : ∀ x, x ∈ aks → x.fr < cn) (hpn : ∀ x, x ∈ aks → x.p.n ≤ 90)
    (hz : fl.length = (aks.map Tk.d).length) (hsel : sel (aks.map Tk.d) fl = bs.map Tk.d) (hfI : ∀ (k : Nat) (x : Tl) (f : Bool), (aks.map Tk.d)[k]? = some x → fl[k]? = some f → FlI cs ds room x f) (hct : (aks.map Tk.d).Pairwise (fun x y => x.p.ct ≠ y.p.ct)) (G : w0.grownBy w none) :
    Code.wp Try.prog (tailR 74 (Try.f10.body.getD .skip)) (bodyPost Try.prog Try.f10 (fun e w' => e = .returned (.bool true) ∧ w0.grownBy w' none)) (Act.mk (List.toArray (u0 :: u1 :: u2 :: u3 :: u4 :: (.int .i64 N) :: u6 :: u7 :: u8 :: u9 :: u10 :: u11 :: u12 :: (.slice aa an ac) :: (.slice ba bn bc) :: (.slice ca cn cc) :: (.slice da cn dc) :: u17 :: u18 :: u19 :: u20 :: u21 :: u22 :: u23 :: u24 :: u25 :: u26 :: u27 :: u28 :: u29 :: u30 :: u31 :: u32 :: u33 :: u34 :: u35 :: u36 :: u37 :: u38 :: u39 :: u40 :: u41 :: u42 :: u43 :: u44 :: u45 :: u46 :: u47 :: u48 :: u49 :: u50 :: u51 :: u52 :: u53 :: u54 :: u55 :: u56 :: u57 :: u58 :: u59 :: u60 :: u61 :: u62 :: u63 :: u64 :: u65 :: u66 :: u67 :: u68 :: u69 :: u70 :: u71 :: u72 :: u73 :: u74 :: u75 :: u76 :: u77 :: u78 :: u79 :: u80 :: u81 :: u82 :: u83 :: u84 :: u85 :: u86 :: u87 :: u88 :: u89 :: u90 :: u91 :: u92 :: u93 :: u94 :: u95 :: u96 :: u97 :: u98 :: u99 :: u100 :: u101 :: u102 :: u103 :: u104 :: u105 :: u106 :: u107 :: u108 :: u109 :: u110 :: u111 :: u112 :: u113 :: u114 :: u115 :: u116 :: u117 :: u118 :: u119 :: u120 :: u121 :: u122 :: u123 :: u124 :: u125 :: u126 :: u127 :: u128 :: u129 :: u130 :: u131 :: u132 :: u133 :: u134 :: u135 :: u136 :: u137 :: u138 :: u139 :: u140 :: u141 :: u142 :: u143 :: u144 :: u145 :: u146 :: u147 :: u148 :: u149 :: u150 :: u151 :: u152 :: u153 :: u154 :: u155 :: u156 :: u157 :: u158 :: u159 :: u160 :: u161 :: u162 :: u163 :: u164 :: u165 :: u166 :: u167 :: u168 :: u169 :: u170 :: u171 :: u172 :: u173 :: u174 :: u175 :: u176 :: u177 :: u178 :: u179 :: u180 :: u181 :: u182 :: u183 :: u184 :: u185 :: u186 :: u187 :: u188 :: u189 :: u190 :: u191 :: u192 :: u193 :: u194 :: u195 :: u196 :: u197 :: u198 :: u199 :: u200 :: u201 :: u202 :: u203 :: u204 :: u205 :: u206 :: u207 :: u208 :: u209 :: u210 :: u211 :: u212 :: u213 :: u214 :: u215 :: u216 :: u217 :: u218 :: u219 :: u220 :: u221 :: u222 :: u223 :: u224 :: u225 :: u226 :: u227 :: u228 :: u229 :: u230 :: u231 :: u232 :: u233 :: u234 :: u235 :: u236 :: u237 :: u238 :: u239 :: u240 :: u241 :: u242 :: u243 :: u244 :: u245 :: u246 :: u247 :: u248 :: u249 :: u250 :: u251 :: u252 :: u253 :: u254 :: u255 :: u256 :: u257 :: u258 :: u259 :: u260 :: u261 :: u262 :: u263 :: u264 :: u265 :: u266 :: u267 :: u268 :: u269 :: u270 :: u271 :: u272 :: u273 :: u274 :: u275 :: u276 :: u277 :: u278 :: u279 :: u280 :: u281 :: u282 :: u283 :: u284 :: u285 :: u286 :: u287 :: u288 :: u289 :: u290 :: u291 :: u292 :: u293 :: u294 :: u295 :: u296 :: u297 :: u298 :: u299 :: u300 :: u301 :: u302 :: u303 :: u304 :: u305 :: u306 :: u307 :: u308 :: u309 :: u310 :: u311 :: u312 :: u313 :: u314 :: u315 :: u316 :: u317 :: u318 :: u319 :: u320 :: u321 :: u322 :: u323 :: u324 :: u325 :: u326 :: u327 :: u328 :: u329 :: u330 :: u331 :: u332 :: u333 :: u334 :: u335 :: u336 :: u337 :: u338 :: u339 :: u340 :: u341 :: u342 :: u343 :: u344 :: u345 :: u346 :: u347 :: u348 :: u349 :: u350 :: u351 :: u352 :: u353 :: u354 :: u355 :: u356 :: u357 :: u358 :: u359 :: u360 :: u361 :: u362 :: u363 :: u364 :: u365 :: u366 :: u367 :: u368 :: u369 :: u370 :: u371 :: u372 :: u373 :: u374 :: u375 :: u376 :: u377 :: u378 :: u379 :: u380 :: u381 :: u382 :: u383 :: u384 :: u385 :: u386 :: u387 :: u388 :: u389 :: u390 :: u391 :: u392 :: u393 :: u394 :: u395 :: u396 :: u397 :: u398 :: u399 :: u400 :: u401 :: u402 :: u403 :: u404 :: u405 :: u406 :: u407 :: u408 :: u409 :: u410 :: u411 :: u412 :: u413 :: u414 :: u415 :: u416 :: u417 :: u418 :: u419 :: u420 :: u421 :: u422 :: u423 :: u424 :: u425 :: u426 :: u427 :: u428 :: u429 :: u430 :: u431 :: u432 :: u433 :: u434 :: u435 :: u436 :: u437 :: u438 :: u439 :: u440 :: u441 :: u442 :: u443 :: u444 :: u445 :: u446 :: u447 :: u448 :: u449 :: u450 :: u451 :: u452 :: u453 :: u454 :: u455 :: u456 :: u457 :: u458 :: u459 :: u460 :: u461 :: u462 :: u463 :: u464 :: u465 :: u466 :: u467 :: u468 :: u469 :: u470 :: u471 :: u472 :: u473 :: u474 :: u475 :: u476 :: u477 :: u478 :: u479 :: u480 :: u481 :: u482 :: u483 :: u484 :: u485 :: [])) []) w := by
  conv => enter [2]; whnf
  have m3 : aks.length = an := by have := hA.len; rw [List.length_map] at this; exact this
  have m4 : bs.length = bn := by have := hB.len; rw [List.length_map] at this; exact this
  have HS : Hid _ := hsel
  have HI : Hid _ := hfI
  have HC : Hid _ := hct
  have HZ : Hid _ := hz
  have HN : Hid _ := hN
  have HFR : Hid _ := hfr
  have HPN : Hid _ := hpn
  have M3 : Hid _ := m3
  have M4 : Hid _ := m4
  clear hsel hfI hct hz hN hfr hpn m3 m4
  refine wp_seq_k fun K1 hK1 => ?_
  have HK1 : Hid _ := hK1
  clear hK1
  go_wp2
  refine HK1.out _ _ ?_
  clear HK1
  refine wp_seq_k fun K2 hK2 => ?_
  have HK2 : Hid _ := hK2
  clear hK2
  refine wp_seq_k fun K3 hK3 => ?_
  have HK3 : Hid _ := hK3
  clear hK3
  go_wp2
  refine HK3.out _ _ ?_
  clear HK3
  go_wp2
  go_loopw [40, 41] (fun kv jv wr => ∃ (j k : Nat), j ≤ an ∧ jv = .int .i64 j ∧ kv = .int .i64 k ∧ Hid (k = (sel ((aks.map Tk.d).take j) (fl.take j)).length) ∧ w.grownBy wr none) (fun _ jv _ => an - (intOf jv).toNat)
  case atStart => exact ⟨0, 0, Nat.zero_le _, rfl, rfl, rfl, World.grownBy.refl _ _⟩
  case round =>
    obtain ⟨j, k, hj, rfl, rfl, HK, Gr⟩ := hrel
    have hkb : k ≤ 100000 := by
      have h1 := HK.out
      have h2 := sel_len ((aks.map Tk.d).take j) (fl.take j)
      rw [List.length_take, List.length_map] at h2
      have := M3.out
      omega
    by_cases hlt : j < an
    · have lj : (j : Int) < (an : Int) := by omega
      obtain ⟨x, hx⟩ : ∃ x, aks[j]? = some x := ⟨aks[j]'(by have := M3.out; omega), List.getElem?_eq_getElem _⟩
      obtain ⟨f, hf⟩ : ∃ f, fl[j]? = some f := ⟨fl[j]'(by have := M3.out; have h := HZ.out; rw [List.length_map] at h; omega), List.getElem?_eq_getElem _⟩
      have hxd : (aks.map Tk.d)[j]? = some x.d := by rw [List.getElem?_map, hx]; rfl
      have hxm := List.mem_of_getElem? hx
      have hxf := HFR.out x hxm
      obtain ⟨ga, hga⟩ := hA.someT (by omega)
      obtain ⟨gc, hgc⟩ := hC.someT (by omega)
      obtain ⟨gd, hgd⟩ := hD.someT (by omega)
      subst hga hgc hgd
      obtain ⟨q1, q2⟩ := sel_at (aks.map Tk.d) fl HZ.out j x.d f hxd hf
      rw [HS.out, ← HK.out] at q1 q2
      have hT : f = true → ∃ y, bs[k]? = some y ∧ y.d = x.d := fun e => by
        have h := (q1 e).1
        rw [List.getElem?_map] at h
        cases hb : bs[k]? with
        | none => rw [hb] at h; cases h
        | some y => rw [hb] at h; exact ⟨y, rfl, Option.some.inj h⟩
      have hNo : f = false → ∀ y, bs[k]? = some y → y.p.ct ≠ x.p.ct := fun e y hy => by
        have h := (q2 e).2 y.d (by rw [List.getElem?_map, hy]; rfl)
        obtain ⟨i, hi, hi2⟩ := List.mem_iff_getElem.1 h
        rw [List.length_drop] at hi
        rw [List.getElem_drop] at hi2
        have hp := List.pairwise_iff_getElem.1 HC.out j (j + 1 + i) (by omega) (by omega) (by omega)
        have e1 : (aks.map Tk.d)[j]'(by omega) = x.d := by
          have := hxd
          rw [List.getElem?_eq_getElem (by omega)] at this
          exact Option.some.inj this
        rw [hi2, e1] at hp
        exact fun e9 => hp e9.symm
      have HK2 : Hid ((if f = true then k + 1 else k) = (sel ((aks.map Tk.d).take (j + 1)) (fl.take (j + 1))).length) := by
        show _ = _
        cases f with
        | true => rw [if_pos rfl, (q1 rfl).2]
        | false => rw [if_neg (by decide), (q2 rfl).1]
      have hFl := HI.out j x.d f hxd hf
      clear q1 q2
      refine wp_seq_k fun K4 hK4 => ?_
      have HK4 : Hid _ := hK4
      clear hK4
      go_wp2
      refine HK4.out _ _ ?_
      clear HK4
      refine ca_t78 _ wr lo ga an ac gc cn cc gd dc k j room ba bn bc N x f aks bs cs ds (hA.keep Gr) (hB.keep Gr) (hC.keep Gr) (hD.keep Gr) hx hxf HN.out hr hkb hcn (HPN.out x hxm) han hbn hFl hT hNo (fun c a a' wz e h => by cases a; cases a'; cases e; exact h) ?_
      intros
      rename_i w7 G7
      refine ⟨?_, ?_⟩
      · repeat apply Exists.intro
        refine ⟨?_, rfl⟩
        exact ⟨j + 1, if f = true then k + 1 else k, by omega, rfl, rfl, HK2, grown_trans Gr G7⟩
      · simp [intOf] <;> omega
    · obtain rfl : j = an := by omega
      have hkn : k = bn := by
        have h := HK.out
        have h1 := HZ.out
        rw [List.length_map] at h1
        have h3 := M3.out
        rw [List.take_of_length_le (by rw [List.length_map]; omega), List.take_of_length_le (by omega), HS.out, List.length_map, M4.out] at h
        exact h
      subst hkn
      have lj : ¬ (j : Int) < (j : Int) := by omega
      go_wp2
      refine HK2.out _ _ ?_
      clear HK2
      go_wp2
      go_ret
      exact ⟨rfl, grown_trans G Gr⟩

theorem smB_all (Qs : List Qd) : ∀ n, smB Qs n = false → ∀ c, c < n → (Qs.getD c qd0).P.length = 0 := by
  intro n
  induction n with
  | zero => intro _ c h; omega
  | succ n ih =>
    intro h c hc
    rw [smB_succ, Bool.or_eq_false_iff] at h
    rcases Nat.lt_or_ge c n with h1 | h1
    · exact ih h.1 c h1
    · have e : c = n := by omega
      have := of_decide_eq_false h.2
      rw [e]; omega
set_option maxHeartbeats 64000000 in
/-- whether all is quiet -/
theorem ca_t67 {u0 u1 u2 u3 u4 u7 u8 u9 u10 u11 u17 u18 u19 u20 u21 u22 u23 u24 u25 u26 u27 u28 u29 u30 u31 u32 u33 u34 u35 u36 u37 u38 u39 u40 u41 u42 u43 u44 u45 u46 u47 u48 u49 u50 u51 u52 u53 u54 u55 u56 u57 u58 u59 u60 u61 u62 u63 u64 u65 u66 u67 u68 u69 u70 u71 u72 u73 u74 u75 u76 u77 u78 u79 u80 u81 u82 u83 u84 u85 u86 u87 u88 u89 u90 u91 u92 u93 u94 u95 u96 u97 u98 u99 u100 u101 u102 u103 u104 u105 u106 u107 u108 u109 u110 u111 u112 u113 u114 u115 u116 u117 u118 u119 u120 u121 u122 u123 u124 u125 u126 u127 u128 u129 u130 u131 u132 u133 u134 u135 u136 u137 u138 u139 u140 u141 u142 u143 u144 u145 u146 u147 u148 u149 u150 u151 u152 u153 u154 u155 u156 u157 u158 u159 u160 u161 u162 u163 u164 u165 u166 u167 u168 u169 u170 u171 u172 u173 u174 u175 u176 u177 u178 u179 u180 u181 u182 u183 u184 u185 u186 u187 u188 u189 u190 u191 u192 u193 u194 u195 u196 u197 u198 u199 u200 u201 u202 u203 u204 u205 u206 u207 u208 u209 u210 u211 u212 u213 u214 u215 u216 u217 u218 u219 u220 u221 u222 u223 u224 u225 u226 u227 u228 u229 u230 u231 u232 u233 u234 u235 u236 u237 u238 u239 u240 u241 u242 u243 u244 u245 u246 u247 u248 u249 u250 u251 u252 u253 u254 u255 u256 u257 u258 u259 u260 u261 u262 u263 u264 u265 u266 u267 u268 u269 u270 u271 u272 u273 u274 u275 u276 u277 u278 u279 u280 u281 u282 u283 u284 u285 u286 u287 u288 u289 u290 u291 u292 u293 u294 u295 u296 u297 u298 u299 u300 u301 u302 u303 u304 u305 u306 u307 u308 u309 u310 u311 u312 u313 u314 u315 u316 u317 u318 u319 u320 u321 u322 u323 u324 u325 u326 u327 u328 u329 u330 u331 u332 u333 u334 u335 u336 u337 u338 u339 u340 u341 u342 u343 u344 u345 u346 u347 u348 u349 u350 u351 u352 u353 u354 u355 u356 u357 u358 u359 u360 u361 u362 u363 u364 u365 u366 u367 u368 u369 u370 u371 u372 u373 u374 u375 u376 u377 u378 u379 u380 u381 u382 u383 u384 u385 u386 u387 u388 u389 u390 u391 u392 u393 u394 u395 u396 u397 u398 u399 u400 u401 u402 u403 u404 u405 u406 u407 u408 u409 u410 u411 u412 u413 u414 u415 u416 u417 u418 u419 u420 u421 u422 u423 u424 u425 u426 u427 u428 u429 u430 u431 u432 u433 u434 u435 u436 u437 u438 u439 u440 u441 u442 u443 u444 u445 u446 u447 u448 u449 u450 u451 u452 u453 u454 u455 u456 u457 u458 u459 u460 u461 u462 u463 u464 u465 u466 u467 u468 u469 u470 u471 u472 u473 u474 u475 u476 u477 u478 u479 u480 u481 u482 u483 u484 u485 : Value} (w0 w : World) (lo room : Nat) (aa ba ca da : Option Addr) (an ac bn bc cn cc dc : Nat) (N : Int) (aks bs : List Tk) (cs : List Nat) (ds fl : List Bool) (hA : OwT 79 8 w lo aa an ac (aks.map Tk.th)) (hB : OwT 79 8 w lo ba bn bc (bs.map Tk.th)) (hC : OwT 3 1 w lo ca cn cc (cs.map Ti)) (hD : OwT 4 1 w lo da cn dc (ds.map Tb)) (hN : N = (room : Int) + 12) (hr : 1 ≤ room ∧ room ≤ 60) (hcn : cn ≤ 1000) (han : an ≤ 100000) (hbn : bn ≤ 100000) (hfr : ∀ x, x ∈ aks → x.fr < cn) (hpn : ∀ x, x ∈ aks → x.p.n ≤ 90)
    (hz : fl.length = (aks.map Tk.d).length) (hsel : sel (aks.map Tk.d) fl = bs.map Tk.d) (hfI : ∀ (k : Nat) (x : Tl) (f : Bool), (aks.map Tk.d)[k]? = some x → fl[k]? = some f → FlI cs ds room x f) (hct : (aks.map Tk.d).Pairwise (fun x y => x.p.ct ≠ y.p.ct)) (G : w0.grownBy w none) (ua : Option Addr) (un uc g6 qc ql : Nat) (qa : Option Addr) (ma : Int) (t : Nat) (qs : List Qw) (Qs : List Qd) (b6 : BxS w g6 38 #[.int .i64 77, .int .i64 N, .int .i64 ma, .int .i64 (t : Int), .slice qa 7 qc]) (hS : WkS w ql qa 7 qc qs Qs) (hqt : (∀ c, c < 7 → (Qs.getD c qd0).P.length = 0) → an = un) :
    Code.wp Try.prog (tailR 67 (Try.f10.body.getD .skip)) (bodyPost Try.prog Try.f10 (fun e w' => e = .returned (.bool true) ∧ w0.grownBy w' none)) (Act.mk (List.toArray (u0 :: u1 :: u2 :: u3 :: u4 :: (.int .i64 N) :: (.pointer (some ⟨g6, 0, none⟩)) :: u7 :: u8 :: u9 :: u10 :: u11 :: (.slice ua un uc) :: (.slice aa an ac) :: (.slice ba bn bc) :: (.slice ca cn cc) :: (.slice da cn dc) :: u17 :: u18 :: u19 :: u20 :: u21 :: u22 :: u23 :: u24 :: u25 :: u26 :: u27 :: u28 :: u29 :: u30 :: u31 :: u32 :: u33 :: u34 :: u35 :: u36 :: u37 :: u38 :: u39 :: u40 :: u41 :: u42 :: u43 :: u44 :: u45 :: u46 :: u47 :: u48 :: u49 :: u50 :: u51 :: u52 :: u53 :: u54 :: u55 :: u56 :: u57 :: u58 :: u59 :: u60 :: u61 :: u62 :: u63 :: u64 :: u65 :: u66 :: u67 :: u68 :: u69 :: u70 :: u71 :: u72 :: u73 :: u74 :: u75 :: u76 :: u77 :: u78 :: u79 :: u80 :: u81 :: u82 :: u83 :: u84 :: u85 :: u86 :: u87 :: u88 :: u89 :: u90 :: u91 :: u92 :: u93 :: u94 :: u95 :: u96 :: u97 :: u98 :: u99 :: u100 :: u101 :: u102 :: u103 :: u104 :: u105 :: u106 :: u107 :: u108 :: u109 :: u110 :: u111 :: u112 :: u113 :: u114 :: u115 :: u116 :: u117 :: u118 :: u119 :: u120 :: u121 :: u122 :: u123 :: u124 :: u125 :: u126 :: u127 :: u128 :: u129 :: u130 :: u131 :: u132 :: u133 :: u134 :: u135 :: u136 :: u137 :: u138 :: u139 :: u140 :: u141 :: u142 :: u143 :: u144 :: u145 :: u146 :: u147 :: u148 :: u149 :: u150 :: u151 :: u152 :: u153 :: u154 :: u155 :: u156 :: u157 :: u158 :: u159 :: u160 :: u161 :: u162 :: u163 :: u164 :: u165 :: u166 :: u167 :: u168 :: u169 :: u170 :: u171 :: u172 :: u173 :: u174 :: u175 :: u176 :: u177 :: u178 :: u179 :: u180 :: u181 :: u182 :: u183 :: u184 :: u185 :: u186 :: u187 :: u188 :: u189 :: u190 :: u191 :: u192 :: u193 :: u194 :: u195 :: u196 :: u197 :: u198 :: u199 :: u200 :: u201 :: u202 :: u203 :: u204 :: u205 :: u206 :: u207 :: u208 :: u209 :: u210 :: u211 :: u212 :: u213 :: u214 :: u215 :: u216 :: u217 :: u218 :: u219 :: u220 :: u221 :: u222 :: u223 :: u224 :: u225 :: u226 :: u227 :: u228 :: u229 :: u230 :: u231 :: u232 :: u233 :: u234 :: u235 :: u236 :: u237 :: u238 :: u239 :: u240 :: u241 :: u242 :: u243 :: u244 :: u245 :: u246 :: u247 :: u248 :: u249 :: u250 :: u251 :: u252 :: u253 :: u254 :: u255 :: u256 :: u257 :: u258 :: u259 :: u260 :: u261 :: u262 :: u263 :: u264 :: u265 :: u266 :: u267 :: u268 :: u269 :: u270 :: u271 :: u272 :: u273 :: u274 :: u275 :: u276 :: u277 :: u278 :: u279 :: u280 :: u281 :: u282 :: u283 :: u284 :: u285 :: u286 :: u287 :: u288 :: u289 :: u290 :: u291 :: u292 :: u293 :: u294 :: u295 :: u296 :: u297 :: u298 :: u299 :: u300 :: u301 :: u302 :: u303 :: u304 :: u305 :: u306 :: u307 :: u308 :: u309 :: u310 :: u311 :: u312 :: u313 :: u314 :: u315 :: u316 :: u317 :: u318 :: u319 :: u320 :: u321 :: u322 :: u323 :: u324 :: u325 :: u326 :: u327 :: u328 :: u329 :: u330 :: u331 :: u332 :: u333 :: u334 :: u335 :: u336 :: u337 :: u338 :: u339 :: u340 :: u341 :: u342 :: u343 :: u344 :: u345 :: u346 :: u347 :: u348 :: u349 :: u350 :: u351 :: u352 :: u353 :: u354 :: u355 :: u356 :: u357 :: u358 :: u359 :: u360 :: u361 :: u362 :: u363 :: u364 :: u365 :: u366 :: u367 :: u368 :: u369 :: u370 :: u371 :: u372 :: u373 :: u374 :: u375 :: u376 :: u377 :: u378 :: u379 :: u380 :: u381 :: u382 :: u383 :: u384 :: u385 :: u386 :: u387 :: u388 :: u389 :: u390 :: u391 :: u392 :: u393 :: u394 :: u395 :: u396 :: u397 :: u398 :: u399 :: u400 :: u401 :: u402 :: u403 :: u404 :: u405 :: u406 :: u407 :: u408 :: u409 :: u410 :: u411 :: u412 :: u413 :: u414 :: u415 :: u416 :: u417 :: u418 :: u419 :: u420 :: u421 :: u422 :: u423 :: u424 :: u425 :: u426 :: u427 :: u428 :: u429 :: u430 :: u431 :: u432 :: u433 :: u434 :: u435 :: u436 :: u437 :: u438 :: u439 :: u440 :: u441 :: u442 :: u443 :: u444 :: u445 :: u446 :: u447 :: u448 :: u449 :: u450 :: u451 :: u452 :: u453 :: u454 :: u455 :: u456 :: u457 :: u458 :: u459 :: u460 :: u461 :: u462 :: u463 :: u464 :: u465 :: u466 :: u467 :: u468 :: u469 :: u470 :: u471 :: u472 :: u473 :: u474 :: u475 :: u476 :: u477 :: u478 :: u479 :: u480 :: u481 :: u482 :: u483 :: u484 :: u485 :: [])) []) w := by
  conv => enter [2]; whnf
  have HQT : Hid _ := hqt
  have HN : Hid _ := hN
  have HSE : Hid _ := hsel
  have HZ : Hid _ := hz
  clear hqt hN hsel hz
  have x4 : w.cell? ⟨g6, 4, none⟩ = some (.slice qa 7 qc) := b6.cell 4 (by show 4 < 5; decide)
  obtain ⟨F, hF1, hF2⟩ := hS.rd.ex
  obtain ⟨qb, qo, rfl, hqb, cq⟩ := hF1.at' (by decide)
  have HF2 : Hid _ := hF2
  have HCQ : Hid _ := cq
  have HFI : Hid _ := hfI
  clear hF2 cq hF1 hfI
  refine wp_seq_k fun K1 hK1 => ?_
  have HK1 : Hid _ := hK1
  clear hK1
  go_wp2
  refine HK1.out _ _ ?_
  clear HK1
  refine wp_seq_k fun K2 hK2 => ?_
  have HK2 : Hid _ := hK2
  clear hK2
  refine wp_seq_k fun K3 hK3 => ?_
  have HK3 : Hid _ := hK3
  clear hK3
  go_wp2
  refine HK3.out _ _ ?_
  clear HK3
  go_wp2
  go_loopw [38, 39] (fun sv iv wr => ∃ (j : Nat) (sb : Bool), j ≤ 7 ∧ iv = .int .i64 j ∧ sv = .bool sb ∧ Hid (sb = !(smB Qs j)) ∧ Hid (wr = w)) (fun _ iv _ => 7 - (intOf iv).toNat)
  case atStart => exact ⟨0, true, by omega, rfl, rfl, rfl, rfl⟩
  case round =>
    obtain ⟨j, sb, hj, rfl, rfl, HB, hwr⟩ := hrel
    have hwr := hwr.out
    subst hwr
    by_cases hlt : j < 7
    · obtain ⟨_, y1, _⟩ := HCQ.out j hlt
      have hn := (HF2.out j hlt).2.2.1
      have HSS := smB_succ Qs j
      rw [← hn] at HSS
      have HSS : Hid _ := HSS
      have lj : (j : Int) < 7 := by omega
      clear hn
      generalize (F j).n = fn at *
      generalize (F j).a = fa at *
      generalize (F j).c = fc at *
      cases sb
      · go_wp2
        go_roundw
        case rel => exact ⟨j + 1, false, by omega, by go_num, rfl, by have h := HB.out; show _ = _; rw [HSS.out, Bool.not_or, ← h, Bool.false_and], (by first | exact rfl | exact trivial)⟩
        case measure => simp [intOf] <;> omega
      · by_cases h0 : fn = 0
        · subst h0
          go_wp2
          go_roundw
          case rel => exact ⟨j + 1, true, by omega, by go_num, rfl, by have h := HB.out; show _ = _; rw [HSS.out, Bool.not_or, ← h]; rfl, (by first | exact rfl | exact trivial)⟩
          case measure => simp [intOf] <;> omega
        · have h0i : ¬ (fn : Int) = 0 := by omega
          have h0b : (((fn : Int) == 0) : Bool) = false := by simpa using h0
          have dp : decide (0 < fn) = true := decide_eq_true (by omega)
          have DP : Hid _ := dp
          clear dp
          go_wp2
          go_roundw
          case rel => exact ⟨j + 1, false, by omega, by go_num, by first | rfl | (simp; done), by have h := HB.out; show _ = _; rw [HSS.out, DP.out, Bool.or_true]; rfl, (by first | exact rfl | exact trivial)⟩
          case measure => simp [intOf] <;> omega
    · obtain rfl : j = 7 := by omega
      have hq7 : sb = true → an = un := fun e => HQT.out (smB_all Qs 7 (by have h := HB.out; rw [e] at h; cases hsm : smB Qs 7 with | false => rfl | true => rw [hsm] at h; cases h))
      have HQ7 : Hid _ := hq7
      clear hq7
      cases sb
      · go_wp2
        refine HK2.out _ _ ?_
        clear HK2
        refine wp_seq_k fun K5 hK5 => ?_
        have HK5 : Hid _ := hK5
        clear hK5
        go_wp2
        refine HK5.out _ _ ?_
        clear HK5
        exact ca_t74 w0 wr lo room aa ba ca da an ac bn bc cn cc dc N aks bs cs ds fl hA hB hC hD HN.out hr hcn han hbn hfr hpn HZ.out HSE.out HFI.out hct G
      · have e := HQ7.out (by first | exact rfl | exact trivial)
        subst e
        go_wp2
        refine HK2.out _ _ ?_
        clear HK2
        refine wp_seq_k fun K5 hK5 => ?_
        have HK5 : Hid _ := hK5
        clear hK5
        go_wp2
        refine HK5.out _ _ ?_
        clear HK5
        exact ca_t74 w0 wr lo room aa ba ca da an ac bn bc cn cc dc N aks bs cs ds fl hA hB hC hD HN.out hr hcn han hbn hfr hpn HZ.out HSE.out HFI.out hct G

/-- what was told next of a channel is what was put next of it -/
theorem CI.next {room i : Nat} {ma : Int} {t : Nat} {Qs : List Qd} {MA : Int} {EA : List Ed} {MB : Int} {EB : List Ed} {put : List (Nat × Pd)} {a : List Tl} {fl : List Bool} {chs : List Nat} {gn : List Bool} {mi : Nat} (h : CI room i ma t Qs MA EA MB EB put a fl chs gn mi) {j p : Nat} {x : Tl} (hx : a[j]? = some x)
    (hp : ((put.take p).filter (fun y => y.1 == x.ch)).length = ((a.take j).filter (fun y => y.ch == x.ch)).length) :
    p < put.length ∧ ∀ u, put[p]? = some u → u.1 = x.ch → u.2 = x.p ∧ ((put.take (p + 1)).filter (fun y => y.1 == x.ch)).length = ((a.take (j + 1)).filter (fun y => y.ch == x.ch)).length := by
  have hc := (h.a2 x (List.mem_of_getElem? hx)).1
  have e := h.pu x.ch hc
  obtain ⟨k1, k2⟩ := filt_at (L := a) (p := fun y => y.ch == x.ch) (n := j) rfl hx (by simp)
  have k3 : ((put.filter (fun y => y.1 == x.ch)).map (·.2))[((a.take j).filter (fun y => y.ch == x.ch)).length]? = some x.p := by
    rw [← e, List.getElem?_append_left (by rw [List.length_map]; exact (List.getElem?_eq_some_iff.1 k1).1), List.getElem?_map, k1]
    rfl
  refine ⟨?_, fun u hu h1 => ?_⟩
  · rcases Nat.lt_or_ge p put.length with q | q
    · exact q
    · rw [filt_all q] at hp
      have := (List.getElem?_eq_some_iff.1 k3).1
      rw [List.length_map, hp] at this
      omega
  · obtain ⟨k4, k5⟩ := filt_at (L := put) (p := fun y => y.1 == x.ch) hp hu (by simp [h1])
    rw [List.getElem?_map, k4] at k3
    exact ⟨Option.some.inj k3, by rw [k5, k2]⟩
theorem OwT.sevenP {w : World} {lo g n c : Nat} {us : List Pu} (h : OwT 66 7 w lo (some ⟨g, 0, none⟩) n c (us.map Pu.th)) {i : Nat} {u : Pu} (hi : us[i]? = some u) :
    w.cell? ⟨g, i * 7, none⟩ = some (.int .i64 (u.ch : Int)) ∧ w.cell? ⟨g, i * 7 + 1, none⟩ = some (.bool u.p.up) ∧ w.cell? ⟨g, i * 7 + 2, none⟩ = some (.bool u.p.se) ∧ w.cell? ⟨g, i * 7 + 3, none⟩ = some (.int .i64 u.p.ap) ∧ w.cell? ⟨g, i * 7 + 4, none⟩ = some (.int .i64 u.p.pt) ∧ w.cell? ⟨g, i * 7 + 5, none⟩ = some (.int .i64 u.p.ct) ∧ w.cell? ⟨g, i * 7 + 6, none⟩ = some (.slice u.p.a u.p.n u.p.c) := by
  have hi' : (us.map Pu.th)[i]? = some u.th := by rw [List.getElem?_map, hi]; rfl
  exact ⟨h.cell hi' 0 (by decide), h.cell hi' 1 (by decide), h.cell hi' 2 (by decide), h.cell hi' 3 (by decide), h.cell hi' 4 (by decide), h.cell hi' 5 (by decide), h.cell hi' 6 (by decide)⟩

theorem nth_set7 (W : List Nat) (c p : Nat) (h : c < W.length) : nth (W.set c p) c = p := by
  unfold nth
  rw [List.getD_eq_getElem?_getD, List.getElem?_set_self h]; rfl
theorem set_nth7 (W : List Nat) (c : Nat) (h : c < W.length) : W.set c (nth W c) = W := by
  unfold nth
  rw [List.getD_eq_getElem?_getD, List.getElem?_eq_getElem h]
  exact List.set_getElem_self h
theorem nth_set7' (W : List Nat) (c d p : Nat) (h : c ≠ d) : nth (W.set c p) d = nth W d := by
  unfold nth
  rw [List.getD_eq_getElem?_getD, List.getElem?_set_ne h, ← List.getD_eq_getElem?_getD]
def atM (w : World) (g c n : Nat) : Nat := n - ((w.cell? ⟨g, c, none⟩).elim 0 (fun v => (intOf v).toNat))
theorem atM_of {w : World} {g c n p : Nat} (h : w.cell? ⟨g, c, none⟩ = some (.int .i64 (p : Int))) : atM w g c n = n - p := by
  unfold atM
  rw [h]
  simp [intOf]

set_option maxHeartbeats 64000000 in
/-- what was told is what was put -/
theorem ca_t64 {u0 u1 u2 u3 u4 u5 u6 u7 u8 u9 u10 u11 u14 u15 u16 u17 u18 u19 u20 u21 u22 u23 u24 u25 u26 u27 u28 u29 u30 u31 u32 u33 u34 u38 u39 u40 u41 u42 u43 u44 u45 u46 u47 u48 u49 u50 u51 u52 u53 u54 u55 u56 u57 u58 u59 u60 u61 u62 u63 u64 u65 u66 u67 u68 u69 u70 u71 u72 u73 u74 u75 u76 u77 u78 u79 u80 u81 u82 u83 u84 u85 u86 u87 u88 u89 u90 u91 u92 u93 u94 u95 u96 u97 u98 u99 u100 u101 u102 u103 u104 u105 u106 u107 u108 u109 u110 u111 u112 u113 u114 u115 u116 u117 u118 u119 u120 u121 u122 u123 u124 u125 u126 u127 u128 u129 u130 u131 u132 u133 u134 u135 u136 u137 u138 u139 u140 u141 u142 u143 u144 u145 u146 u147 u148 u149 u150 u151 u152 u153 u154 u155 u156 u157 u158 u159 u160 u161 u162 u163 u164 u165 u166 u167 u168 u169 u170 u171 u172 u173 u174 u175 u176 u177 u178 u179 u180 u181 u182 u183 u184 u185 u186 u187 u188 u189 u190 u191 u192 u193 u194 u195 u196 u197 u198 u199 u200 u201 u202 u203 u204 u205 u206 u207 u208 u209 u210 u211 u212 u213 u214 u215 u216 u217 u218 u219 u220 u221 u222 u223 u224 u225 u226 u227 u228 u229 u230 u231 u232 u233 u234 u235 u236 u237 u238 u239 u240 u241 u242 u243 u244 u245 u246 u247 u248 u249 u250 u251 u252 u253 u254 u255 u256 u257 u258 u259 u260 u261 u262 u263 u264 u265 u266 u267 u268 u269 u270 u271 u272 u273 u274 u275 u276 u277 u278 u279 u280 u281 u282 u283 u284 u285 u286 u287 u288 u289 u290 u291 u292 u293 u294 u295 u296 u297 u298 u299 u300 u301 u302 u303 u304 u305 u306 u307 u308 u309 u310 u311 u312 u313 u314 u315 u316 u317 u318 u319 u320 u321 u322 u323 u324 u325 u326 u327 u328 u329 u330 u331 u332 u333 u334 u335 u336 u337 u338 u339 u340 u341 u342 u343 u344 u345 u346 u347 u348 u349 u350 u351 u352 u353 u354 u355 u356 u357 u358 u359 u360 u361 u362 u363 u364 u365 u366 u367 u368 u369 u370 u371 u372 u373 u374 u375 u376 u377 u378 u379 u380 u381 u382 u383 u384 u385 u386 u387 u388 u389 u390 u391 u392 u393 u394 u395 u396 u397 u398 u399 u400 u401 u402 u403 u404 u405 u406 u407 u408 u409 u410 u411 u412 u413 u414 u415 u416 u417 u418 u419 u420 u421 u422 u423 u424 u425 u426 u427 u428 u429 u430 u431 u432 u433 u434 u435 u436 u437 u438 u439 u440 u441 u442 u443 u444 u445 u446 u447 u448 u449 u450 u451 u452 u453 u454 u455 u456 u457 u458 u459 u460 u461 u462 u463 u464 u465 u466 u467 u468 u469 u470 u471 u472 u473 u474 u475 u476 u477 u478 u479 u480 u481 u482 u483 u484 u485 : Value} (Q : Exit → Act → World → Prop) (w : World) (lo ga an ac gu un uc g35 j p : Nat) (x : Tk) (u : Pu) (aks : List Tk) (us : List Pu) (W : List Nat) (hA : OwT 79 8 w lo (some ⟨ga, 0, none⟩) an ac (aks.map Tk.th)) (hU : OwT 66 7 w lo (some ⟨gu, 0, none⟩) un uc (us.map Pu.th)) (hW : WtR w g35 (W.set x.ch p)) (hWl : W.length = 7) (hc : x.ch < 7) (hx : aks[j]? = some x) (hu : us[p]? = some u) (hup : u.p.d = x.p.d) (hun : un ≤ 1000) (han : an ≤ 100000)
    (hP : ∀ c a a' wz, a.defers = a'.defers → Q (.panic c) a wz → Q (.panic c) a' wz)
    (hQ : ∀ {z305 z306 z307 z308 z309 z310 z311 z312 z313 z314 z315 z316 z317 z318 z319 z320 z321 z322 z323 z324 z325 z326 z327 z328 z329 z330 z331 z332 z333 z334 z335 : Value} w', WtR w' g35 (W.set x.ch (p + 1)) → w.grownBy w' (some g35) → Q .normal (Act.mk (List.toArray (u0 :: u1 :: u2 :: u3 :: u4 :: u5 :: u6 :: u7 :: u8 :: u9 :: u10 :: u11 :: (.slice (some ⟨gu, 0, none⟩) un uc) :: (.slice (some ⟨ga, 0, none⟩) an ac) :: u14 :: u15 :: u16 :: u17 :: u18 :: u19 :: u20 :: u21 :: u22 :: u23 :: u24 :: u25 :: u26 :: u27 :: u28 :: u29 :: u30 :: u31 :: u32 :: u33 :: u34 :: (.slice (some ⟨g35, 0, none⟩) 7 7) :: (.int .i64 (j : Int)) :: (.int .i64 (x.ch : Int)) :: u38 :: u39 :: u40 :: u41 :: u42 :: u43 :: u44 :: u45 :: u46 :: u47 :: u48 :: u49 :: u50 :: u51 :: u52 :: u53 :: u54 :: u55 :: u56 :: u57 :: u58 :: u59 :: u60 :: u61 :: u62 :: u63 :: u64 :: u65 :: u66 :: u67 :: u68 :: u69 :: u70 :: u71 :: u72 :: u73 :: u74 :: u75 :: u76 :: u77 :: u78 :: u79 :: u80 :: u81 :: u82 :: u83 :: u84 :: u85 :: u86 :: u87 :: u88 :: u89 :: u90 :: u91 :: u92 :: u93 :: u94 :: u95 :: u96 :: u97 :: u98 :: u99 :: u100 :: u101 :: u102 :: u103 :: u104 :: u105 :: u106 :: u107 :: u108 :: u109 :: u110 :: u111 :: u112 :: u113 :: u114 :: u115 :: u116 :: u117 :: u118 :: u119 :: u120 :: u121 :: u122 :: u123 :: u124 :: u125 :: u126 :: u127 :: u128 :: u129 :: u130 :: u131 :: u132 :: u133 :: u134 :: u135 :: u136 :: u137 :: u138 :: u139 :: u140 :: u141 :: u142 :: u143 :: u144 :: u145 :: u146 :: u147 :: u148 :: u149 :: u150 :: u151 :: u152 :: u153 :: u154 :: u155 :: u156 :: u157 :: u158 :: u159 :: u160 :: u161 :: u162 :: u163 :: u164 :: u165 :: u166 :: u167 :: u168 :: u169 :: u170 :: u171 :: u172 :: u173 :: u174 :: u175 :: u176 :: u177 :: u178 :: u179 :: u180 :: u181 :: u182 :: u183 :: u184 :: u185 :: u186 :: u187 :: u188 :: u189 :: u190 :: u191 :: u192 :: u193 :: u194 :: u195 :: u196 :: u197 :: u198 :: u199 :: u200 :: u201 :: u202 :: u203 :: u204 :: u205 :: u206 :: u207 :: u208 :: u209 :: u210 :: u211 :: u212 :: u213 :: u214 :: u215 :: u216 :: u217 :: u218 :: u219 :: u220 :: u221 :: u222 :: u223 :: u224 :: u225 :: u226 :: u227 :: u228 :: u229 :: u230 :: u231 :: u232 :: u233 :: u234 :: u235 :: u236 :: u237 :: u238 :: u239 :: u240 :: u241 :: u242 :: u243 :: u244 :: u245 :: u246 :: u247 :: u248 :: u249 :: u250 :: u251 :: u252 :: u253 :: u254 :: u255 :: u256 :: u257 :: u258 :: u259 :: u260 :: u261 :: u262 :: u263 :: u264 :: u265 :: u266 :: u267 :: u268 :: u269 :: u270 :: u271 :: u272 :: u273 :: u274 :: u275 :: u276 :: u277 :: u278 :: u279 :: u280 :: u281 :: u282 :: u283 :: u284 :: u285 :: u286 :: u287 :: u288 :: u289 :: u290 :: u291 :: u292 :: u293 :: u294 :: u295 :: u296 :: u297 :: u298 :: u299 :: u300 :: u301 :: u302 :: u303 :: u304 :: z305 :: z306 :: z307 :: z308 :: z309 :: z310 :: z311 :: z312 :: z313 :: z314 :: z315 :: z316 :: z317 :: z318 :: z319 :: z320 :: z321 :: z322 :: z323 :: z324 :: z325 :: z326 :: z327 :: z328 :: z329 :: z330 :: z331 :: z332 :: z333 :: z334 :: z335 :: u336 :: u337 :: u338 :: u339 :: u340 :: u341 :: u342 :: u343 :: u344 :: u345 :: u346 :: u347 :: u348 :: u349 :: u350 :: u351 :: u352 :: u353 :: u354 :: u355 :: u356 :: u357 :: u358 :: u359 :: u360 :: u361 :: u362 :: u363 :: u364 :: u365 :: u366 :: u367 :: u368 :: u369 :: u370 :: u371 :: u372 :: u373 :: u374 :: u375 :: u376 :: u377 :: u378 :: u379 :: u380 :: u381 :: u382 :: u383 :: u384 :: u385 :: u386 :: u387 :: u388 :: u389 :: u390 :: u391 :: u392 :: u393 :: u394 :: u395 :: u396 :: u397 :: u398 :: u399 :: u400 :: u401 :: u402 :: u403 :: u404 :: u405 :: u406 :: u407 :: u408 :: u409 :: u410 :: u411 :: u412 :: u413 :: u414 :: u415 :: u416 :: u417 :: u418 :: u419 :: u420 :: u421 :: u422 :: u423 :: u424 :: u425 :: u426 :: u427 :: u428 :: u429 :: u430 :: u431 :: u432 :: u433 :: u434 :: u435 :: u436 :: u437 :: u438 :: u439 :: u440 :: u441 :: u442 :: u443 :: u444 :: u445 :: u446 :: u447 :: u448 :: u449 :: u450 :: u451 :: u452 :: u453 :: u454 :: u455 :: u456 :: u457 :: u458 :: u459 :: u460 :: u461 :: u462 :: u463 :: u464 :: u465 :: u466 :: u467 :: u468 :: u469 :: u470 :: u471 :: u472 :: u473 :: u474 :: u475 :: u476 :: u477 :: u478 :: u479 :: u480 :: u481 :: u482 :: u483 :: u484 :: u485 :: [])) []) w') :
    Code.wp Try.prog (tailR 64 (Try.f10.body.getD .skip)) Q (Act.mk (List.toArray (u0 :: u1 :: u2 :: u3 :: u4 :: u5 :: u6 :: u7 :: u8 :: u9 :: u10 :: u11 :: (.slice (some ⟨gu, 0, none⟩) un uc) :: (.slice (some ⟨ga, 0, none⟩) an ac) :: u14 :: u15 :: u16 :: u17 :: u18 :: u19 :: u20 :: u21 :: u22 :: u23 :: u24 :: u25 :: u26 :: u27 :: u28 :: u29 :: u30 :: u31 :: u32 :: u33 :: u34 :: (.slice (some ⟨g35, 0, none⟩) 7 7) :: (.int .i64 (j : Int)) :: (.int .i64 (x.ch : Int)) :: u38 :: u39 :: u40 :: u41 :: u42 :: u43 :: u44 :: u45 :: u46 :: u47 :: u48 :: u49 :: u50 :: u51 :: u52 :: u53 :: u54 :: u55 :: u56 :: u57 :: u58 :: u59 :: u60 :: u61 :: u62 :: u63 :: u64 :: u65 :: u66 :: u67 :: u68 :: u69 :: u70 :: u71 :: u72 :: u73 :: u74 :: u75 :: u76 :: u77 :: u78 :: u79 :: u80 :: u81 :: u82 :: u83 :: u84 :: u85 :: u86 :: u87 :: u88 :: u89 :: u90 :: u91 :: u92 :: u93 :: u94 :: u95 :: u96 :: u97 :: u98 :: u99 :: u100 :: u101 :: u102 :: u103 :: u104 :: u105 :: u106 :: u107 :: u108 :: u109 :: u110 :: u111 :: u112 :: u113 :: u114 :: u115 :: u116 :: u117 :: u118 :: u119 :: u120 :: u121 :: u122 :: u123 :: u124 :: u125 :: u126 :: u127 :: u128 :: u129 :: u130 :: u131 :: u132 :: u133 :: u134 :: u135 :: u136 :: u137 :: u138 :: u139 :: u140 :: u141 :: u142 :: u143 :: u144 :: u145 :: u146 :: u147 :: u148 :: u149 :: u150 :: u151 :: u152 :: u153 :: u154 :: u155 :: u156 :: u157 :: u158 :: u159 :: u160 :: u161 :: u162 :: u163 :: u164 :: u165 :: u166 :: u167 :: u168 :: u169 :: u170 :: u171 :: u172 :: u173 :: u174 :: u175 :: u176 :: u177 :: u178 :: u179 :: u180 :: u181 :: u182 :: u183 :: u184 :: u185 :: u186 :: u187 :: u188 :: u189 :: u190 :: u191 :: u192 :: u193 :: u194 :: u195 :: u196 :: u197 :: u198 :: u199 :: u200 :: u201 :: u202 :: u203 :: u204 :: u205 :: u206 :: u207 :: u208 :: u209 :: u210 :: u211 :: u212 :: u213 :: u214 :: u215 :: u216 :: u217 :: u218 :: u219 :: u220 :: u221 :: u222 :: u223 :: u224 :: u225 :: u226 :: u227 :: u228 :: u229 :: u230 :: u231 :: u232 :: u233 :: u234 :: u235 :: u236 :: u237 :: u238 :: u239 :: u240 :: u241 :: u242 :: u243 :: u244 :: u245 :: u246 :: u247 :: u248 :: u249 :: u250 :: u251 :: u252 :: u253 :: u254 :: u255 :: u256 :: u257 :: u258 :: u259 :: u260 :: u261 :: u262 :: u263 :: u264 :: u265 :: u266 :: u267 :: u268 :: u269 :: u270 :: u271 :: u272 :: u273 :: u274 :: u275 :: u276 :: u277 :: u278 :: u279 :: u280 :: u281 :: u282 :: u283 :: u284 :: u285 :: u286 :: u287 :: u288 :: u289 :: u290 :: u291 :: u292 :: u293 :: u294 :: u295 :: u296 :: u297 :: u298 :: u299 :: u300 :: u301 :: u302 :: u303 :: u304 :: u305 :: u306 :: u307 :: u308 :: u309 :: u310 :: u311 :: u312 :: u313 :: u314 :: u315 :: u316 :: u317 :: u318 :: u319 :: u320 :: u321 :: u322 :: u323 :: u324 :: u325 :: u326 :: u327 :: u328 :: u329 :: u330 :: u331 :: u332 :: u333 :: u334 :: u335 :: u336 :: u337 :: u338 :: u339 :: u340 :: u341 :: u342 :: u343 :: u344 :: u345 :: u346 :: u347 :: u348 :: u349 :: u350 :: u351 :: u352 :: u353 :: u354 :: u355 :: u356 :: u357 :: u358 :: u359 :: u360 :: u361 :: u362 :: u363 :: u364 :: u365 :: u366 :: u367 :: u368 :: u369 :: u370 :: u371 :: u372 :: u373 :: u374 :: u375 :: u376 :: u377 :: u378 :: u379 :: u380 :: u381 :: u382 :: u383 :: u384 :: u385 :: u386 :: u387 :: u388 :: u389 :: u390 :: u391 :: u392 :: u393 :: u394 :: u395 :: u396 :: u397 :: u398 :: u399 :: u400 :: u401 :: u402 :: u403 :: u404 :: u405 :: u406 :: u407 :: u408 :: u409 :: u410 :: u411 :: u412 :: u413 :: u414 :: u415 :: u416 :: u417 :: u418 :: u419 :: u420 :: u421 :: u422 :: u423 :: u424 :: u425 :: u426 :: u427 :: u428 :: u429 :: u430 :: u431 :: u432 :: u433 :: u434 :: u435 :: u436 :: u437 :: u438 :: u439 :: u440 :: u441 :: u442 :: u443 :: u444 :: u445 :: u446 :: u447 :: u448 :: u449 :: u450 :: u451 :: u452 :: u453 :: u454 :: u455 :: u456 :: u457 :: u458 :: u459 :: u460 :: u461 :: u462 :: u463 :: u464 :: u465 :: u466 :: u467 :: u468 :: u469 :: u470 :: u471 :: u472 :: u473 :: u474 :: u475 :: u476 :: u477 :: u478 :: u479 :: u480 :: u481 :: u482 :: u483 :: u484 :: u485 :: [])) []) w := by
  let pq : Exit → Act → World → Prop := bodyPost Try.prog Try.f10 (fun _ _ => True)
  conv => enter [2]; whnf
  have HQ : Hid _ := @hQ
  clear hQ
  have m3 : aks.length = an := by have := hA.len; rw [List.length_map] at this; exact this
  have m4 : us.length = un := by have := hU.len; rw [List.length_map] at this; exact this
  have hj : j < an := by have := (List.getElem?_eq_some_iff.1 hx).1; omega
  have hp : p < un := by have := (List.getElem?_eq_some_iff.1 hu).1; omega
  have lj : (j : Int) < (an : Int) := by omega
  have lp : (p : Int) < (un : Int) := by omega
  have np : ¬ (p : Int) = (un : Int) := by omega
  have lc : (x.ch : Int) < 7 := by omega
  have M3 : Hid _ := m3
  have M4 : Hid _ := m4
  clear m3 m4
  refine wp_seq_k fun K0 hK0 => ?_
  have HK0 : Hid _ := hK0
  clear hK0
  refine wp_seq_k fun K2 hK2 => ?_
  have HK2 : Hid _ := hK2
  clear hK2
  have Gd := grown_drew w none
  have SS := And.intro (hA.keep Gd) (And.intro (hU.keep Gd) (hW.keep Gd (by simp)))
  have huA : Rd w.drew u.p.a u.p.n u.p.c u.p.D := (SS.2.1.each _ (List.mem_map_of_mem (List.mem_of_getElem? hu))).rd
  have hxA : Rd w.drew x.p.a x.p.n x.p.c x.p.D := (SS.1.each _ (List.mem_map_of_mem (List.mem_of_getElem? hx))).rd
  unfold Pk.d at hup
  simp only [Pd.mk.injEq] at hup
  obtain ⟨p1, p2, p3, p4, p5, p6⟩ := hup
  have HSP : Calls Try.prog 41 #[pkV u.p.up u.p.se u.p.ap u.p.pt u.p.ct u.p.a u.p.n u.p.c, pkV x.p.up x.p.se x.p.ap x.p.pt x.p.ct x.p.a x.p.n x.p.c] w.drew fun e w' => e = .returned (.bool true) ∧ w.drew.grownBy w' none := by
    rw [p1, p2, p3, p4, p5]
    exact sameP_yes x.p.up x.p.se x.p.ap x.p.pt x.p.ct u.p.a x.p.a u.p.n x.p.n u.p.c x.p.c x.p.D w.drew (by rw [← p6]; exact huA) hxA
  clear p1 p2 p3 p4 p5 p6
  refine wp_regionL (fun wz => OwT 79 8 wz lo (some ⟨ga, 0, none⟩) an ac (aks.map Tk.th) ∧ OwT 66 7 wz lo (some ⟨gu, 0, none⟩) un uc (us.map Pu.th) ∧ WtR wz g35 (W.set x.ch p)) [] #[false, false, false, false, false, false, false, false, false, false, false, false, false, false, false, false, false, false, false, false, false, false, false, false, false] rfl (by kernel_rfl) ?_
  refine wpAnyZ_take [] 0 (.slice (some ⟨g35, 0, none⟩) 7 7) rfl (by kernel_rfl) (fun _ _ _ h => hP _ _ _ _ (by rfl) h) SS rfl (by intro wz hz; go_simp) ?_
  try simp only [List.getElem_toArray, List.getElem_cons_succ, List.getElem_cons_zero, Act.put, List.setIfInBounds_toArray, List.set_cons_zero, List.set_cons_succ]
  refine wpAnyZ_take [] 1 (.int .i64 (x.ch : Int)) rfl (by kernel_rfl) (fun _ _ _ h => hP _ _ _ _ (by rfl) h) SS rfl (by intro wz hz; go_simp) ?_
  try simp only [List.getElem_toArray, List.getElem_cons_succ, List.getElem_cons_zero, Act.put, List.setIfInBounds_toArray, List.set_cons_zero, List.set_cons_succ]
  refine wpAnyZ_take [] 2 (.pointer (some ⟨g35, x.ch, none⟩)) rfl (by kernel_rfl) (fun _ _ _ h => hP _ _ _ _ (by rfl) h) SS rfl (by intro wz hz; go_simp) ?_
  try simp only [List.getElem_toArray, List.getElem_cons_succ, List.getElem_cons_zero, Act.put, List.setIfInBounds_toArray, List.set_cons_zero, List.set_cons_succ]
  refine wpAnyZ_take [] 3 (.int .i64 (p : Int)) rfl (by kernel_rfl) (fun _ _ _ h => hP _ _ _ _ (by rfl) h) SS rfl (by rintro wz ⟨ha, hu', hw'⟩; have q0 := hw'.cell x.ch (by rw [List.length_set]; omega); rw [nth_set7 _ _ _ (by omega)] at q0; go_simp) ?_
  try simp only [List.getElem_toArray, List.getElem_cons_succ, List.getElem_cons_zero, Act.put, List.setIfInBounds_toArray, List.set_cons_zero, List.set_cons_succ]
  refine wpAnyZ_take [] 4 (.slice (some ⟨gu, 0, none⟩) un uc) rfl (by kernel_rfl) (fun _ _ _ h => hP _ _ _ _ (by rfl) h) SS rfl (by intro wz hz; go_simp) ?_
  try simp only [List.getElem_toArray, List.getElem_cons_succ, List.getElem_cons_zero, Act.put, List.setIfInBounds_toArray, List.set_cons_zero, List.set_cons_succ]
  refine wpAnyZ_take [] 5 (.int .i64 (un : Int)) rfl (by kernel_rfl) (fun _ _ _ h => hP _ _ _ _ (by rfl) h) SS rfl (by intro wz hz; go_simp) ?_
  try simp only [List.getElem_toArray, List.getElem_cons_succ, List.getElem_cons_zero, Act.put, List.setIfInBounds_toArray, List.set_cons_zero, List.set_cons_succ]
  refine wpAnyZ_take [] 6 (.bool false) rfl (by kernel_rfl) (fun _ _ _ h => hP _ _ _ _ (by rfl) h) SS rfl (by intro wz hz; go_simp) ?_
  try simp only [List.getElem_toArray, List.getElem_cons_succ, List.getElem_cons_zero, Act.put, List.setIfInBounds_toArray, List.set_cons_zero, List.set_cons_succ]
  refine wpAnyZ_take [] 7 (.bool false) rfl (by kernel_rfl) (fun _ _ _ h => hP _ _ _ _ (by rfl) h) SS rfl (by intro wz hz; go_simp) ?_
  try simp only [List.getElem_toArray, List.getElem_cons_succ, List.getElem_cons_zero, Act.put, List.setIfInBounds_toArray, List.set_cons_zero, List.set_cons_succ]
  refine wpAnyZ_take [] 8 (.slice (some ⟨gu, 0, none⟩) un uc) rfl (by kernel_rfl) (fun _ _ _ h => hP _ _ _ _ (by rfl) h) SS rfl (by intro wz hz; go_simp) ?_
  try simp only [List.getElem_toArray, List.getElem_cons_succ, List.getElem_cons_zero, Act.put, List.setIfInBounds_toArray, List.set_cons_zero, List.set_cons_succ]
  refine wpAnyZ_take [] 9 (.slice (some ⟨g35, 0, none⟩) 7 7) rfl (by kernel_rfl) (fun _ _ _ h => hP _ _ _ _ (by rfl) h) SS rfl (by intro wz hz; go_simp) ?_
  try simp only [List.getElem_toArray, List.getElem_cons_succ, List.getElem_cons_zero, Act.put, List.setIfInBounds_toArray, List.set_cons_zero, List.set_cons_succ]
  refine wpAnyZ_take [] 10 (.int .i64 (x.ch : Int)) rfl (by kernel_rfl) (fun _ _ _ h => hP _ _ _ _ (by rfl) h) SS rfl (by intro wz hz; go_simp) ?_
  try simp only [List.getElem_toArray, List.getElem_cons_succ, List.getElem_cons_zero, Act.put, List.setIfInBounds_toArray, List.set_cons_zero, List.set_cons_succ]
  refine wpAnyZ_take [] 11 (.pointer (some ⟨g35, x.ch, none⟩)) rfl (by kernel_rfl) (fun _ _ _ h => hP _ _ _ _ (by rfl) h) SS rfl (by intro wz hz; go_simp) ?_
  try simp only [List.getElem_toArray, List.getElem_cons_succ, List.getElem_cons_zero, Act.put, List.setIfInBounds_toArray, List.set_cons_zero, List.set_cons_succ]
  refine wpAnyZ_take [] 12 (.int .i64 (p : Int)) rfl (by kernel_rfl) (fun _ _ _ h => hP _ _ _ _ (by rfl) h) SS rfl (by rintro wz ⟨ha, hu', hw'⟩; have q0 := hw'.cell x.ch (by rw [List.length_set]; omega); rw [nth_set7 _ _ _ (by omega)] at q0; go_simp) ?_
  try simp only [List.getElem_toArray, List.getElem_cons_succ, List.getElem_cons_zero, Act.put, List.setIfInBounds_toArray, List.set_cons_zero, List.set_cons_succ]
  refine wpAnyZ_take [] 13 (.pointer (some ⟨gu, p * 7, none⟩)) rfl (by kernel_rfl) (fun _ _ _ h => hP _ _ _ _ (by rfl) h) SS rfl (by intro wz hz; go_simp) ?_
  try simp only [List.getElem_toArray, List.getElem_cons_succ, List.getElem_cons_zero, Act.put, List.setIfInBounds_toArray, List.set_cons_zero, List.set_cons_succ]
  refine wpAnyZ_take [] 14 (.pointer (some ⟨gu, p * 7 + 1, none⟩)) rfl (by kernel_rfl) (fun _ _ _ h => hP _ _ _ _ (by rfl) h) SS rfl (by intro wz hz; go_simp) ?_
  try simp only [List.getElem_toArray, List.getElem_cons_succ, List.getElem_cons_zero, Act.put, List.setIfInBounds_toArray, List.set_cons_zero, List.set_cons_succ]
  refine wpAnyZ_take [] 15 (.agg #[.bool u.p.up, .bool u.p.se, .int .i64 u.p.ap, .int .i64 u.p.pt, .int .i64 u.p.ct, .slice u.p.a u.p.n u.p.c]) rfl (by kernel_rfl) (fun _ _ _ h => hP _ _ _ _ (by rfl) h) SS rfl (by rintro wz ⟨ha, hu', hw'⟩; obtain ⟨c0, c1, c2, c3, c4, c5, c6⟩ := hu'.sevenP hu; exact ld_six rfl rfl c1 c2 c3 c4 c5 c6) ?_
  try simp only [List.getElem_toArray, List.getElem_cons_succ, List.getElem_cons_zero, Act.put, List.setIfInBounds_toArray, List.set_cons_zero, List.set_cons_succ]
  refine wpAnyZ_take [] 16 (.slice (some ⟨ga, 0, none⟩) an ac) rfl (by kernel_rfl) (fun _ _ _ h => hP _ _ _ _ (by rfl) h) SS rfl (by intro wz hz; go_simp) ?_
  try simp only [List.getElem_toArray, List.getElem_cons_succ, List.getElem_cons_zero, Act.put, List.setIfInBounds_toArray, List.set_cons_zero, List.set_cons_succ]
  refine wpAnyZ_take [] 17 (.int .i64 (j : Int)) rfl (by kernel_rfl) (fun _ _ _ h => hP _ _ _ _ (by rfl) h) SS rfl (by intro wz hz; go_simp) ?_
  try simp only [List.getElem_toArray, List.getElem_cons_succ, List.getElem_cons_zero, Act.put, List.setIfInBounds_toArray, List.set_cons_zero, List.set_cons_succ]
  refine wpAnyZ_take [] 18 (.pointer (some ⟨ga, j * 8, none⟩)) rfl (by kernel_rfl) (fun _ _ _ h => hP _ _ _ _ (by rfl) h) SS rfl (by intro wz hz; go_simp) ?_
  try simp only [List.getElem_toArray, List.getElem_cons_succ, List.getElem_cons_zero, Act.put, List.setIfInBounds_toArray, List.set_cons_zero, List.set_cons_succ]
  refine wpAnyZ_take [] 19 (.pointer (some ⟨ga, j * 8 + 1, none⟩)) rfl (by kernel_rfl) (fun _ _ _ h => hP _ _ _ _ (by rfl) h) SS rfl (by intro wz hz; go_simp) ?_
  try simp only [List.getElem_toArray, List.getElem_cons_succ, List.getElem_cons_zero, Act.put, List.setIfInBounds_toArray, List.set_cons_zero, List.set_cons_succ]
  refine wpAnyZ_take [] 20 (.pointer (some ⟨ga, j * 8 + 2, none⟩)) rfl (by kernel_rfl) (fun _ _ _ h => hP _ _ _ _ (by rfl) h) SS rfl (by intro wz hz; go_simp) ?_
  try simp only [List.getElem_toArray, List.getElem_cons_succ, List.getElem_cons_zero, Act.put, List.setIfInBounds_toArray, List.set_cons_zero, List.set_cons_succ]
  refine wpAnyZ_take [] 21 (.agg #[.bool x.p.up, .bool x.p.se, .int .i64 x.p.ap, .int .i64 x.p.pt, .int .i64 x.p.ct, .slice x.p.a x.p.n x.p.c]) rfl (by kernel_rfl) (fun _ _ _ h => hP _ _ _ _ (by rfl) h) SS rfl (by rintro wz ⟨ha, hu', hw'⟩; obtain ⟨a0, a1, a2, a3, a4, a5, a6, a7⟩ := ha.eight hx; exact ld_six rfl rfl a2 a3 a4 a5 a6 a7) ?_
  try simp only [List.getElem_toArray, List.getElem_cons_succ, List.getElem_cons_zero, Act.put, List.setIfInBounds_toArray, List.set_cons_zero, List.set_cons_succ]
  generalize w.drew = w2 at *
  refine wpAnyZ_oneB 22 rfl (by kernel_rfl) (fun KK hKK => ?_)
  go_simp
  go_at_call 41
  refine HSP.mono ?_
  rintro e w3 ⟨rfl, g3⟩
  dsimp only
  have S3 := And.intro (SS.1.keep g3) (And.intro (SS.2.1.keep g3) (SS.2.2.keep g3 (by simp)))
  refine hKK _ _ (fun _ => S3) ?_
  try simp only [List.getElem_toArray, List.getElem_cons_succ, List.getElem_cons_zero, Act.put, List.setIfInBounds_toArray, List.set_cons_zero, List.set_cons_succ]
  refine wpAnyZ_take [] 23 (.bool false) rfl (by kernel_rfl) (fun _ _ _ h => hP _ _ _ _ (by rfl) h) S3 rfl (by intro wz hz; go_simp) ?_
  try simp only [List.getElem_toArray, List.getElem_cons_succ, List.getElem_cons_zero, Act.put, List.setIfInBounds_toArray, List.set_cons_zero, List.set_cons_succ]
  refine wpAnyZ_take [] 24 (.bool false) rfl (by kernel_rfl) (fun _ _ _ h => hP _ _ _ _ (by rfl) h) S3 rfl (by intro wz hz; go_simp) ?_
  try simp only [List.getElem_toArray, List.getElem_cons_succ, List.getElem_cons_zero, Act.put, List.setIfInBounds_toArray, List.set_cons_zero, List.set_cons_succ]
  refine wpAnyZ_doneB (by kernel_rfl) ?_ _
  have hW3 := S3.2.2
  have G3 := grown_trans Gd g3
  have q0 := hW3.cell x.ch (by rw [List.length_set]; omega)
  rw [nth_set7 _ _ _ (by omega)] at q0
  have qf := hW3.free x.ch
  have hst : WtR (w3.setCell ⟨g35, x.ch, none⟩ (.int .i64 ((p : Int) + 1))) g35 (W.set x.ch (p + 1)) := by have h := hW3.set x.ch (p + 1); rw [List.set_set] at h; exact h
  have hgt := grown_set w3 g35 x.ch (.int .i64 ((p : Int) + 1))
  generalize hw4 : w3.setCell ⟨g35, x.ch, none⟩ (.int .i64 ((p : Int) + 1)) = w4 at hst hgt
  clear SS S3 HSP hW3
  refine HK2.out _ _ ?_
  clear HK2
  go_wp2
  refine HK0.out _ _ ?_
  clear HK0
  go_wp2
  exact HQ.out w4 hst (grown_trans (grown_weak G3 _) hgt)

set_option maxHeartbeats 64000000 in
/-- one that was told: the next that was put -/
theorem ca_t61 {u0 u1 u2 u3 u4 u5 u6 u7 u8 u9 u10 u11 u14 u15 u16 u17 u18 u19 u20 u21 u22 u23 u24 u25 u26 u27 u28 u29 u30 u31 u32 u33 u34 u37 u38 u39 u40 u41 u42 u43 u44 u45 u46 u47 u48 u49 u50 u51 u52 u53 u54 u55 u56 u57 u58 u59 u60 u61 u62 u63 u64 u65 u66 u67 u68 u69 u70 u71 u72 u73 u74 u75 u76 u77 u78 u79 u80 u81 u82 u83 u84 u85 u86 u87 u88 u89 u90 u91 u92 u93 u94 u95 u96 u97 u98 u99 u100 u101 u102 u103 u104 u105 u106 u107 u108 u109 u110 u111 u112 u113 u114 u115 u116 u117 u118 u119 u120 u121 u122 u123 u124 u125 u126 u127 u128 u129 u130 u131 u132 u133 u134 u135 u136 u137 u138 u139 u140 u141 u142 u143 u144 u145 u146 u147 u148 u149 u150 u151 u152 u153 u154 u155 u156 u157 u158 u159 u160 u161 u162 u163 u164 u165 u166 u167 u168 u169 u170 u171 u172 u173 u174 u175 u176 u177 u178 u179 u180 u181 u182 u183 u184 u185 u186 u187 u188 u189 u190 u191 u192 u193 u194 u195 u196 u197 u198 u199 u200 u201 u202 u203 u204 u205 u206 u207 u208 u209 u210 u211 u212 u213 u214 u215 u216 u217 u218 u219 u220 u221 u222 u223 u224 u225 u226 u227 u228 u229 u230 u231 u232 u233 u234 u235 u236 u237 u238 u239 u240 u241 u242 u243 u244 u245 u246 u247 u248 u249 u250 u251 u252 u253 u254 u255 u256 u257 u258 u259 u260 u261 u262 u263 u264 u265 u266 u267 u268 u269 u270 u271 u272 u273 u274 u275 u276 u277 u278 u279 u280 u281 u282 u283 u284 u285 u286 u287 u288 u289 u290 u291 u292 u293 u294 u295 u296 u297 u298 u299 u300 u301 u302 u303 u304 u305 u306 u307 u308 u309 u310 u311 u312 u313 u314 u315 u316 u317 u318 u319 u320 u321 u322 u323 u324 u325 u326 u327 u328 u329 u330 u331 u332 u333 u334 u335 u336 u337 u338 u339 u340 u341 u342 u343 u344 u345 u346 u347 u348 u349 u350 u351 u352 u353 u354 u355 u356 u357 u358 u359 u360 u361 u362 u363 u364 u365 u366 u367 u368 u369 u370 u371 u372 u373 u374 u375 u376 u377 u378 u379 u380 u381 u382 u383 u384 u385 u386 u387 u388 u389 u390 u391 u392 u393 u394 u395 u396 u397 u398 u399 u400 u401 u402 u403 u404 u405 u406 u407 u408 u409 u410 u411 u412 u413 u414 u415 u416 u417 u418 u419 u420 u421 u422 u423 u424 u425 u426 u427 u428 u429 u430 u431 u432 u433 u434 u435 u436 u437 u438 u439 u440 u441 u442 u443 u444 u445 u446 u447 u448 u449 u450 u451 u452 u453 u454 u455 u456 u457 u458 u459 u460 u461 u462 u463 u464 u465 u466 u467 u468 u469 u470 u471 u472 u473 u474 u475 u476 u477 u478 u479 u480 u481 u482 u483 u484 u485 : Value} (Q : Exit → Act → World → Prop) (w : World) (lo ga an ac gu un uc g35 j m m' : Nat) (x : Tk) (aks : List Tk) (us : List Pu) (W : List Nat) (hA : OwT 79 8 w lo (some ⟨ga, 0, none⟩) an ac (aks.map Tk.th)) (hU : OwT 66 7 w lo (some ⟨gu, 0, none⟩) un uc (us.map Pu.th)) (hW : WtR w g35 W) (hWl : W.length = 7) (hc : x.ch < 7) (hx : aks[j]? = some x) (hun : un ≤ 1000) (han : an ≤ 100000)
    (hnx : ∀ p, (((us.map Pu.d).take p).filter (fun y => y.1 == x.ch)).length = m → p < un ∧ ∀ u, us[p]? = some u → u.ch = x.ch → u.p.d = x.p.d ∧ (((us.map Pu.d).take (p + 1)).filter (fun y => y.1 == x.ch)).length = m') (h0 : (((us.map Pu.d).take (nth W x.ch)).filter (fun y => y.1 == x.ch)).length = m)
    (hP : ∀ c a a' wz, a.defers = a'.defers → Q (.panic c) a wz → Q (.panic c) a' wz)
    (hQ : ∀ {z37 z272 z273 z274 z275 z276 z277 z278 z279 z280 z281 z282 z283 z284 z285 z286 z287 z288 z289 z290 z291 z292 z293 z294 z295 z296 z297 z298 z299 z300 z301 z302 z303 z304 z305 z306 z307 z308 z309 z310 z311 z312 z313 z314 z315 z316 z317 z318 z319 z320 z321 z322 z323 z324 z325 z326 z327 z328 z329 z330 z331 z332 z333 z334 z335 : Value} w' p, WtR w' g35 (W.set x.ch p) → (((us.map Pu.d).take p).filter (fun y => y.1 == x.ch)).length = m' → w.grownBy w' (some g35) → Q .normal (Act.mk (List.toArray (u0 :: u1 :: u2 :: u3 :: u4 :: u5 :: u6 :: u7 :: u8 :: u9 :: u10 :: u11 :: (.slice (some ⟨gu, 0, none⟩) un uc) :: (.slice (some ⟨ga, 0, none⟩) an ac) :: u14 :: u15 :: u16 :: u17 :: u18 :: u19 :: u20 :: u21 :: u22 :: u23 :: u24 :: u25 :: u26 :: u27 :: u28 :: u29 :: u30 :: u31 :: u32 :: u33 :: u34 :: (.slice (some ⟨g35, 0, none⟩) 7 7) :: (.int .i64 ((j + 1 : Nat) : Int)) :: z37 :: u38 :: u39 :: u40 :: u41 :: u42 :: u43 :: u44 :: u45 :: u46 :: u47 :: u48 :: u49 :: u50 :: u51 :: u52 :: u53 :: u54 :: u55 :: u56 :: u57 :: u58 :: u59 :: u60 :: u61 :: u62 :: u63 :: u64 :: u65 :: u66 :: u67 :: u68 :: u69 :: u70 :: u71 :: u72 :: u73 :: u74 :: u75 :: u76 :: u77 :: u78 :: u79 :: u80 :: u81 :: u82 :: u83 :: u84 :: u85 :: u86 :: u87 :: u88 :: u89 :: u90 :: u91 :: u92 :: u93 :: u94 :: u95 :: u96 :: u97 :: u98 :: u99 :: u100 :: u101 :: u102 :: u103 :: u104 :: u105 :: u106 :: u107 :: u108 :: u109 :: u110 :: u111 :: u112 :: u113 :: u114 :: u115 :: u116 :: u117 :: u118 :: u119 :: u120 :: u121 :: u122 :: u123 :: u124 :: u125 :: u126 :: u127 :: u128 :: u129 :: u130 :: u131 :: u132 :: u133 :: u134 :: u135 :: u136 :: u137 :: u138 :: u139 :: u140 :: u141 :: u142 :: u143 :: u144 :: u145 :: u146 :: u147 :: u148 :: u149 :: u150 :: u151 :: u152 :: u153 :: u154 :: u155 :: u156 :: u157 :: u158 :: u159 :: u160 :: u161 :: u162 :: u163 :: u164 :: u165 :: u166 :: u167 :: u168 :: u169 :: u170 :: u171 :: u172 :: u173 :: u174 :: u175 :: u176 :: u177 :: u178 :: u179 :: u180 :: u181 :: u182 :: u183 :: u184 :: u185 :: u186 :: u187 :: u188 :: u189 :: u190 :: u191 :: u192 :: u193 :: u194 :: u195 :: u196 :: u197 :: u198 :: u199 :: u200 :: u201 :: u202 :: u203 :: u204 :: u205 :: u206 :: u207 :: u208 :: u209 :: u210 :: u211 :: u212 :: u213 :: u214 :: u215 :: u216 :: u217 :: u218 :: u219 :: u220 :: u221 :: u222 :: u223 :: u224 :: u225 :: u226 :: u227 :: u228 :: u229 :: u230 :: u231 :: u232 :: u233 :: u234 :: u235 :: u236 :: u237 :: u238 :: u239 :: u240 :: u241 :: u242 :: u243 :: u244 :: u245 :: u246 :: u247 :: u248 :: u249 :: u250 :: u251 :: u252 :: u253 :: u254 :: u255 :: u256 :: u257 :: u258 :: u259 :: u260 :: u261 :: u262 :: u263 :: u264 :: u265 :: u266 :: u267 :: u268 :: u269 :: u270 :: u271 :: z272 :: z273 :: z274 :: z275 :: z276 :: z277 :: z278 :: z279 :: z280 :: z281 :: z282 :: z283 :: z284 :: z285 :: z286 :: z287 :: z288 :: z289 :: z290 :: z291 :: z292 :: z293 :: z294 :: z295 :: z296 :: z297 :: z298 :: z299 :: z300 :: z301 :: z302 :: z303 :: z304 :: z305 :: z306 :: z307 :: z308 :: z309 :: z310 :: z311 :: z312 :: z313 :: z314 :: z315 :: z316 :: z317 :: z318 :: z319 :: z320 :: z321 :: z322 :: z323 :: z324 :: z325 :: z326 :: z327 :: z328 :: z329 :: z330 :: z331 :: z332 :: z333 :: z334 :: z335 :: u336 :: u337 :: u338 :: u339 :: u340 :: u341 :: u342 :: u343 :: u344 :: u345 :: u346 :: u347 :: u348 :: u349 :: u350 :: u351 :: u352 :: u353 :: u354 :: u355 :: u356 :: u357 :: u358 :: u359 :: u360 :: u361 :: u362 :: u363 :: u364 :: u365 :: u366 :: u367 :: u368 :: u369 :: u370 :: u371 :: u372 :: u373 :: u374 :: u375 :: u376 :: u377 :: u378 :: u379 :: u380 :: u381 :: u382 :: u383 :: u384 :: u385 :: u386 :: u387 :: u388 :: u389 :: u390 :: u391 :: u392 :: u393 :: u394 :: u395 :: u396 :: u397 :: u398 :: u399 :: u400 :: u401 :: u402 :: u403 :: u404 :: u405 :: u406 :: u407 :: u408 :: u409 :: u410 :: u411 :: u412 :: u413 :: u414 :: u415 :: u416 :: u417 :: u418 :: u419 :: u420 :: u421 :: u422 :: u423 :: u424 :: u425 :: u426 :: u427 :: u428 :: u429 :: u430 :: u431 :: u432 :: u433 :: u434 :: u435 :: u436 :: u437 :: u438 :: u439 :: u440 :: u441 :: u442 :: u443 :: u444 :: u445 :: u446 :: u447 :: u448 :: u449 :: u450 :: u451 :: u452 :: u453 :: u454 :: u455 :: u456 :: u457 :: u458 :: u459 :: u460 :: u461 :: u462 :: u463 :: u464 :: u465 :: u466 :: u467 :: u468 :: u469 :: u470 :: u471 :: u472 :: u473 :: u474 :: u475 :: u476 :: u477 :: u478 :: u479 :: u480 :: u481 :: u482 :: u483 :: u484 :: u485 :: [])) []) w') :
    Code.wp Try.prog (tailR 61 (Try.f10.body.getD .skip)) Q (Act.mk (List.toArray (u0 :: u1 :: u2 :: u3 :: u4 :: u5 :: u6 :: u7 :: u8 :: u9 :: u10 :: u11 :: (.slice (some ⟨gu, 0, none⟩) un uc) :: (.slice (some ⟨ga, 0, none⟩) an ac) :: u14 :: u15 :: u16 :: u17 :: u18 :: u19 :: u20 :: u21 :: u22 :: u23 :: u24 :: u25 :: u26 :: u27 :: u28 :: u29 :: u30 :: u31 :: u32 :: u33 :: u34 :: (.slice (some ⟨g35, 0, none⟩) 7 7) :: (.int .i64 (j : Int)) :: u37 :: u38 :: u39 :: u40 :: u41 :: u42 :: u43 :: u44 :: u45 :: u46 :: u47 :: u48 :: u49 :: u50 :: u51 :: u52 :: u53 :: u54 :: u55 :: u56 :: u57 :: u58 :: u59 :: u60 :: u61 :: u62 :: u63 :: u64 :: u65 :: u66 :: u67 :: u68 :: u69 :: u70 :: u71 :: u72 :: u73 :: u74 :: u75 :: u76 :: u77 :: u78 :: u79 :: u80 :: u81 :: u82 :: u83 :: u84 :: u85 :: u86 :: u87 :: u88 :: u89 :: u90 :: u91 :: u92 :: u93 :: u94 :: u95 :: u96 :: u97 :: u98 :: u99 :: u100 :: u101 :: u102 :: u103 :: u104 :: u105 :: u106 :: u107 :: u108 :: u109 :: u110 :: u111 :: u112 :: u113 :: u114 :: u115 :: u116 :: u117 :: u118 :: u119 :: u120 :: u121 :: u122 :: u123 :: u124 :: u125 :: u126 :: u127 :: u128 :: u129 :: u130 :: u131 :: u132 :: u133 :: u134 :: u135 :: u136 :: u137 :: u138 :: u139 :: u140 :: u141 :: u142 :: u143 :: u144 :: u145 :: u146 :: u147 :: u148 :: u149 :: u150 :: u151 :: u152 :: u153 :: u154 :: u155 :: u156 :: u157 :: u158 :: u159 :: u160 :: u161 :: u162 :: u163 :: u164 :: u165 :: u166 :: u167 :: u168 :: u169 :: u170 :: u171 :: u172 :: u173 :: u174 :: u175 :: u176 :: u177 :: u178 :: u179 :: u180 :: u181 :: u182 :: u183 :: u184 :: u185 :: u186 :: u187 :: u188 :: u189 :: u190 :: u191 :: u192 :: u193 :: u194 :: u195 :: u196 :: u197 :: u198 :: u199 :: u200 :: u201 :: u202 :: u203 :: u204 :: u205 :: u206 :: u207 :: u208 :: u209 :: u210 :: u211 :: u212 :: u213 :: u214 :: u215 :: u216 :: u217 :: u218 :: u219 :: u220 :: u221 :: u222 :: u223 :: u224 :: u225 :: u226 :: u227 :: u228 :: u229 :: u230 :: u231 :: u232 :: u233 :: u234 :: u235 :: u236 :: u237 :: u238 :: u239 :: u240 :: u241 :: u242 :: u243 :: u244 :: u245 :: u246 :: u247 :: u248 :: u249 :: u250 :: u251 :: u252 :: u253 :: u254 :: u255 :: u256 :: u257 :: u258 :: u259 :: u260 :: u261 :: u262 :: u263 :: u264 :: u265 :: u266 :: u267 :: u268 :: u269 :: u270 :: u271 :: u272 :: u273 :: u274 :: u275 :: u276 :: u277 :: u278 :: u279 :: u280 :: u281 :: u282 :: u283 :: u284 :: u285 :: u286 :: u287 :: u288 :: u289 :: u290 :: u291 :: u292 :: u293 :: u294 :: u295 :: u296 :: u297 :: u298 :: u299 :: u300 :: u301 :: u302 :: u303 :: u304 :: u305 :: u306 :: u307 :: u308 :: u309 :: u310 :: u311 :: u312 :: u313 :: u314 :: u315 :: u316 :: u317 :: u318 :: u319 :: u320 :: u321 :: u322 :: u323 :: u324 :: u325 :: u326 :: u327 :: u328 :: u329 :: u330 :: u331 :: u332 :: u333 :: u334 :: u335 :: u336 :: u337 :: u338 :: u339 :: u340 :: u341 :: u342 :: u343 :: u344 :: u345 :: u346 :: u347 :: u348 :: u349 :: u350 :: u351 :: u352 :: u353 :: u354 :: u355 :: u356 :: u357 :: u358 :: u359 :: u360 :: u361 :: u362 :: u363 :: u364 :: u365 :: u366 :: u367 :: u368 :: u369 :: u370 :: u371 :: u372 :: u373 :: u374 :: u375 :: u376 :: u377 :: u378 :: u379 :: u380 :: u381 :: u382 :: u383 :: u384 :: u385 :: u386 :: u387 :: u388 :: u389 :: u390 :: u391 :: u392 :: u393 :: u394 :: u395 :: u396 :: u397 :: u398 :: u399 :: u400 :: u401 :: u402 :: u403 :: u404 :: u405 :: u406 :: u407 :: u408 :: u409 :: u410 :: u411 :: u412 :: u413 :: u414 :: u415 :: u416 :: u417 :: u418 :: u419 :: u420 :: u421 :: u422 :: u423 :: u424 :: u425 :: u426 :: u427 :: u428 :: u429 :: u430 :: u431 :: u432 :: u433 :: u434 :: u435 :: u436 :: u437 :: u438 :: u439 :: u440 :: u441 :: u442 :: u443 :: u444 :: u445 :: u446 :: u447 :: u448 :: u449 :: u450 :: u451 :: u452 :: u453 :: u454 :: u455 :: u456 :: u457 :: u458 :: u459 :: u460 :: u461 :: u462 :: u463 :: u464 :: u465 :: u466 :: u467 :: u468 :: u469 :: u470 :: u471 :: u472 :: u473 :: u474 :: u475 :: u476 :: u477 :: u478 :: u479 :: u480 :: u481 :: u482 :: u483 :: u484 :: u485 :: [])) []) w := by
  let pq : Exit → Act → World → Prop := bodyPost Try.prog Try.f10 (fun _ _ => True)
  conv => enter [2]; whnf
  have HQ : Hid _ := @hQ
  have HNX : Hid _ := hnx
  have H0 : Hid _ := h0
  clear hQ hnx h0
  have m3 : aks.length = an := by have := hA.len; rw [List.length_map] at this; exact this
  have m4 : us.length = un := by have := hU.len; rw [List.length_map] at this; exact this
  have hj : j < an := by have := (List.getElem?_eq_some_iff.1 hx).1; omega
  obtain ⟨x0, x1, _⟩ := hA.eight hx
  have lj : (j : Int) < (an : Int) := by omega
  have lc : (x.ch : Int) < 7 := by omega
  have M3 : Hid _ := m3
  have M4 : Hid _ := m4
  clear m3 m4
  refine wp_seq_k fun K0 hK0 => ?_
  have HK0 : Hid _ := hK0
  clear hK0
  refine wp_block ?_
  refine wp_seq_k fun K1 hK1 => ?_
  have HK1 : Hid _ := hK1
  clear hK1
  go_wp2
  refine HK1.out _ _ ?_
  clear HK1
  clear x0 x1
  refine wp_seq_k fun K2 hK2 => ?_
  have HK2 : Hid _ := hK2
  clear hK2
  go_wp2
  go_loopw [] (fun wr => ∃ p, WtR wr g35 (W.set x.ch p) ∧ Hid ((((us.map Pu.d).take p).filter (fun y => y.1 == x.ch)).length = m) ∧ w.grownBy wr (some g35)) (fun wr => atM wr g35 x.ch un)
  case atStart => exact ⟨nth W x.ch, by rw [set_nth7 _ _ (by omega)]; exact hW, H0.out, grown_refl' _ _⟩
  case round =>
    obtain ⟨p, hWr, HC, ur⟩ := hrel
    obtain ⟨hp, hq⟩ := HNX.out p HC.out
    have hUr := hU.tyO ur (BxS.tyo1 hW) (by decide) (by decide)
    have hAr := hA.tyO ur (BxS.tyo1 hW) (by decide) (by decide)
    obtain ⟨u, hu⟩ : ∃ u, us[p]? = some u := ⟨us[p]'(by have := M4.out; omega), List.getElem?_eq_getElem _⟩
    obtain ⟨y0, _⟩ := hUr.sevenP hu
    have q0 := hWr.cell x.ch (by rw [List.length_set]; omega)
    rw [nth_set7 _ _ _ (by omega)] at q0
    have qf := hWr.free x.ch
    have lp : (p : Int) < (un : Int) := by omega
    have HQQ : Hid _ := hq
    clear hq
    by_cases e : u.ch = x.ch
    · rw [e] at y0
      have HE : Hid _ := e
      clear e
      go_wp2
      refine HK2.out _ _ ?_
      clear HK2
      obtain ⟨hd, hm⟩ := HQQ.out u hu HE.out
      have HM : Hid _ := hm
      clear hm
      refine ca_t64 _ wr lo ga an ac gu un uc g35 j p x u aks us W hAr hUr hWr hWl hc hx hu hd hun han (fun c a a' wz e h => hP c a a' wz e h) ?_
      intros
      rename_i w7 hW7 G7
      simp only [Exit.inBlock, Exit.then]
      refine HK0.out _ _ ?_
      clear HK0
      go_wp2
      exact HQ.out w7 (p + 1) hW7 HM.out (grown_trans ur G7)
    · have hby : (((us.map Pu.d).take (p + 1)).filter (fun y => y.1 == x.ch)).length = m := by
        rw [filt_by (x := u.d) (by rw [List.getElem?_map, hu]; rfl) (by simpa [Pu.d] using e)]
        exact HC.out
      have HBY : Hid _ := hby
      have nc : ¬ (u.ch : Int) = (x.ch : Int) := by omega
      have hst : WtR (wr.setCell ⟨g35, x.ch, none⟩ (.int .i64 ((p : Int) + 1))) g35 (W.set x.ch (p + 1)) := by have h := hWr.set x.ch (p + 1); rw [List.set_set] at h; exact h
      have hgt := grown_set wr g35 x.ch (.int .i64 ((p : Int) + 1))
      generalize hw4 : wr.setCell ⟨g35, x.ch, none⟩ (.int .i64 ((p : Int) + 1)) = w4 at hst hgt
      have q4 := hst.cell x.ch (by rw [List.length_set]; omega)
      rw [nth_set7 _ _ _ (by omega)] at q4
      have hmu : atM w4 g35 x.ch un < atM wr g35 x.ch un := by rw [atM_of q4, atM_of q0]; omega
      have HMU : Hid _ := hmu
      clear hmu q4 hby e
      generalize u.ch = uc9 at *
      go_wp2
      go_roundw
      case rel => exact ⟨p + 1, hst, HBY.out, grown_trans ur hgt⟩
      case measure => exact HMU.out

set_option maxHeartbeats 64000000 in
/-- what was heard of each channel is what was put; and what follows -/
theorem ca_t57 {u0 u1 u2 u3 u4 u7 u8 u9 u10 u11 u17 u18 u19 u20 u21 u22 u23 u24 u25 u26 u27 u28 u29 u30 u31 u32 u33 u34 u35 u36 u37 u38 u39 u40 u41 u42 u43 u44 u45 u46 u47 u48 u49 u50 u51 u52 u53 u54 u55 u56 u57 u58 u59 u60 u61 u62 u63 u64 u65 u66 u67 u68 u69 u70 u71 u72 u73 u74 u75 u76 u77 u78 u79 u80 u81 u82 u83 u84 u85 u86 u87 u88 u89 u90 u91 u92 u93 u94 u95 u96 u97 u98 u99 u100 u101 u102 u103 u104 u105 u106 u107 u108 u109 u110 u111 u112 u113 u114 u115 u116 u117 u118 u119 u120 u121 u122 u123 u124 u125 u126 u127 u128 u129 u130 u131 u132 u133 u134 u135 u136 u137 u138 u139 u140 u141 u142 u143 u144 u145 u146 u147 u148 u149 u150 u151 u152 u153 u154 u155 u156 u157 u158 u159 u160 u161 u162 u163 u164 u165 u166 u167 u168 u169 u170 u171 u172 u173 u174 u175 u176 u177 u178 u179 u180 u181 u182 u183 u184 u185 u186 u187 u188 u189 u190 u191 u192 u193 u194 u195 u196 u197 u198 u199 u200 u201 u202 u203 u204 u205 u206 u207 u208 u209 u210 u211 u212 u213 u214 u215 u216 u217 u218 u219 u220 u221 u222 u223 u224 u225 u226 u227 u228 u229 u230 u231 u232 u233 u234 u235 u236 u237 u238 u239 u240 u241 u242 u243 u244 u245 u246 u247 u248 u249 u250 u251 u252 u253 u254 u255 u256 u257 u258 u259 u260 u261 u262 u263 u264 u265 u266 u267 u268 u269 u270 u271 u272 u273 u274 u275 u276 u277 u278 u279 u280 u281 u282 u283 u284 u285 u286 u287 u288 u289 u290 u291 u292 u293 u294 u295 u296 u297 u298 u299 u300 u301 u302 u303 u304 u305 u306 u307 u308 u309 u310 u311 u312 u313 u314 u315 u316 u317 u318 u319 u320 u321 u322 u323 u324 u325 u326 u327 u328 u329 u330 u331 u332 u333 u334 u335 u336 u337 u338 u339 u340 u341 u342 u343 u344 u345 u346 u347 u348 u349 u350 u351 u352 u353 u354 u355 u356 u357 u358 u359 u360 u361 u362 u363 u364 u365 u366 u367 u368 u369 u370 u371 u372 u373 u374 u375 u376 u377 u378 u379 u380 u381 u382 u383 u384 u385 u386 u387 u388 u389 u390 u391 u392 u393 u394 u395 u396 u397 u398 u399 u400 u401 u402 u403 u404 u405 u406 u407 u408 u409 u410 u411 u412 u413 u414 u415 u416 u417 u418 u419 u420 u421 u422 u423 u424 u425 u426 u427 u428 u429 u430 u431 u432 u433 u434 u435 u436 u437 u438 u439 u440 u441 u442 u443 u444 u445 u446 u447 u448 u449 u450 u451 u452 u453 u454 u455 u456 u457 u458 u459 u460 u461 u462 u463 u464 u465 u466 u467 u468 u469 u470 u471 u472 u473 u474 u475 u476 u477 u478 u479 u480 u481 u482 u483 u484 u485 : Value} (w0 w : World) (lo room : Nat) (aa ba ca da : Option Addr) (an ac bn bc cn cc dc : Nat) (N : Int) (aks bs : List Tk) (cs : List Nat) (ds fl : List Bool) (hA : OwT 79 8 w lo aa an ac (aks.map Tk.th)) (hB : OwT 79 8 w lo ba bn bc (bs.map Tk.th)) (hC : OwT 3 1 w lo ca cn cc (cs.map Ti)) (hD : OwT 4 1 w lo da cn dc (ds.map Tb)) (hN : N = (room : Int) + 12) (hr : 1 ≤ room ∧ room ≤ 60) (hcn : cn ≤ 1000) (han : an ≤ 100000) (hbn : bn ≤ 100000) (hfr : ∀ x, x ∈ aks → x.fr < cn) (hpn : ∀ x, x ∈ aks → x.p.n ≤ 90)
    (hz : fl.length = (aks.map Tk.d).length) (hsel : sel (aks.map Tk.d) fl = bs.map Tk.d) (hfI : ∀ (k : Nat) (x : Tl) (f : Bool), (aks.map Tk.d)[k]? = some x → fl[k]? = some f → FlI cs ds room x f) (hct : (aks.map Tk.d).Pairwise (fun x y => x.p.ct ≠ y.p.ct)) (G : w0.grownBy w none) (ua : Option Addr) (un uc g6 qc ql : Nat) (qa : Option Addr) (ma : Int) (t : Nat) (qs : List Qw) (Qs : List Qd) (b6 : BxS w g6 38 #[.int .i64 77, .int .i64 N, .int .i64 ma, .int .i64 (t : Int), .slice qa 7 qc]) (hS : WkS w ql qa 7 qc qs Qs) (hqt : (∀ c, c < 7 → (Qs.getD c qd0).P.length = 0) → an = un) (us : List Pu) (hU : OwT 66 7 w lo ua un uc (us.map Pu.th)) (hun : un ≤ 1000) (hch : ∀ x, x ∈ aks → x.ch < 7)
    (hnx : ∀ (j p : Nat) (x : Tk), aks[j]? = some x → (((us.map Pu.d).take p).filter (fun y => y.1 == x.ch)).length = (((aks.map Tk.d).take j).filter (fun y => y.ch == x.ch)).length → p < un ∧ ∀ u, us[p]? = some u → u.ch = x.ch → u.p.d = x.p.d ∧ (((us.map Pu.d).take (p + 1)).filter (fun y => y.1 == x.ch)).length = (((aks.map Tk.d).take (j + 1)).filter (fun y => y.ch == x.ch)).length) :
    Code.wp Try.prog (tailR 57 (Try.f10.body.getD .skip)) (bodyPost Try.prog Try.f10 (fun e w' => e = .returned (.bool true) ∧ w0.grownBy w' none)) (Act.mk (List.toArray (u0 :: u1 :: u2 :: u3 :: u4 :: (.int .i64 N) :: (.pointer (some ⟨g6, 0, none⟩)) :: u7 :: u8 :: u9 :: u10 :: u11 :: (.slice ua un uc) :: (.slice aa an ac) :: (.slice ba bn bc) :: (.slice ca cn cc) :: (.slice da cn dc) :: u17 :: u18 :: u19 :: u20 :: u21 :: u22 :: u23 :: u24 :: u25 :: u26 :: u27 :: u28 :: u29 :: u30 :: u31 :: u32 :: u33 :: u34 :: u35 :: u36 :: u37 :: u38 :: u39 :: u40 :: u41 :: u42 :: u43 :: u44 :: u45 :: u46 :: u47 :: u48 :: u49 :: u50 :: u51 :: u52 :: u53 :: u54 :: u55 :: u56 :: u57 :: u58 :: u59 :: u60 :: u61 :: u62 :: u63 :: u64 :: u65 :: u66 :: u67 :: u68 :: u69 :: u70 :: u71 :: u72 :: u73 :: u74 :: u75 :: u76 :: u77 :: u78 :: u79 :: u80 :: u81 :: u82 :: u83 :: u84 :: u85 :: u86 :: u87 :: u88 :: u89 :: u90 :: u91 :: u92 :: u93 :: u94 :: u95 :: u96 :: u97 :: u98 :: u99 :: u100 :: u101 :: u102 :: u103 :: u104 :: u105 :: u106 :: u107 :: u108 :: u109 :: u110 :: u111 :: u112 :: u113 :: u114 :: u115 :: u116 :: u117 :: u118 :: u119 :: u120 :: u121 :: u122 :: u123 :: u124 :: u125 :: u126 :: u127 :: u128 :: u129 :: u130 :: u131 :: u132 :: u133 :: u134 :: u135 :: u136 :: u137 :: u138 :: u139 :: u140 :: u141 :: u142 :: u143 :: u144 :: u145 :: u146 :: u147 :: u148 :: u149 :: u150 :: u151 :: u152 :: u153 :: u154 :: u155 :: u156 :: u157 :: u158 :: u159 :: u160 :: u161 :: u162 :: u163 :: u164 :: u165 :: u166 :: u167 :: u168 :: u169 :: u170 :: u171 :: u172 :: u173 :: u174 :: u175 :: u176 :: u177 :: u178 :: u179 :: u180 :: u181 :: u182 :: u183 :: u184 :: u185 :: u186 :: u187 :: u188 :: u189 :: u190 :: u191 :: u192 :: u193 :: u194 :: u195 :: u196 :: u197 :: u198 :: u199 :: u200 :: u201 :: u202 :: u203 :: u204 :: u205 :: u206 :: u207 :: u208 :: u209 :: u210 :: u211 :: u212 :: u213 :: u214 :: u215 :: u216 :: u217 :: u218 :: u219 :: u220 :: u221 :: u222 :: u223 :: u224 :: u225 :: u226 :: u227 :: u228 :: u229 :: u230 :: u231 :: u232 :: u233 :: u234 :: u235 :: u236 :: u237 :: u238 :: u239 :: u240 :: u241 :: u242 :: u243 :: u244 :: u245 :: u246 :: u247 :: u248 :: u249 :: u250 :: u251 :: u252 :: u253 :: u254 :: u255 :: u256 :: u257 :: u258 :: u259 :: u260 :: u261 :: u262 :: u263 :: u264 :: u265 :: u266 :: u267 :: u268 :: u269 :: u270 :: u271 :: u272 :: u273 :: u274 :: u275 :: u276 :: u277 :: u278 :: u279 :: u280 :: u281 :: u282 :: u283 :: u284 :: u285 :: u286 :: u287 :: u288 :: u289 :: u290 :: u291 :: u292 :: u293 :: u294 :: u295 :: u296 :: u297 :: u298 :: u299 :: u300 :: u301 :: u302 :: u303 :: u304 :: u305 :: u306 :: u307 :: u308 :: u309 :: u310 :: u311 :: u312 :: u313 :: u314 :: u315 :: u316 :: u317 :: u318 :: u319 :: u320 :: u321 :: u322 :: u323 :: u324 :: u325 :: u326 :: u327 :: u328 :: u329 :: u330 :: u331 :: u332 :: u333 :: u334 :: u335 :: u336 :: u337 :: u338 :: u339 :: u340 :: u341 :: u342 :: u343 :: u344 :: u345 :: u346 :: u347 :: u348 :: u349 :: u350 :: u351 :: u352 :: u353 :: u354 :: u355 :: u356 :: u357 :: u358 :: u359 :: u360 :: u361 :: u362 :: u363 :: u364 :: u365 :: u366 :: u367 :: u368 :: u369 :: u370 :: u371 :: u372 :: u373 :: u374 :: u375 :: u376 :: u377 :: u378 :: u379 :: u380 :: u381 :: u382 :: u383 :: u384 :: u385 :: u386 :: u387 :: u388 :: u389 :: u390 :: u391 :: u392 :: u393 :: u394 :: u395 :: u396 :: u397 :: u398 :: u399 :: u400 :: u401 :: u402 :: u403 :: u404 :: u405 :: u406 :: u407 :: u408 :: u409 :: u410 :: u411 :: u412 :: u413 :: u414 :: u415 :: u416 :: u417 :: u418 :: u419 :: u420 :: u421 :: u422 :: u423 :: u424 :: u425 :: u426 :: u427 :: u428 :: u429 :: u430 :: u431 :: u432 :: u433 :: u434 :: u435 :: u436 :: u437 :: u438 :: u439 :: u440 :: u441 :: u442 :: u443 :: u444 :: u445 :: u446 :: u447 :: u448 :: u449 :: u450 :: u451 :: u452 :: u453 :: u454 :: u455 :: u456 :: u457 :: u458 :: u459 :: u460 :: u461 :: u462 :: u463 :: u464 :: u465 :: u466 :: u467 :: u468 :: u469 :: u470 :: u471 :: u472 :: u473 :: u474 :: u475 :: u476 :: u477 :: u478 :: u479 :: u480 :: u481 :: u482 :: u483 :: u484 :: u485 :: [])) []) w := by
  conv => enter [2]; whnf
  have HQT : Hid _ := hqt
  have HN : Hid _ := hN
  have HSE : Hid _ := hsel
  have HZ : Hid _ := hz
  have HFI : Hid _ := hfI
  have HNX : Hid _ := hnx
  have HCT : Hid _ := hct
  have HFR : Hid _ := hfr
  have HPN : Hid _ := hpn
  have HCH : Hid _ := hch
  have m3 : aks.length = an := by have := hA.len; rw [List.length_map] at this; exact this
  have M3 : Hid _ := m3
  clear hqt hN hsel hz hfI hnx hct hfr hpn hch m3
  refine wp_seq_k fun K1 hK1 => ?_
  have HK1 : Hid _ := hK1
  clear hK1
  have s0 : True := trivial
  go_wp2_with (at_make; have _t := s0; clear s0; refine wpList_mk7 _ rfl _ _ rfl rfl rfl ?_; intro w4 hW4 g4)
  refine HK1.out _ _ ?_
  clear HK1
  obtain ⟨g35, hg35⟩ : ∃ g35, w.heap.size = g35 := ⟨_, rfl⟩
  have h35 : w.heap.size ≤ g35 := by omega
  rw [hg35] at hW4 ⊢
  clear hg35
  refine wp_seq_k fun K2 hK2 => ?_
  have HK2 : Hid _ := hK2
  clear hK2
  refine wp_seq_k fun K3 hK3 => ?_
  have HK3 : Hid _ := hK3
  clear hK3
  go_wp2
  refine HK3.out _ _ ?_
  clear HK3
  go_wp2
  go_loopw [36] (fun jv wr => ∃ (j : Nat) (W : List Nat), j ≤ an ∧ jv = .int .i64 j ∧ WtR wr g35 W ∧ W.length = 7 ∧ Hid (∀ c, c < 7 → (((us.map Pu.d).take (nth W c)).filter (fun y => y.1 == c)).length = (((aks.map Tk.d).take j).filter (fun y => y.ch == c)).length) ∧ w.grownBy wr none) (fun jv _ => an - (intOf jv).toNat)
  case atStart => exact ⟨0, _, Nat.zero_le _, rfl, hW4, rfl, (fun c hc => by rw [nth_zeros]; rfl), g4⟩
  case round =>
    obtain ⟨j, W, hj, rfl, hWr, hWl, HC, Gr⟩ := hrel
    by_cases hlt : j < an
    · have lj : (j : Int) < (an : Int) := by omega
      obtain ⟨x, hx⟩ : ∃ x, aks[j]? = some x := ⟨aks[j]'(by have := M3.out; omega), List.getElem?_eq_getElem _⟩
      have hxm := List.mem_of_getElem? hx
      have hc := HCH.out x hxm
      have h0 := HC.out x.ch hc
      have hn := fun p => HNX.out j p x hx
      have hun0 : 0 < un := by have := (hn _ h0).1; omega
      obtain ⟨ga, hga⟩ := hA.someT (by omega)
      obtain ⟨gu, hgu⟩ := hU.someT hun0
      subst hga hgu
      have HNN : Hid _ := hn
      have H0 : Hid _ := h0
      clear hn h0
      refine wp_seq_k fun K4 hK4 => ?_
      have HK4 : Hid _ := hK4
      clear hK4
      go_wp2
      refine HK4.out _ _ ?_
      clear HK4
      refine ca_t61 _ wr lo ga an ac gu un uc g35 j _ _ x aks us W (hA.keep Gr) (hU.keep Gr) hWr hWl hc hx hun han HNN.out H0.out (fun c a a' wz e h => by cases a; cases a'; cases e; exact h) ?_
      intros
      rename_i w7 p hW7 hm G7
      have hnew : ∀ c, c < 7 → (((us.map Pu.d).take (nth (W.set x.ch p) c)).filter (fun y => y.1 == c)).length = (((aks.map Tk.d).take (j + 1)).filter (fun y => y.ch == c)).length := by
        intro c hc9
        by_cases e : x.ch = c
        · subst e
          rw [nth_set7 _ _ _ (by omega)]
          exact hm
        · rw [nth_set7' _ _ _ _ e, HC.out c hc9]
          exact (filt_by (L := aks.map Tk.d) (x := x.d) (by rw [List.getElem?_map, hx]; rfl) (by simpa [Tk.d] using e)).symm
      refine ⟨?_, ?_⟩
      · repeat apply Exists.intro
        refine ⟨?_, rfl⟩
        exact ⟨j + 1, W.set x.ch p, by omega, rfl, hW7, by rw [List.length_set]; exact hWl, hnew, grown_far Gr G7 (fun q e => by have e := Option.some.inj e; omega)⟩
      · simp [intOf] <;> omega
    · obtain rfl : j = an := by omega
      have lj : ¬ (j : Int) < (j : Int) := by omega
      go_wp2
      refine HK2.out _ _ ?_
      clear HK2
      exact ca_t67 w0 wr lo room aa ba ca da j ac bn bc cn cc dc N aks bs cs ds fl (hA.keep Gr) (hB.keep Gr) (hC.keep Gr) (hD.keep Gr) HN.out hr hcn han hbn HFR.out HPN.out HZ.out HSE.out HFI.out HCT.out (grown_trans G Gr) ua un uc g6 qc ql qa ma t qs Qs (b6.keep Gr (by simp)) (hS.keep Gr) HQT.out

set_option maxHeartbeats 8000000 in
/-- behind the last job -/
theorem ca_end {u0 u1 u2 u3 u4 u7 u8 u9 u10 u11 u17 u18 u19 u20 u21 u22 u23 u24 u25 u26 u27 u28 u29 u30 u31 u32 u33 u34 u35 u36 u37 u38 u39 u40 u41 u42 u43 u44 u45 u46 u47 u48 u49 u50 u51 u52 u53 u54 u55 u56 u57 u58 u59 u60 u61 u62 u63 u64 u65 u66 u67 u68 u69 u70 u71 u72 u73 u74 u75 u76 u77 u78 u79 u80 u81 u82 u83 u84 u85 u86 u87 u88 u89 u90 u91 u92 u93 u94 u95 u96 u97 u98 u99 u100 u101 u102 u103 u104 u105 u106 u107 u108 u109 u110 u111 u112 u113 u114 u115 u116 u117 u118 u119 u120 u121 u122 u123 u124 u125 u126 u127 u128 u129 u130 u131 u132 u133 u134 u135 u136 u137 u138 u139 u140 u141 u142 u143 u144 u145 u146 u147 u148 u149 u150 u151 u152 u153 u154 u155 u156 u157 u158 u159 u160 u161 u162 u163 u164 u165 u166 u167 u168 u169 u170 u171 u172 u173 u174 u175 u176 u177 u178 u179 u180 u181 u182 u183 u184 u185 u186 u187 u188 u189 u190 u191 u192 u193 u194 u195 u196 u197 u198 u199 u200 u201 u202 u203 u204 u205 u206 u207 u208 u209 u210 u211 u212 u213 u214 u215 u216 u217 u218 u219 u220 u221 u222 u223 u224 u225 u226 u227 u228 u229 u230 u231 u232 u233 u234 u235 u236 u237 u238 u239 u240 u241 u242 u243 u244 u245 u246 u247 u248 u249 u250 u251 u252 u253 u254 u255 u256 u257 u258 u259 u260 u261 u262 u263 u264 u265 u266 u267 u268 u269 u270 u271 u272 u273 u274 u275 u276 u277 u278 u279 u280 u281 u282 u283 u284 u285 u286 u287 u288 u289 u290 u291 u292 u293 u294 u295 u296 u297 u298 u299 u300 u301 u302 u303 u304 u305 u306 u307 u308 u309 u310 u311 u312 u313 u314 u315 u316 u317 u318 u319 u320 u321 u322 u323 u324 u325 u326 u327 u328 u329 u330 u331 u332 u333 u334 u335 u336 u337 u338 u339 u340 u341 u342 u343 u344 u345 u346 u347 u348 u349 u350 u351 u352 u353 u354 u355 u356 u357 u358 u359 u360 u361 u362 u363 u364 u365 u366 u367 u368 u369 u370 u371 u372 u373 u374 u375 u376 u377 u378 u379 u380 u381 u382 u383 u384 u385 u386 u387 u388 u389 u390 u391 u392 u393 u394 u395 u396 u397 u398 u399 u400 u401 u402 u403 u404 u405 u406 u407 u408 u409 u410 u411 u412 u413 u414 u415 u416 u417 u418 u419 u420 u421 u422 u423 u424 u425 u426 u427 u428 u429 u430 u431 u432 u433 u434 u435 u436 u437 u438 u439 u440 u441 u442 u443 u444 u445 u446 u447 u448 u449 u450 u451 u452 u453 u454 u455 u456 u457 u458 u459 u460 u461 u462 u463 u464 u465 u466 u467 u468 u469 u470 u471 u472 u473 u474 u475 u476 u477 u478 u479 u480 u481 u482 u483 u484 u485 : Value} (w0 w : World) (g6 g8 g10 : Nat) (N ma : Int) (t : Nat) (Qs : List Qd) (MA : Int) (EA : List Ed) (MB : Int) (EB : List Ed) (ua : Option Addr) (un uc : Nat) (us : List Pu) (aa : Option Addr) (an ac : Nat) (aks : List Tk) (ba : Option Addr) (bn bc : Nat) (bs : List Tk) (ca : Option Addr) (cn cc : Nat) (cs : List Nat) (da : Option Addr) (dn dc : Nat) (ds : List Bool) (hM : FM w w0.heap.size g6 g8 g10 N ma t Qs MA EA MB EB ua un uc us aa an ac aks ba bn bc bs ca cn cc cs da dn dc ds) (G : w0.grownBy w none) (room i : Nat) (fl : List Bool) (mi : Nat) (hN : N = (room : Int) + 12) (hI : CI room i ma t Qs MA EA MB EB ((us).map Pu.d) ((aks).map Tk.d) fl cs ds mi) (hB : sel (aks.map Tk.d) fl = bs.map Tk.d) (hun : un ≤ i) (hi : i ≤ 240) (hD90 : ∀ u, u ∈ us → u.p.D.length ≤ 90) :
    Code.wp Try.prog (tailR 57 (Try.f10.body.getD .skip)) (bodyPost Try.prog Try.f10 (fun e w' => e = .returned (.bool true) ∧ w0.grownBy w' none)) (Act.mk (List.toArray (u0 :: u1 :: u2 :: u3 :: u4 :: (.int .i64 N) :: (.pointer (some ⟨g6, 0, none⟩)) :: u7 :: u8 :: u9 :: u10 :: u11 :: (.slice ua un uc) :: (.slice aa an ac) :: (.slice ba bn bc) :: (.slice ca cn cc) :: (.slice da dn dc) :: u17 :: u18 :: u19 :: u20 :: u21 :: u22 :: u23 :: u24 :: u25 :: u26 :: u27 :: u28 :: u29 :: u30 :: u31 :: u32 :: u33 :: u34 :: u35 :: u36 :: u37 :: u38 :: u39 :: u40 :: u41 :: u42 :: u43 :: u44 :: u45 :: u46 :: u47 :: u48 :: u49 :: u50 :: u51 :: u52 :: u53 :: u54 :: u55 :: u56 :: u57 :: u58 :: u59 :: u60 :: u61 :: u62 :: u63 :: u64 :: u65 :: u66 :: u67 :: u68 :: u69 :: u70 :: u71 :: u72 :: u73 :: u74 :: u75 :: u76 :: u77 :: u78 :: u79 :: u80 :: u81 :: u82 :: u83 :: u84 :: u85 :: u86 :: u87 :: u88 :: u89 :: u90 :: u91 :: u92 :: u93 :: u94 :: u95 :: u96 :: u97 :: u98 :: u99 :: u100 :: u101 :: u102 :: u103 :: u104 :: u105 :: u106 :: u107 :: u108 :: u109 :: u110 :: u111 :: u112 :: u113 :: u114 :: u115 :: u116 :: u117 :: u118 :: u119 :: u120 :: u121 :: u122 :: u123 :: u124 :: u125 :: u126 :: u127 :: u128 :: u129 :: u130 :: u131 :: u132 :: u133 :: u134 :: u135 :: u136 :: u137 :: u138 :: u139 :: u140 :: u141 :: u142 :: u143 :: u144 :: u145 :: u146 :: u147 :: u148 :: u149 :: u150 :: u151 :: u152 :: u153 :: u154 :: u155 :: u156 :: u157 :: u158 :: u159 :: u160 :: u161 :: u162 :: u163 :: u164 :: u165 :: u166 :: u167 :: u168 :: u169 :: u170 :: u171 :: u172 :: u173 :: u174 :: u175 :: u176 :: u177 :: u178 :: u179 :: u180 :: u181 :: u182 :: u183 :: u184 :: u185 :: u186 :: u187 :: u188 :: u189 :: u190 :: u191 :: u192 :: u193 :: u194 :: u195 :: u196 :: u197 :: u198 :: u199 :: u200 :: u201 :: u202 :: u203 :: u204 :: u205 :: u206 :: u207 :: u208 :: u209 :: u210 :: u211 :: u212 :: u213 :: u214 :: u215 :: u216 :: u217 :: u218 :: u219 :: u220 :: u221 :: u222 :: u223 :: u224 :: u225 :: u226 :: u227 :: u228 :: u229 :: u230 :: u231 :: u232 :: u233 :: u234 :: u235 :: u236 :: u237 :: u238 :: u239 :: u240 :: u241 :: u242 :: u243 :: u244 :: u245 :: u246 :: u247 :: u248 :: u249 :: u250 :: u251 :: u252 :: u253 :: u254 :: u255 :: u256 :: u257 :: u258 :: u259 :: u260 :: u261 :: u262 :: u263 :: u264 :: u265 :: u266 :: u267 :: u268 :: u269 :: u270 :: u271 :: u272 :: u273 :: u274 :: u275 :: u276 :: u277 :: u278 :: u279 :: u280 :: u281 :: u282 :: u283 :: u284 :: u285 :: u286 :: u287 :: u288 :: u289 :: u290 :: u291 :: u292 :: u293 :: u294 :: u295 :: u296 :: u297 :: u298 :: u299 :: u300 :: u301 :: u302 :: u303 :: u304 :: u305 :: u306 :: u307 :: u308 :: u309 :: u310 :: u311 :: u312 :: u313 :: u314 :: u315 :: u316 :: u317 :: u318 :: u319 :: u320 :: u321 :: u322 :: u323 :: u324 :: u325 :: u326 :: u327 :: u328 :: u329 :: u330 :: u331 :: u332 :: u333 :: u334 :: u335 :: u336 :: u337 :: u338 :: u339 :: u340 :: u341 :: u342 :: u343 :: u344 :: u345 :: u346 :: u347 :: u348 :: u349 :: u350 :: u351 :: u352 :: u353 :: u354 :: u355 :: u356 :: u357 :: u358 :: u359 :: u360 :: u361 :: u362 :: u363 :: u364 :: u365 :: u366 :: u367 :: u368 :: u369 :: u370 :: u371 :: u372 :: u373 :: u374 :: u375 :: u376 :: u377 :: u378 :: u379 :: u380 :: u381 :: u382 :: u383 :: u384 :: u385 :: u386 :: u387 :: u388 :: u389 :: u390 :: u391 :: u392 :: u393 :: u394 :: u395 :: u396 :: u397 :: u398 :: u399 :: u400 :: u401 :: u402 :: u403 :: u404 :: u405 :: u406 :: u407 :: u408 :: u409 :: u410 :: u411 :: u412 :: u413 :: u414 :: u415 :: u416 :: u417 :: u418 :: u419 :: u420 :: u421 :: u422 :: u423 :: u424 :: u425 :: u426 :: u427 :: u428 :: u429 :: u430 :: u431 :: u432 :: u433 :: u434 :: u435 :: u436 :: u437 :: u438 :: u439 :: u440 :: u441 :: u442 :: u443 :: u444 :: u445 :: u446 :: u447 :: u448 :: u449 :: u450 :: u451 :: u452 :: u453 :: u454 :: u455 :: u456 :: u457 :: u458 :: u459 :: u460 :: u461 :: u462 :: u463 :: u464 :: u465 :: u466 :: u467 :: u468 :: u469 :: u470 :: u471 :: u472 :: u473 :: u474 :: u475 :: u476 :: u477 :: u478 :: u479 :: u480 :: u481 :: u482 :: u483 :: u484 :: u485 :: [])) []) w := by
  have m1 : us.length = un := by have := hM.u.len; rw [List.length_map] at this; exact this
  have m2 : aks.length = an := by have := hM.a.len; rw [List.length_map] at this; exact this
  have m3 : bs.length = bn := by have := hM.b.len; rw [List.length_map] at this; exact this
  have m4 : cs.length = cn := by have := hM.c.len; rw [List.length_map] at this; exact this
  have m5 : ds.length = dn := by have := hM.d.len; rw [List.length_map] at this; exact this
  have m6 := hI.lenA
  rw [List.length_map, List.length_map] at m6
  have m7 := sel_len (aks.map Tk.d) fl
  rw [hB, List.length_map, List.length_map] at m7
  have m8 := hI.lc
  have hdc : dn = cn := by omega
  subst hdc
  obtain ⟨qa, qc, ql, qs, b6, hS⟩ := hM.se
  refine ca_t57 w0 w w0.heap.size room aa ba ca da an ac bn bc dn cc dc N aks bs cs ds fl hM.a hM.b hM.c hM.d hN hI.rm (by omega) (by omega) (by omega) ?_ ?_ hI.fz hB hI.fI hI.ctd G ua un uc g6 qc ql qa ma t qs Qs b6 hS ?_ us hM.u (by omega) ?_ ?_
  · intro x hx
    have := (hI.a2 x.d (List.mem_map_of_mem hx)).2
    have e : x.d.fr = x.fr := rfl
    omega
  · intro x hx
    have h := hI.inPut (List.mem_map_of_mem (f := Tk.d) hx)
    obtain ⟨u, hu, e⟩ := List.mem_map.1 h
    have e2 : u.p.d = x.p.d := congrArg Prod.snd e
    have e3 : u.p.D = x.p.D := congrArg Pd.D e2
    have h1 := hD90 u hu
    have h2 : x.p.D.length = x.p.n := (hM.a.each _ (List.mem_map_of_mem hx)).len
    rw [e3] at h1
    omega
  · intro hq
    have := hI.quiet hq
    rw [List.length_map, List.length_map] at this
    omega
  · intro x hx
    exact (hI.a2 x.d (List.mem_map_of_mem hx)).1
  · intro j p x hx hp
    obtain ⟨k1, k2⟩ := hI.next (j := j) (p := p) (x := x.d) (by rw [List.getElem?_map, hx]; rfl) hp
    rw [List.length_map] at k1
    refine ⟨by omega, fun u hu e => ?_⟩
    obtain ⟨k3, k4⟩ := k2 u.d (by rw [List.getElem?_map, hu]; rfl) e
    exact ⟨k3, k4⟩

def er1 : Er := ⟨-1, kr0⟩
set_option maxHeartbeats 4000000 in
/-- a listener at first, in new memory -/
theorem listen2_any (cr sz : Int) (w : World) (hE : opE cr sz = 0) : Calls Try.prog 24 #[.int .i64 cr, .int .i64 sz] w fun e w' => ∃ g, e = .returned (.tuple #[.agg #[.int .i64 cr, .int .i64 sz, .int .i64 (-1), .slice (some ⟨g, 0, none⟩) 7 7], .int .i64 0]) ∧ OwL w' w.heap.size (some ⟨g, 0, none⟩) 7 7 (List.replicate 7 er1) (List.replicate 7 ⟨-1, []⟩) ∧ w.grownBy w' none := by
  have h0 := fun wz => fwrong_any cr sz wz
  have b0 := BxS.new w 43 #[.int .i64 0, .int .i64 0, .int .i64 0, .slice none 0 0]
  have g0 := World.grownBy_alloc w (.cells #[.int .i64 0, .int .i64 0, .int .i64 0, .slice none 0 0] 43) none
  have i4 := Try.info_li
  generalize hw0 : w.alloc (.cells #[.int .i64 0, .int .i64 0, .int .i64 0, .slice none 0 0] 43) = w0 at b0 g0
  have t1 : True := trivial
  rw [hE] at h0
  go_enter Try.func24, Try.ntmps24
  go_wp2_with (first
    | (go_at_call 51; have _t := t1; clear t1; refine (h0 _).mono ?_; rintro e wx ⟨rfl, hw⟩; have hw := hw.symm; subst hw; have t2 : True := trivial)
    | (at_make; have _t := t2; clear t2; refine wpList_mkE _ rfl _ _ rfl rfl rfl ?_; intro w2 q2 g2; have b2 := b0.keep g2 (by simp); have p3 := BxS.new w2 43 #[.int .i64 cr, .int .i64 sz, .int .i64 (-1), .slice (some ⟨w0.heap.size, 0, none⟩) 7 7]; have gA := World.grownBy_alloc w2 (.cells #[.int .i64 cr, .int .i64 sz, .int .i64 (-1), .slice (some ⟨w0.heap.size, 0, none⟩) 7 7] 43) none; generalize hw3 : w2.alloc (.cells #[.int .i64 cr, .int .i64 sz, .int .i64 (-1), .slice (some ⟨w0.heap.size, 0, none⟩) 7 7] 43) = w3 at p3 gA; have q3 := q2.keep gA (by simp); have b3 := b2.keep gA (by simp); obtain ⟨c0, c1, c2, c3⟩ := p3.cell4))
  have l0 := b0.lt
  have l2 := q2.lt
  clear c0 c1 c2 c3
  go_loopw [23] (fun i wr => ∃ k : Nat, k ≤ 7 ∧ i = .int .i64 k ∧ BxS wr w0.heap.size 68 (eaA k) ∧ w3.grownBy wr (some w0.heap.size)) (fun i _ => 7 - (intOf i).toNat)
  case atStart => exact ⟨0, by omega, rfl, q3, World.grownBy.refl _ _⟩
  case round =>
    obtain ⟨k, hk, rfl, hq, hgr⟩ := hrel
    have p4 := p3.keep hgr (by simp; omega)
    obtain ⟨c0, c1, c2, c3⟩ := p4.cell4
    by_cases hlt : k < 7
    · obtain ⟨u, hu⟩ := BxS.st4 hq (k * 2) (by show k * 2 < 14; omega) (.int .i64 0)
      have hf := hq.free (k * 2)
      have hS := hq.set (k * 2) (.int .i64 (-1))
      rw [eaA_set k hlt] at hS
      have hS : Hid _ := hS
      have gS : Hid _ := grown_set wr w0.heap.size (k * 2) (.int .i64 (-1))
      have l1 : (k : Int) < 7 := by omega
      go_wp2
      go_roundw
      case rel => exact ⟨k + 1, by omega, by go_num, hS.out, grown_trans hgr gS.out⟩
      case measure => simp [intOf]; omega
    · obtain rfl : k = 7 := by omega
      have b4 := b3.keep hgr (by simp; omega)
      have t3 : True := trivial
      go_wp2_with (first
        | (have _t := t3; refine wpList_stX _ rfl _ (.tmp 4) (.tmp 32) rfl w.heap.size _ _ rfl rfl b4 i4 rfl (by simp [Value.oneCell']) ?_; clear t3; intro w9 b9 g9))
      refine bodyPost_ret (results_cell1t rfl _ _ _ ⟨w.heap.size, 0, none⟩ _ (.int .i64 0) rfl (BxS.load (t := 43) b9 Try.underlying43 Try.info_li) rfl) rfl ?_
      have h9 : BxS w9 w0.heap.size 68 (eaA 7) := hq.keep g9 (by simp; omega)
      refine ⟨_, rfl, ⟨⟨?_, rfl, ?_, ?_, ?_, ?_⟩, rfl⟩, grown_far (grown_far (grown_trans (grown_trans g0 g2) gA) hgr (fun q e => by cases e; omega)) g9 (fun q e => by cases e; exact Nat.le_refl _)⟩
      · exact ⟨rfl, .inr ⟨w0.heap.size, 7, eaA 7, rfl, Nat.zero_le _, h9, Nat.le_refl _, by decide, rfl, rfl⟩⟩
      · intro x hx
        obtain ⟨y, hy, rfl⟩ := List.mem_map.1 hx
        rw [List.eq_of_mem_replicate hy]
        rfl
      · intro g e
        have e : w0.heap.size = g := Option.some.inj e
        omega
      · intro x hx
        obtain ⟨y, hy, rfl⟩ := List.mem_map.1 hx
        rw [List.eq_of_mem_replicate hy]
        exact ans_nil _ _
      · exact List.Pairwise.imp_of_mem (R := fun _ _ => True) (fun {x y} hx hy _ g e => by
          obtain ⟨z, hz, rfl⟩ := List.mem_map.1 hx
          rw [List.eq_of_mem_replicate hz] at e
          cases e) (List.pairwise_of_forall (fun _ _ => trivial))

/-- all of it, between two jobs -/
structure LJ (w0 wr : World) (g6 g8 g10 : Nat) (N : Int) (room i : Nat) (v12 v13 v14 v15 v16 v17 : Value) : Prop where
  ex : ∃ (ua : Option Addr) (un uc : Nat) (us : List Pu) (aa : Option Addr) (an ac : Nat) (aks : List Tk) (ba : Option Addr) (bn bc : Nat) (bs : List Tk) (ca : Option Addr) (cn cc : Nat) (cs : List Nat) (da : Option Addr) (dn dc : Nat) (ds : List Bool) (ma : Int) (t : Nat) (Qs : List Qd) (MA : Int) (EA : List Ed) (MB : Int) (EB : List Ed) (fl : List Bool) (mi : Nat), v12 = .slice ua un uc ∧ v13 = .slice aa an ac ∧ v14 = .slice ba bn bc ∧ v15 = .slice ca cn cc ∧ v16 = .slice da dn dc ∧ v17 = .int .i64 (mi : Int) ∧ FM wr w0.heap.size g6 g8 g10 N ma t Qs MA EA MB EB ua un uc us aa an ac aks ba bn bc bs ca cn cc cs da dn dc ds ∧ w0.grownBy wr none ∧ CI room i ma t Qs MA EA MB EB ((us).map Pu.d) ((aks).map Tk.d) fl cs ds mi ∧ sel (aks.map Tk.d) fl = bs.map Tk.d ∧ un ≤ i ∧ (∀ u, u ∈ us → u.p.D.length ≤ 90)

theorem opE_77 (v : Nat) (hv : v < 60) : opE 77 (13 + (v : Int)) = 0 := by
  unfold opE
  have h : siB (13 + (v : Int)) = true := decide_eq_true (by omega)
  rw [if_pos (wiB_t (by decide)), if_pos h]
set_option maxHeartbeats 64000000 in
theorem carries_walk (sz : Int) (ja : Option Addr) (jn jc : Nat) (F : Nat → Jb) (w : World) (hz : -9223372036854775808 ≤ sz ∧ sz ≤ 9223372036854775807) (hJ : RdJb w ja jn jc F) :
    Calls Try.prog 10 #[.int .i64 sz, .slice ja jn jc] w fun e w' => e = .returned (.bool true) ∧ w.grownBy w' none := by
  have hle := hJ.le
  have hmx := hJ.max
  unfold maxLen at hmx
  by_cases hbig : 200 < jn
  · have db : decide ((jn : Int) > 200) = true := decide_eq_true (by omega)
    have db2 : decide ((200 : Int) < (jn : Int)) = true := decide_eq_true (by omega)
    go_enter Try.func10, Try.ntmps10
    go_wp2
    go_ret
    exact ⟨rfl, World.grownBy.refl _ _⟩
  · have db : decide ((jn : Int) > 200) = false := decide_eq_false (by omega)
    have db2 : decide ((200 : Int) < (jn : Int)) = false := decide_eq_false (by omega)
    clear hmx hle
    have i5 := Try.info_se
    have i4 := Try.info_li
    have HJ : Hid _ := hJ
    clear hJ
    go_enter Try.func10, Try.ntmps10
    refine wp_seq_k fun K1 hK1 => ?_
    have HK1 : Hid _ := hK1
    clear hK1
    go_wp2
    refine HK1.out _ _ ?_
    clear HK1
    refine wp_seq_k fun K2 hK2 => ?_
    have HK2 : Hid _ := hK2
    clear hK2
    go_wp2
    refine HK2.out _ _ ?_
    clear HK2
    clear db db2
    refine wp_seq_k fun K3 hK3 => ?_
    have HK3 : Hid _ := hK3
    clear hK3
    have s0 : True := trivial
    go_wp2_with (go_at_call 39; have _t := s0; clear s0; refine (pickN_any sz 60 w hz.1 hz.2 (by decide) (by decide)).mono ?_; rintro e wx ⟨v, hv, rfl, hw⟩; have hw := hw.symm; subst hw)
    refine HK3.out _ _ ?_
    clear HK3
    have hv60 : v < 60 := by omega
    have hopE := opE_77 v hv60
    have hNr : 13 + (v : Int) = ((v + 1 : Nat) : Int) + 12 := by omega
    have hrm : 1 ≤ v + 1 ∧ v + 1 ≤ 60 := by omega
    generalize (13 + (v : Int)) = N at hopE hNr ⊢
    generalize v + 1 = room at hNr hrm
    have HN : Hid _ := hNr
    clear hNr hv60 hv
    refine wp_seq_k fun K4 hK4 => ?_
    have HK4 : Hid _ := hK4
    clear hK4
    have s0 : True := trivial
    go_wp2_with (first
      | (go_at_call 23; have _t := s0; clear s0; refine (open2_any 77 N w hopE).mono ?_; rintro e w1 ⟨gq, rfl, hO1, g1⟩; have bn := BxS.new w1 38 #[.int .i64 0, .int .i64 0, .int .i64 0, .int .i64 0, .slice none 0 0]; have gn := World.grownBy_alloc w1 (.cells #[.int .i64 0, .int .i64 0, .int .i64 0, .int .i64 0, .slice none 0 0] 38) none; generalize hw2 : w1.alloc (.cells #[.int .i64 0, .int .i64 0, .int .i64 0, .int .i64 0, .slice none 0 0] 38) = w2 at bn gn; have s1 : True := trivial)
      | (have _t := s1; clear s1; refine wpList_stX _ rfl _ (.tmp 6) (.tmp 56) rfl w1.heap.size _ _ rfl rfl bn i5 rfl (by simp [Value.oneCell']) ?_; intro w3 b3 u3))
    have z1 := g1.size
    have hK3 := (hO1.wk.keep gn).bx bn (by decide) (by decide) (by decide) u3
    have G3 := grown_far (grown_trans g1 gn) u3 (fun q e => by have e := Option.some.inj e; omega)
    obtain ⟨g6, hg6⟩ : ∃ g6, w1.heap.size = g6 := ⟨_, rfl⟩
    rw [hg6] at b3
    have h6 : w.heap.size ≤ g6 := by omega
    rw [hg6]
    clear hg6 u3 bn gn hw2 hO1 g1 z1
    refine HK4.out _ _ ?_
    clear HK4
    refine wp_seq_k fun K5 hK5 => ?_
    have HK5 : Hid _ := hK5
    clear hK5
    have s0 : True := trivial
    go_wp2_with (first
      | (go_at_call 24; have _t := s0; clear s0; refine (listen2_any 77 N w3 hopE).mono ?_; rintro e w5a ⟨gq5, rfl, hL5, g5a⟩; have bn5 := BxS.new w5a 43 #[.int .i64 0, .int .i64 0, .int .i64 0, .slice none 0 0]; have gn5 := World.grownBy_alloc w5a (.cells #[.int .i64 0, .int .i64 0, .int .i64 0, .slice none 0 0] 43) none; generalize hw5 : w5a.alloc (.cells #[.int .i64 0, .int .i64 0, .int .i64 0, .slice none 0 0] 43) = w5b at bn5 gn5; have s1 : True := trivial)
      | (have _t := s1; clear s1; refine wpList_stX _ rfl _ (.tmp 8) (.tmp 61) rfl w5a.heap.size _ _ rfl rfl bn5 i4 rfl (by simp [Value.oneCell']) ?_; intro w5c b5c u5c))
    have z5 := g5a.size
    have hO5 := (hL5.keep gn5).tyO u5c bn5.tyo1 (by decide) (by decide)
    have y5 := grown_far (grown_trans g5a gn5) u5c (fun q e => by have e := Option.some.inj e; omega)
    obtain ⟨p5, hp5⟩ : ∃ p, w5a.heap.size = p := ⟨_, rfl⟩
    rw [hp5] at b5c ⊢
    have h8 : w.heap.size ≤ p5 := by have := G3.size; omega
    have b35 := b3.keep y5 (by simp)
    have hK5 := hK3.keep y5
    have G5 := grown_trans G3 y5
    clear hp5 u5c bn5 gn5 hw5 hL5 g5a z5 b3 hK3 G3 y5
    refine HK5.out _ _ ?_
    clear HK5
    refine wp_seq_k fun K6 hK6 => ?_
    have HK6 : Hid _ := hK6
    clear hK6
    have s0 : True := trivial
    go_wp2_with (first
      | (go_at_call 24; have _t := s0; clear s0; refine (listen2_any 77 N w5c hopE).mono ?_; rintro e w6a ⟨gq6, rfl, hL6, g6a⟩; have bn6 := BxS.new w6a 43 #[.int .i64 0, .int .i64 0, .int .i64 0, .slice none 0 0]; have gn6 := World.grownBy_alloc w6a (.cells #[.int .i64 0, .int .i64 0, .int .i64 0, .slice none 0 0] 43) none; generalize hw6 : w6a.alloc (.cells #[.int .i64 0, .int .i64 0, .int .i64 0, .slice none 0 0] 43) = w6b at bn6 gn6; have s1 : True := trivial)
      | (have _t := s1; clear s1; refine wpList_stX _ rfl _ (.tmp 10) (.tmp 66) rfl w6a.heap.size _ _ rfl rfl bn6 i4 rfl (by simp [Value.oneCell']) ?_; intro w6c b6c u6c))
    have z6 := g6a.size
    have hO6 := (hL6.keep gn6).tyO u6c bn6.tyo1 (by decide) (by decide)
    have y6 := grown_far (grown_trans g6a gn6) u6c (fun q e => by have e := Option.some.inj e; omega)
    obtain ⟨p6, hp6⟩ : ∃ p, w6a.heap.size = p := ⟨_, rfl⟩
    rw [hp6] at b6c ⊢
    have h10 : w.heap.size ≤ p6 := by have := G5.size; omega
    have hne : p5 ≠ p6 := by have := b5c.lt; omega
    have b36 := b35.keep y6 (by simp)
    have hK6 := hK5.keep y6
    have b56 := b5c.keep y6 (by simp)
    have hO56 := hO5.keep y6
    have G6 := grown_trans G5 y6
    clear hp6 u6c bn6 gn6 hw6 hL6 g6a z6 b35 hK5 G5 y6 b5c hO5
    have hM0 : FM w6c w.heap.size g6 p5 p6 N 0 0 (List.replicate 7 qd0) (-1) (List.replicate 7 ⟨-1, []⟩) (-1) (List.replicate 7 ⟨-1, []⟩) none 0 0 [] none 0 0 [] none 0 0 [] none 0 0 [] none 0 0 [] :=
      ⟨⟨_, _, _, _, b36, hK6⟩, ⟨_, _, _, _, b56, hO56⟩, ⟨_, _, _, _, b6c, hO6⟩, hne, OwT.nil _ _ _ _, OwT.nil _ _ _ _, OwT.nil _ _ _ _, (fun z e => by cases e), OwT.nil _ _ _ _, OwT.nil _ _ _ _⟩
    have hL0 : LJ w w6c g6 p5 p6 N room 0 (.slice none 0 0) (.slice none 0 0) (.slice none 0 0) (.slice none 0 0) (.slice none 0 0) (.int .i64 0) :=
      ⟨none, 0, 0, [], none, 0, 0, [], none, 0, 0, [], none, 0, 0, [], none, 0, 0, [], 0, 0, _, -1, _, -1, _, [], 0, rfl, rfl, rfl, rfl, rfl, rfl, hM0, G6, CI.first room hrm, rfl, Nat.le_refl _, (fun u h => by cases h)⟩
    generalize p5 = g8 at *
    generalize p6 = g10 at *
    clear hM0 hne b36 hK6 b56 hO56 b6c hO6 G6
    refine HK6.out _ _ ?_
    clear HK6
    refine wp_seq_k fun K7 hK7 => ?_
    have HK7 : Hid _ := hK7
    clear hK7
    go_wp2
    refine HK7.out _ _ ?_
    clear HK7
    refine wp_seq_k fun K8 hK8 => ?_
    have HK8 : Hid _ := hK8
    clear hK8
    go_wp2
    refine HK8.out _ _ ?_
    clear HK8
    refine wp_seq_k fun K8 hK8 => ?_
    have HK8 : Hid _ := hK8
    clear hK8
    go_wp2
    refine HK8.out _ _ ?_
    clear HK8
    refine wp_seq_k fun K8 hK8 => ?_
    have HK8 : Hid _ := hK8
    clear hK8
    go_wp2
    refine HK8.out _ _ ?_
    clear HK8
    refine wp_seq_k fun K8 hK8 => ?_
    have HK8 : Hid _ := hK8
    clear hK8
    go_wp2
    refine HK8.out _ _ ?_
    clear HK8
    refine wp_seq_k fun K8 hK8 => ?_
    have HK8 : Hid _ := hK8
    clear hK8
    go_wp2
    refine HK8.out _ _ ?_
    clear HK8
    refine wp_seq_k fun K7 hK7 => ?_
    have HK7 : Hid _ := hK7
    clear hK7
    refine wp_seq_k fun K8 hK8 => ?_
    have HK8 : Hid _ := hK8
    clear hK8
    go_wp2
    refine HK8.out _ _ ?_
    clear HK8
    go_wp2
    go_loopw [12, 13, 14, 15, 16, 17, 18] (fun v12 v13 v14 v15 v16 v17 iv wr => ∃ i : Nat, i ≤ jn + 40 ∧ iv = .int .i64 i ∧ LJ w wr g6 g8 g10 N room i v12 v13 v14 v15 v16 v17) (fun _ _ _ _ _ _ iv _ => jn + 40 - (intOf iv).toNat)
    case atStart => exact ⟨0, by omega, rfl, hL0⟩
    case round =>
      obtain ⟨i, hi, rfl, ⟨ua, un, uc, us, aa, an, ac, aks, ba, bn, bc, bs, ca, cn, cc, cs, da, dn, dc, ds, ma, t, Qs, MA, EA, MB, EB, fl, mi, rfl, rfl, rfl, rfl, rfl, rfl, hM, Gr, hI, hB, hun, hD9⟩⟩ := hrel
      have HB : Hid _ := hB
      have HD9 : Hid _ := hD9
      clear hB hD9
      by_cases hlt : i < jn + 40
      · have li : (i : Int) < (jn : Int) + 40 := by omega
        refine wp_seq_k fun K8 hK8 => ?_
        have HK8 : Hid _ := hK8
        clear hK8
        go_wp2
        clear li
        refine HK8.out _ _ ?_
        clear HK8
        refine wp_seq_k fun K9 hK9 => ?_
        have HK9 : Hid _ := hK9
        clear hK9
        refine wp_block ?_
        refine wp_seq_k fun K10 hK10 => ?_
        have HK10 : Hid _ := hK10
        clear hK10
        refine wp_seq_k fun K11 hK11 => ?_
        have HK11 : Hid _ := hK11
        clear hK11
        by_cases hij : i < jn
        · obtain ⟨jb, jo, hja, hjb, cj⟩ := (HJ.out.keep Gr).at' (by omega)
          subst hja
          have c0 : wr.cell? ⟨jb, jo + i * 4, none⟩ = some (.int .i64 (F i).pu) := cj i hij 0 (by decide)
          have c1 : wr.cell? ⟨jb, jo + i * 4 + 1, none⟩ = some (.int .i64 (F i).ch) := cj i hij 1 (by decide)
          have c2 : wr.cell? ⟨jb, jo + i * 4 + 2, none⟩ = some (.int .i64 (F i).lo) := cj i hij 2 (by decide)
          obtain ⟨y0, y1, y2⟩ := HJ.out.ok i hij
          have lk : (i : Int) < (jn : Int) := by omega
          clear cj
          have s0 : True := trivial
          go_wp2_with (go_at_call 39; have _t := s0; clear s0; refine (pickN_any (F i).pu 2 wr y0.1 y0.2 (by decide) (by decide)).mono ?_; rintro e wx ⟨x, hx, rfl, hw⟩; have hw := hw.symm; subst hw)
          refine HK11.out _ _ ?_
          clear HK11
          by_cases hx0 : x = 0
          · subst hx0
            refine wp_cond_true rfl ?_
            refine ca_t18 _ w wr g6 g8 g10 N ma t Qs MA EA MB EB ua un uc us aa an ac aks ba bn bc bs ca cn cc cs da dn dc ds hM h6 h8 h10 Gr room i fl mi HN.out hI jb jo jn jc (F i).ch (F i).lo hun (by omega) hij (by omega) c1 c2 y1 y2 ?_
            intros
            rename_i w5 gx cx x5 Qs' hM5 G5 hI5 h5
            simp only [Exit.inBlock, Exit.then]
            refine HK9.out _ _ ?_
            clear HK9
            go_wp2
            go_roundw
            case rel => exact ⟨i + 1, by omega, by go_num, ⟨_, _, _, _, _, _, _, _, _, _, _, _, _, _, _, _, _, _, _, _, _, _, _, _, _, _, _, _, _, rfl, rfl, rfl, rfl, rfl, rfl, hM5, G5, hI5, HB.out, by omega, (fun u hu => by rcases List.mem_append.1 hu with h | h; exact HD9.out u h; rw [List.mem_singleton.1 h]; exact h5)⟩⟩
            case measure => simp [intOf] <;> omega
          · have dx : (((x : Int) == 0) : Bool) = false := by simpa using hx0
            refine wp_cond_false (by show Value.bool ((x : Int) == 0) = _; rw [dx]) ?_
            refine wp_skip ?_
            refine HK10.out _ _ ?_
            clear HK10 c0 c1 c2
            refine ca_t28 _ w wr g6 g8 g10 N ma t Qs MA EA MB EB ua un uc us aa an ac aks ba bn bc bs ca cn cc cs da dn dc ds hM h6 h8 h10 Gr room i fl mi HN.out hI HB.out hun (some ⟨jb, jo, none⟩) jn jc F HJ.out (if i < jn then (F i).ls else false) rfl (by omega) ?_ ?_
            · intro ed
              intros
              rename_i w5 aa' an' ac' ca' cn' cc' da' dn' dc' ma' t' Qs' EA' ps ch fs hM5 G5 hI5 hB5
              simp only [Exit.inBlock, Exit.then]
              refine HK9.out _ _ ?_
              clear HK9
              go_wp2
              go_roundw
              case rel => exact ⟨i + 1, by omega, by go_num, ⟨_, _, _, _, _, _, _, _, _, _, _, _, _, _, _, _, _, _, _, _, _, _, _, _, _, _, _, _, _, rfl, rfl, rfl, rfl, rfl, rfl, hM5, G5, hI5, hB5, by omega, HD9.out⟩⟩
              case measure => simp [intOf] <;> omega
            · intro ed
              intros
              rename_i w5 aa' an' ac' ba' bn' bc' ca' cn' cc' da' dn' dc' ma' t' Qs' EA' EB' ps qs ch fs hM5 G5 hI5 hB5
              simp only [Exit.inBlock, Exit.then]
              refine HK9.out _ _ ?_
              clear HK9
              go_wp2
              go_roundw
              case rel => exact ⟨i + 1, by omega, by go_num, ⟨_, _, _, _, _, _, _, _, _, _, _, _, _, _, _, _, _, _, _, _, _, _, _, _, _, _, _, _, _, rfl, rfl, rfl, rfl, rfl, rfl, hM5, G5, hI5, hB5, by omega, HD9.out⟩⟩
              case measure => simp [intOf] <;> omega
        · have lk : ¬ (i : Int) < (jn : Int) := by omega
          go_wp2
          refine HK11.out _ _ ?_
          clear HK11
          refine wp_cond_false rfl ?_
          refine wp_skip ?_
          refine HK10.out _ _ ?_
          clear HK10
          refine ca_t28 _ w wr g6 g8 g10 N ma t Qs MA EA MB EB ua un uc us aa an ac aks ba bn bc bs ca cn cc cs da dn dc ds hM h6 h8 h10 Gr room i fl mi HN.out hI HB.out hun ja jn jc F HJ.out (if i < jn then (F i).ls else false) rfl (by omega) ?_ ?_
          · intro ed
            intros
            rename_i w5 aa' an' ac' ca' cn' cc' da' dn' dc' ma' t' Qs' EA' ps ch fs hM5 G5 hI5 hB5
            simp only [Exit.inBlock, Exit.then]
            refine HK9.out _ _ ?_
            clear HK9
            go_wp2
            go_roundw
            case rel => exact ⟨i + 1, by omega, by go_num, ⟨_, _, _, _, _, _, _, _, _, _, _, _, _, _, _, _, _, _, _, _, _, _, _, _, _, _, _, _, _, rfl, rfl, rfl, rfl, rfl, rfl, hM5, G5, hI5, hB5, by omega, HD9.out⟩⟩
            case measure => simp [intOf] <;> omega
          · intro ed
            intros
            rename_i w5 aa' an' ac' ba' bn' bc' ca' cn' cc' da' dn' dc' ma' t' Qs' EA' EB' ps qs ch fs hM5 G5 hI5 hB5
            simp only [Exit.inBlock, Exit.then]
            refine HK9.out _ _ ?_
            clear HK9
            go_wp2
            go_roundw
            case rel => exact ⟨i + 1, by omega, by go_num, ⟨_, _, _, _, _, _, _, _, _, _, _, _, _, _, _, _, _, _, _, _, _, _, _, _, _, _, _, _, _, rfl, rfl, rfl, rfl, rfl, rfl, hM5, G5, hI5, hB5, by omega, HD9.out⟩⟩
            case measure => simp [intOf] <;> omega
      · obtain rfl : i = jn + 40 := by omega
        have li : ¬ (((jn + 40 : Nat) : Int) < (jn : Int) + 40) := by omega
        go_wp2
        refine HK7.out _ _ ?_
        clear HK7
        exact ca_end w wr g6 g8 g10 N ma t Qs MA EA MB EB ua un uc us aa an ac aks ba bn bc bs ca cn cc cs da dn dc ds hM Gr room (jn + 40) fl mi HN.out hI HB.out hun (by omega) HD9.out
end Go.Proofs.Ytlmddjkplnbadaa
