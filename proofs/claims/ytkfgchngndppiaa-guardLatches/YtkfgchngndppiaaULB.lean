import Derived.Test.YtkfgchngndppiaaULA
namespace Go.Proofs.Ytkfgchngndppiaa
open Go.RowKit
set_option maxRecDepth 100000
set_option linter.unusedVariables false
set_option linter.unusedSimpArgs false

set_option maxHeartbeats 32000000 in
theorem latch_tail44 {u0 u1 u2 u3 u5 u6 u7 u8 u9 u10 u12 u14 u15 u16 u20 u21 u24 u27 u28 u29 u30 u31 u32 u33 u34 u35 u36 u37 u38 u39 u40 u41 u42 u43 u44 u45 u46 u47 u48 u49 u50 u51 u52 u53 u54 u55 u56 u57 u58 u59 u60 u61 u62 u63 u64 u65 u66 u67 u68 u69 u70 u71 u72 u73 u74 u75 u76 u77 u78 u79 u80 u81 u82 u83 u84 u85 u86 u87 u88 u89 u90 u91 u92 u93 u94 u95 u96 u97 u98 u99 u100 u101 u102 u103 u104 u105 u106 u107 u108 u109 u110 u111 u112 u113 u114 u115 u116 u117 u118 u119 u120 u121 u122 u123 u124 u125 u126 u127 u128 u129 u130 u131 u132 u133 u134 u135 u136 u137 u138 u139 u140 u141 u142 u143 u144 u145 u146 u147 u148 u149 u150 u151 u152 u153 u154 u155 u156 u157 u158 u159 u160 u161 u162 u163 u164 u165 u166 u167 u168 u169 u170 u171 u172 u173 u174 u175 u176 u177 u178 u179 u180 u181 u182 u183 u184 u185 u186 u187 u188 u189 u190 u191 u192 u193 u194 u195 u196 u197 u198 u199 u200 u201 u202 u203 u204 u205 u206 u207 u208 u209 u210 u211 u212 u213 u214 u215 u216 u217 u218 u219 u220 u221 u222 u223 u224 u225 u226 u227 u228 u229 u230 u231 u232 u233 u234 u235 u236 u237 u238 u239 u240 u241 u242 u243 u244 u245 u246 u247 u248 u249 u250 u251 u252 u253 u254 u255 u256 u257 u258 u259 u260 u261 u262 u263 u264 u265 u266 u267 u268 u269 u270 u271 u272 u273 u274 u275 u276 u277 u278 u279 u280 u281 u282 u283 u284 u285 u286 u287 u288 u289 u290 u291 u292 u293 u294 u295 u296 u297 u298 u299 u300 u301 u302 u303 u304 u305 u306 u307 u308 u309 u310 u311 u312 u313 u314 u315 u316 u317 u318 u319 u320 u321 u322 u323 u324 u325 u326 u327 u328 u329 u330 u331 : Value} (lb lo ln lc ng gv gn k tn2 tc2 nn nc si mo wi lt : Nat) (ta2 na : Option Addr) (q' y1 Y : Int) (wrg he le lvv : Bool) (gs : Value) (A A' : Va) (D D' : Vi) (Nm : List ByteArray) (T : List Int) (wE : World) (Q : Exit → Act → World → Prop)
    (hk : k < ln) (hln : ln ≤ 300) (b1 : si < 20) (b2 : mo < 6) (b3 : wi < 30) (hq0 : 0 ≤ q') (hq1 : q' ≤ 1000) (htn : tn2 ≤ 100000) (hlb : lb < wE.heap.size)
    (BG : BxS wE ng 24 #[gs, .int .i64 (si : Int), .int .i64 (1 + (mo : Int)), .int .i64 (1 + (wi : Int)), .string ⟨#[115, 97, 102, 101]⟩]) (BV : BxS wE gv 29 (vgA D A)) (BX : BxS wE gn 29 (vgA D' A')) (hgn : gn ≠ gv)
    (k1 : wE.cell? ⟨lb, lo + k * 3 + 1, none⟩ = some (.bool he)) (k2 : wE.cell? ⟨lb, lo + k * 3 + 2, none⟩ = some (.bool le)) (hN : RdX wE na nn nc (sts Nm))
    (hT : AnsX 3 wE lt ta2 tn2 tc2 (zys T)) (hT0 : ∀ m, m < tn2 → 0 ≤ nthI T m ∧ nthI T m ≤ (k : Int))
    (HLV : Hid (lvv = (D.sf && le && he && !wrg))) (HY : Hid (Y = wh3 (wh2 y1 (agL (k : Int) (1 + (wi : Int)) T).length (1 + (mo : Int))) (si : Int) q'))
    (Hst : Hid (D.sf = true → lvv = false → D'.sf = true ∧ D'.wy = D.wy)) (Hlv : Hid (lvv = true → D'.sf = false)) (Hma : Hid (D.sf = false → D'.wy = Y ∧ D'.sf = (Y != -1)))
    (HNf : Hid ((Nm = [] ∧ (D'.sf && !D.sf) = false) ∨ ∃ s r, Nm = s :: r ∧ ((s = safB ∧ (D'.sf && !D.sf) = true) ∨ (s ≠ safB ∧ (D'.sf && !D.sf) = false))))
    (hQ : ∀ (z10 z18 z25 z30 z31 z32 z33 z222 z223 z224 z225 z226 z227 z228 z229 z230 z231 z232 z233 z234 z235 z236 z237 z238 z239 z240 z241 z242 z243 z244 z245 z246 z247 z248 z249 z250 z251 z252 z253 z254 z255 z256 z257 z258 z259 z260 z261 z262 z263 z264 z265 z266 z267 z268 z269 z270 z271 z272 z273 z274 z275 z276 z277 z278 z279 z280 z281 z282 z283 z284 z285 z286 z287 z288 z289 z290 z291 z292 z293 z294 z295 z296 z297 z298 z299 z300 z301 z302 z303 z304 z305 z306 z307 z308 z309 z310 z311 z312 z313 z314 z315 z316 z317 z318 z319 z320 z321 z322 z323 z324 z325 z326 z327 z328 z329 z330 z331 : Value) (w' : World), z18 = (if lvv = true then .slice none 0 0 else .slice ta2 tn2 tc2) → BxS w' gv 29 (vgA D' A') → wE.grownBy w' (some gv) → Q .normal (Act.mk (List.toArray (u0 :: u1 :: u2 :: u3 :: (.slice (some ⟨lb, lo, none⟩) ln lc) :: u5 :: u6 :: u7 :: u8 :: u9 :: z10 :: (.pointer (some ⟨ng, 0, none⟩)) :: u12 :: (.pointer (some ⟨gv, 0, none⟩)) :: u14 :: u15 :: u16 :: (.int .i64 q') :: z18 :: (.int .i64 (k : Int)) :: u20 :: u21 :: (.pointer (some ⟨gn, 0, none⟩)) :: (.slice na nn nc) :: u24 :: z25 :: (.bool wrg) :: u27 :: u28 :: u29 :: z30 :: z31 :: z32 :: z33 :: u34 :: u35 :: u36 :: u37 :: u38 :: u39 :: u40 :: u41 :: u42 :: u43 :: u44 :: u45 :: u46 :: u47 :: u48 :: u49 :: u50 :: u51 :: u52 :: u53 :: u54 :: u55 :: u56 :: u57 :: u58 :: u59 :: u60 :: u61 :: u62 :: u63 :: u64 :: u65 :: u66 :: u67 :: u68 :: u69 :: u70 :: u71 :: u72 :: u73 :: u74 :: u75 :: u76 :: u77 :: u78 :: u79 :: u80 :: u81 :: u82 :: u83 :: u84 :: u85 :: u86 :: u87 :: u88 :: u89 :: u90 :: u91 :: u92 :: u93 :: u94 :: u95 :: u96 :: u97 :: u98 :: u99 :: u100 :: u101 :: u102 :: u103 :: u104 :: u105 :: u106 :: u107 :: u108 :: u109 :: u110 :: u111 :: u112 :: u113 :: u114 :: u115 :: u116 :: u117 :: u118 :: u119 :: u120 :: u121 :: u122 :: u123 :: u124 :: u125 :: u126 :: u127 :: u128 :: u129 :: u130 :: u131 :: u132 :: u133 :: u134 :: u135 :: u136 :: u137 :: u138 :: u139 :: u140 :: u141 :: u142 :: u143 :: u144 :: u145 :: u146 :: u147 :: u148 :: u149 :: u150 :: u151 :: u152 :: u153 :: u154 :: u155 :: u156 :: u157 :: u158 :: u159 :: u160 :: u161 :: u162 :: u163 :: u164 :: u165 :: u166 :: u167 :: u168 :: u169 :: u170 :: u171 :: u172 :: u173 :: u174 :: u175 :: u176 :: u177 :: u178 :: u179 :: u180 :: u181 :: u182 :: u183 :: u184 :: u185 :: u186 :: u187 :: u188 :: u189 :: u190 :: u191 :: u192 :: u193 :: u194 :: u195 :: u196 :: u197 :: u198 :: u199 :: u200 :: u201 :: u202 :: u203 :: u204 :: u205 :: u206 :: u207 :: u208 :: u209 :: u210 :: u211 :: u212 :: u213 :: u214 :: u215 :: u216 :: u217 :: u218 :: u219 :: u220 :: u221 :: z222 :: z223 :: z224 :: z225 :: z226 :: z227 :: z228 :: z229 :: z230 :: z231 :: z232 :: z233 :: z234 :: z235 :: z236 :: z237 :: z238 :: z239 :: z240 :: z241 :: z242 :: z243 :: z244 :: z245 :: z246 :: z247 :: z248 :: z249 :: z250 :: z251 :: z252 :: z253 :: z254 :: z255 :: z256 :: z257 :: z258 :: z259 :: z260 :: z261 :: z262 :: z263 :: z264 :: z265 :: z266 :: z267 :: z268 :: z269 :: z270 :: z271 :: z272 :: z273 :: z274 :: z275 :: z276 :: z277 :: z278 :: z279 :: z280 :: z281 :: z282 :: z283 :: z284 :: z285 :: z286 :: z287 :: z288 :: z289 :: z290 :: z291 :: z292 :: z293 :: z294 :: z295 :: z296 :: z297 :: z298 :: z299 :: z300 :: z301 :: z302 :: z303 :: z304 :: z305 :: z306 :: z307 :: z308 :: z309 :: z310 :: z311 :: z312 :: z313 :: z314 :: z315 :: z316 :: z317 :: z318 :: z319 :: z320 :: z321 :: z322 :: z323 :: z324 :: z325 :: z326 :: z327 :: z328 :: z329 :: z330 :: z331 :: [])) []) w') :
    Code.wp Try.prog (tailR 44 (Try.f5.body.getD .skip)) Q (Act.mk (List.toArray (u0 :: u1 :: u2 :: u3 :: (.slice (some ⟨lb, lo, none⟩) ln lc) :: u5 :: u6 :: u7 :: u8 :: u9 :: u10 :: (.pointer (some ⟨ng, 0, none⟩)) :: u12 :: (.pointer (some ⟨gv, 0, none⟩)) :: u14 :: u15 :: u16 :: (.int .i64 q') :: (.slice ta2 tn2 tc2) :: (.int .i64 (k : Int)) :: u20 :: u21 :: (.pointer (some ⟨gn, 0, none⟩)) :: (.slice na nn nc) :: u24 :: (.int .i64 y1) :: (.bool wrg) :: u27 :: u28 :: u29 :: u30 :: u31 :: u32 :: u33 :: u34 :: u35 :: u36 :: u37 :: u38 :: u39 :: u40 :: u41 :: u42 :: u43 :: u44 :: u45 :: u46 :: u47 :: u48 :: u49 :: u50 :: u51 :: u52 :: u53 :: u54 :: u55 :: u56 :: u57 :: u58 :: u59 :: u60 :: u61 :: u62 :: u63 :: u64 :: u65 :: u66 :: u67 :: u68 :: u69 :: u70 :: u71 :: u72 :: u73 :: u74 :: u75 :: u76 :: u77 :: u78 :: u79 :: u80 :: u81 :: u82 :: u83 :: u84 :: u85 :: u86 :: u87 :: u88 :: u89 :: u90 :: u91 :: u92 :: u93 :: u94 :: u95 :: u96 :: u97 :: u98 :: u99 :: u100 :: u101 :: u102 :: u103 :: u104 :: u105 :: u106 :: u107 :: u108 :: u109 :: u110 :: u111 :: u112 :: u113 :: u114 :: u115 :: u116 :: u117 :: u118 :: u119 :: u120 :: u121 :: u122 :: u123 :: u124 :: u125 :: u126 :: u127 :: u128 :: u129 :: u130 :: u131 :: u132 :: u133 :: u134 :: u135 :: u136 :: u137 :: u138 :: u139 :: u140 :: u141 :: u142 :: u143 :: u144 :: u145 :: u146 :: u147 :: u148 :: u149 :: u150 :: u151 :: u152 :: u153 :: u154 :: u155 :: u156 :: u157 :: u158 :: u159 :: u160 :: u161 :: u162 :: u163 :: u164 :: u165 :: u166 :: u167 :: u168 :: u169 :: u170 :: u171 :: u172 :: u173 :: u174 :: u175 :: u176 :: u177 :: u178 :: u179 :: u180 :: u181 :: u182 :: u183 :: u184 :: u185 :: u186 :: u187 :: u188 :: u189 :: u190 :: u191 :: u192 :: u193 :: u194 :: u195 :: u196 :: u197 :: u198 :: u199 :: u200 :: u201 :: u202 :: u203 :: u204 :: u205 :: u206 :: u207 :: u208 :: u209 :: u210 :: u211 :: u212 :: u213 :: u214 :: u215 :: u216 :: u217 :: u218 :: u219 :: u220 :: u221 :: u222 :: u223 :: u224 :: u225 :: u226 :: u227 :: u228 :: u229 :: u230 :: u231 :: u232 :: u233 :: u234 :: u235 :: u236 :: u237 :: u238 :: u239 :: u240 :: u241 :: u242 :: u243 :: u244 :: u245 :: u246 :: u247 :: u248 :: u249 :: u250 :: u251 :: u252 :: u253 :: u254 :: u255 :: u256 :: u257 :: u258 :: u259 :: u260 :: u261 :: u262 :: u263 :: u264 :: u265 :: u266 :: u267 :: u268 :: u269 :: u270 :: u271 :: u272 :: u273 :: u274 :: u275 :: u276 :: u277 :: u278 :: u279 :: u280 :: u281 :: u282 :: u283 :: u284 :: u285 :: u286 :: u287 :: u288 :: u289 :: u290 :: u291 :: u292 :: u293 :: u294 :: u295 :: u296 :: u297 :: u298 :: u299 :: u300 :: u301 :: u302 :: u303 :: u304 :: u305 :: u306 :: u307 :: u308 :: u309 :: u310 :: u311 :: u312 :: u313 :: u314 :: u315 :: u316 :: u317 :: u318 :: u319 :: u320 :: u321 :: u322 :: u323 :: u324 :: u325 :: u326 :: u327 :: u328 :: u329 :: u330 :: u331 :: [])) []) wE := by
  let pq : Exit → Act → World → Prop := bodyPost Try.prog Try.f5 (fun _ _ => True)
  conv => enter [2]; whnf
  have hTl : T.length = tn2 := by have := hT.len; rw [zys_length] at this; exact this
  have hagT := fun m (hm : m < tn2) => agL_take (k : Int) (1 + (wi : Int)) T m (by omega)
  have HTl : Hid _ := hTl
  clear hTl
  obtain ⟨_, g1c, g2c, g3c, _⟩ := BG.cell5
  go_upto_block 8 with fail
  go_cut [30, 31] from 222 to 238 (fun s30 s31 wx => s30 = .int .i64 (((agL (k : Int) (1 + (wi : Int)) T).length : Nat) : Int) ∧ wE.grownBy wx none)
  case first =>
    go_wp2
    go_loopw [30, 31] (fun s30 s31 wz => ∃ m : Nat, m ≤ tn2 ∧ s31 = .int .i64 (m : Int) ∧ s30 = .int .i64 (((agL (k : Int) (1 + (wi : Int)) (T.take m)).length : Nat) : Int) ∧ (agL (k : Int) (1 + (wi : Int)) (T.take m)).length ≤ m ∧ wE.grownBy wz none) (fun _ iv _ => tn2 - (intOf iv).toNat)
    case atStart => exact ⟨0, by omega, rfl, rfl, Nat.le_refl _, World.grownBy.refl _ _⟩
    case round =>
      clear g1c g2c g3c
      generalize wr = wz at *
      obtain ⟨m, hm, rfl, rfl, hcm, gz⟩ := hrel
      obtain ⟨_, g1c, g2c, g3c, _⟩ := (BG.keep gz (by simp)).cell5
      by_cases hmt : m < tn2
      · have hmti : (m : Int) < (tn2 : Int) := by omega
        obtain ⟨tb, et⟩ : ∃ tb, ta2 = some ⟨tb, 0, none⟩ := by
          rcases hT.cases with ⟨_, h0, _⟩ | ⟨g, e, _⟩
          · omega
          · exact ⟨g, e⟩
        subst et
        have ct := (hT.keep gz).cell m _ (zys_at T m (by rw [HTl.out]; exact hmt))
        obtain ⟨p0, p1⟩ := hT0 m hmt
        have ha := hagT m hmt
        generalize nthI T m = tm at ct p0 p1 ha
        generalize hc1 : (agL (k : Int) (1 + (wi : Int)) (T.take m)).length = c1 at *
        clear hc1
        have hwt : IntKind.i64.wrap ((k : Int) - tm) = (k : Int) - tm := wrap_i64_in _ (by omega) (by omega)
        by_cases hlt : (k : Int) - tm < 1 + (wi : Int)
        · rw [if_pos hlt] at ha
          have Ha : Hid _ := ha
          clear ha
          go_wp2
          go_quiet (fail)
          go_wp2
          go_roundw
          case rel => exact ⟨m + 1, by omega, by go_num, by rw [Ha.out]; go_num, by rw [Ha.out]; omega, grown_trans gz (grown_drewN _ _ _)⟩
          case measure => simp [intOf]; omega
        · rw [if_neg hlt] at ha
          have Ha : Hid _ := ha
          clear ha
          go_wp2
          go_quiet (fail)
          go_wp2
          go_roundw
          case rel => exact ⟨m + 1, by omega, by go_num, by rw [Ha.out]; rfl, by rw [Ha.out]; omega, grown_trans gz (grown_drewN _ _ _)⟩
          case measure => simp [intOf]; omega
      · have hmti : ¬ (m : Int) < (tn2 : Int) := by omega
        have em : tn2 = m := by omega
        subst em
        rw [List.take_of_length_le (by rw [HTl.out]; omega)]
        go_wp2
        go_meet
        exact ⟨rfl, gz⟩
  case rest =>
    obtain ⟨hc1, gD⟩ := hcut
    subst hc1
    apply_assumption
    refine latch_tail50 lb lo ln lc ng gv gn k tn2 tc2 nn nc _ si mo wi ta2 na q' y1 Y wrg he le lvv gs A A' D D' Nm wc Q hk hln b1 b2 b3 hq0 hq1 ?_ (BG.keep gD (by simp)) (BV.keep gD (by simp)) (BX.keep gD (by simp)) hgn ?_ ?_ (hN.keep gD) HLV HY Hst Hlv Hma HNf ?_
    · have : (agL (k : Int) (1 + (wi : Int)) T).length ≤ T.length := by
        unfold agL
        exact Nat.le_trans (List.length_filter_le _ _) (by rw [List.length_map]; exact Nat.le_refl _)
      rw [HTl.out] at this
      omega
    · exact (World.cell?_of_block (w := wE) (gD.block lb hlb (by simp))).trans k1
    · exact (World.cell?_of_block (w := wE) (gD.block lb hlb (by simp))).trans k2
    · intro z10 z18 z25 z32 z33 z239 z240 z241 z242 z243 z244 z245 z246 z247 z248 z249 z250 z251 z252 z253 z254 z255 z256 z257 z258 z259 z260 z261 z262 z263 z264 z265 z266 z267 z268 z269 z270 z271 z272 z273 z274 z275 z276 z277 z278 z279 z280 z281 z282 z283 z284 z285 z286 z287 z288 z289 z290 z291 z292 z293 z294 z295 z296 z297 z298 z299 z300 z301 z302 z303 z304 z305 z306 z307 z308 z309 z310 z311 z312 z313 z314 z315 z316 z317 z318 z319 z320 z321 z322 z323 z324 z325 z326 z327 z328 z329 z330 z331 w' h18 hb hg
      exact hQ z10 z18 z25 _ _ z32 z33 _ _ _ _ _ _ _ _ _ _ _ _ _ _ _ _ _ z239 z240 z241 z242 z243 z244 z245 z246 z247 z248 z249 z250 z251 z252 z253 z254 z255 z256 z257 z258 z259 z260 z261 z262 z263 z264 z265 z266 z267 z268 z269 z270 z271 z272 z273 z274 z275 z276 z277 z278 z279 z280 z281 z282 z283 z284 z285 z286 z287 z288 z289 z290 z291 z292 z293 z294 z295 z296 z297 z298 z299 z300 z301 z302 z303 z304 z305 z306 z307 z308 z309 z310 z311 z312 z313 z314 z315 z316 z317 z318 z319 z320 z321 z322 z323 z324 z325 z326 z327 z328 z329 z330 z331 w' h18 hb (grown_trans (grown_weak gD _) hg)
end Go.Proofs.Ytkfgchngndppiaa
