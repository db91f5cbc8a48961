import Derived.Test.YtkfgchngndppiaaULt
import Derived.Test.YtkfgchngndppiaaZSub
import Derived.Deep.DeepCutAuto
import Derived.Deep.CutBlock
namespace Go.Proofs.Ytkfgchngndppiaa
open Go.RowKit
set_option maxRecDepth 100000
set_option linter.unusedVariables false
set_option linter.unusedSimpArgs false

set_option maxHeartbeats 32000000 in
theorem latch_tail50 {u0 u1 u2 u3 u5 u6 u7 u8 u9 u10 u12 u14 u15 u16 u20 u21 u24 u27 u28 u29 u31 u32 u33 u34 u35 u36 u37 u38 u39 u40 u41 u42 u43 u44 u45 u46 u47 u48 u49 u50 u51 u52 u53 u54 u55 u56 u57 u58 u59 u60 u61 u62 u63 u64 u65 u66 u67 u68 u69 u70 u71 u72 u73 u74 u75 u76 u77 u78 u79 u80 u81 u82 u83 u84 u85 u86 u87 u88 u89 u90 u91 u92 u93 u94 u95 u96 u97 u98 u99 u100 u101 u102 u103 u104 u105 u106 u107 u108 u109 u110 u111 u112 u113 u114 u115 u116 u117 u118 u119 u120 u121 u122 u123 u124 u125 u126 u127 u128 u129 u130 u131 u132 u133 u134 u135 u136 u137 u138 u139 u140 u141 u142 u143 u144 u145 u146 u147 u148 u149 u150 u151 u152 u153 u154 u155 u156 u157 u158 u159 u160 u161 u162 u163 u164 u165 u166 u167 u168 u169 u170 u171 u172 u173 u174 u175 u176 u177 u178 u179 u180 u181 u182 u183 u184 u185 u186 u187 u188 u189 u190 u191 u192 u193 u194 u195 u196 u197 u198 u199 u200 u201 u202 u203 u204 u205 u206 u207 u208 u209 u210 u211 u212 u213 u214 u215 u216 u217 u218 u219 u220 u221 u222 u223 u224 u225 u226 u227 u228 u229 u230 u231 u232 u233 u234 u235 u236 u237 u238 u239 u240 u241 u242 u243 u244 u245 u246 u247 u248 u249 u250 u251 u252 u253 u254 u255 u256 u257 u258 u259 u260 u261 u262 u263 u264 u265 u266 u267 u268 u269 u270 u271 u272 u273 u274 u275 u276 u277 u278 u279 u280 u281 u282 u283 u284 u285 u286 u287 u288 u289 u290 u291 u292 u293 u294 u295 u296 u297 u298 u299 u300 u301 u302 u303 u304 u305 u306 u307 u308 u309 u310 u311 u312 u313 u314 u315 u316 u317 u318 u319 u320 u321 u322 u323 u324 u325 u326 u327 u328 u329 u330 u331 : Value} (lb lo ln lc ng gv gn k tn2 tc2 nn nc cc si mo wi : Nat) (ta2 na : Option Addr) (q' y1 Y : Int) (wrg he le lvv : Bool) (gs : Value) (A A' : Va) (D D' : Vi) (Nm : List ByteArray) (wD : World) (Q : Exit → Act → World → Prop)
    (hk : k < ln) (hln : ln ≤ 300) (b1 : si < 20) (b2 : mo < 6) (b3 : wi < 30) (hq0 : 0 ≤ q') (hq1 : q' ≤ 1000) (hcc : cc ≤ 100000)
    (BG : BxS wD ng 24 #[gs, .int .i64 (si : Int), .int .i64 (1 + (mo : Int)), .int .i64 (1 + (wi : Int)), .string ⟨#[115, 97, 102, 101]⟩]) (BV : BxS wD gv 29 (vgA D A)) (BX : BxS wD gn 29 (vgA D' A')) (hgn : gn ≠ gv)
    (k1 : wD.cell? ⟨lb, lo + k * 3 + 1, none⟩ = some (.bool he)) (k2 : wD.cell? ⟨lb, lo + k * 3 + 2, none⟩ = some (.bool le)) (hN : RdX wD na nn nc (sts Nm))
    (HLV : Hid (lvv = (D.sf && le && he && !wrg))) (HY : Hid (Y = wh3 (wh2 y1 cc (1 + (mo : Int))) (si : Int) q'))
    (Hst : Hid (D.sf = true → lvv = false → D'.sf = true ∧ D'.wy = D.wy)) (Hlv : Hid (lvv = true → D'.sf = false)) (Hma : Hid (D.sf = false → D'.wy = Y ∧ D'.sf = (Y != -1)))
    (HNf : Hid ((Nm = [] ∧ (D'.sf && !D.sf) = false) ∨ ∃ s r, Nm = s :: r ∧ ((s = safB ∧ (D'.sf && !D.sf) = true) ∨ (s ≠ safB ∧ (D'.sf && !D.sf) = false))))
    (hQ : ∀ (z10 z18 z25 z32 z33 z239 z240 z241 z242 z243 z244 z245 z246 z247 z248 z249 z250 z251 z252 z253 z254 z255 z256 z257 z258 z259 z260 z261 z262 z263 z264 z265 z266 z267 z268 z269 z270 z271 z272 z273 z274 z275 z276 z277 z278 z279 z280 z281 z282 z283 z284 z285 z286 z287 z288 z289 z290 z291 z292 z293 z294 z295 z296 z297 z298 z299 z300 z301 z302 z303 z304 z305 z306 z307 z308 z309 z310 z311 z312 z313 z314 z315 z316 z317 z318 z319 z320 z321 z322 z323 z324 z325 z326 z327 z328 z329 z330 z331 : Value) (w' : World), z18 = (if lvv = true then .slice none 0 0 else .slice ta2 tn2 tc2) → BxS w' gv 29 (vgA D' A') → wD.grownBy w' (some gv) → Q .normal (Act.mk (List.toArray (u0 :: u1 :: u2 :: u3 :: (.slice (some ⟨lb, lo, none⟩) ln lc) :: u5 :: u6 :: u7 :: u8 :: u9 :: z10 :: (.pointer (some ⟨ng, 0, none⟩)) :: u12 :: (.pointer (some ⟨gv, 0, none⟩)) :: u14 :: u15 :: u16 :: (.int .i64 q') :: z18 :: (.int .i64 (k : Int)) :: u20 :: u21 :: (.pointer (some ⟨gn, 0, none⟩)) :: (.slice na nn nc) :: u24 :: z25 :: (.bool wrg) :: u27 :: u28 :: u29 :: (.int .i64 (cc : Int)) :: u31 :: z32 :: z33 :: u34 :: u35 :: u36 :: u37 :: u38 :: u39 :: u40 :: u41 :: u42 :: u43 :: u44 :: u45 :: u46 :: u47 :: u48 :: u49 :: u50 :: u51 :: u52 :: u53 :: u54 :: u55 :: u56 :: u57 :: u58 :: u59 :: u60 :: u61 :: u62 :: u63 :: u64 :: u65 :: u66 :: u67 :: u68 :: u69 :: u70 :: u71 :: u72 :: u73 :: u74 :: u75 :: u76 :: u77 :: u78 :: u79 :: u80 :: u81 :: u82 :: u83 :: u84 :: u85 :: u86 :: u87 :: u88 :: u89 :: u90 :: u91 :: u92 :: u93 :: u94 :: u95 :: u96 :: u97 :: u98 :: u99 :: u100 :: u101 :: u102 :: u103 :: u104 :: u105 :: u106 :: u107 :: u108 :: u109 :: u110 :: u111 :: u112 :: u113 :: u114 :: u115 :: u116 :: u117 :: u118 :: u119 :: u120 :: u121 :: u122 :: u123 :: u124 :: u125 :: u126 :: u127 :: u128 :: u129 :: u130 :: u131 :: u132 :: u133 :: u134 :: u135 :: u136 :: u137 :: u138 :: u139 :: u140 :: u141 :: u142 :: u143 :: u144 :: u145 :: u146 :: u147 :: u148 :: u149 :: u150 :: u151 :: u152 :: u153 :: u154 :: u155 :: u156 :: u157 :: u158 :: u159 :: u160 :: u161 :: u162 :: u163 :: u164 :: u165 :: u166 :: u167 :: u168 :: u169 :: u170 :: u171 :: u172 :: u173 :: u174 :: u175 :: u176 :: u177 :: u178 :: u179 :: u180 :: u181 :: u182 :: u183 :: u184 :: u185 :: u186 :: u187 :: u188 :: u189 :: u190 :: u191 :: u192 :: u193 :: u194 :: u195 :: u196 :: u197 :: u198 :: u199 :: u200 :: u201 :: u202 :: u203 :: u204 :: u205 :: u206 :: u207 :: u208 :: u209 :: u210 :: u211 :: u212 :: u213 :: u214 :: u215 :: u216 :: u217 :: u218 :: u219 :: u220 :: u221 :: u222 :: u223 :: u224 :: u225 :: u226 :: u227 :: u228 :: u229 :: u230 :: u231 :: u232 :: u233 :: u234 :: u235 :: u236 :: u237 :: u238 :: z239 :: z240 :: z241 :: z242 :: z243 :: z244 :: z245 :: z246 :: z247 :: z248 :: z249 :: z250 :: z251 :: z252 :: z253 :: z254 :: z255 :: z256 :: z257 :: z258 :: z259 :: z260 :: z261 :: z262 :: z263 :: z264 :: z265 :: z266 :: z267 :: z268 :: z269 :: z270 :: z271 :: z272 :: z273 :: z274 :: z275 :: z276 :: z277 :: z278 :: z279 :: z280 :: z281 :: z282 :: z283 :: z284 :: z285 :: z286 :: z287 :: z288 :: z289 :: z290 :: z291 :: z292 :: z293 :: z294 :: z295 :: z296 :: z297 :: z298 :: z299 :: z300 :: z301 :: z302 :: z303 :: z304 :: z305 :: z306 :: z307 :: z308 :: z309 :: z310 :: z311 :: z312 :: z313 :: z314 :: z315 :: z316 :: z317 :: z318 :: z319 :: z320 :: z321 :: z322 :: z323 :: z324 :: z325 :: z326 :: z327 :: z328 :: z329 :: z330 :: z331 :: [])) []) w') :
    Code.wp Try.prog (tailR 50 (Try.f5.body.getD .skip)) Q (Act.mk (List.toArray (u0 :: u1 :: u2 :: u3 :: (.slice (some ⟨lb, lo, none⟩) ln lc) :: u5 :: u6 :: u7 :: u8 :: u9 :: u10 :: (.pointer (some ⟨ng, 0, none⟩)) :: u12 :: (.pointer (some ⟨gv, 0, none⟩)) :: u14 :: u15 :: u16 :: (.int .i64 q') :: (.slice ta2 tn2 tc2) :: (.int .i64 (k : Int)) :: u20 :: u21 :: (.pointer (some ⟨gn, 0, none⟩)) :: (.slice na nn nc) :: u24 :: (.int .i64 y1) :: (.bool wrg) :: u27 :: u28 :: u29 :: (.int .i64 (cc : Int)) :: u31 :: u32 :: u33 :: u34 :: u35 :: u36 :: u37 :: u38 :: u39 :: u40 :: u41 :: u42 :: u43 :: u44 :: u45 :: u46 :: u47 :: u48 :: u49 :: u50 :: u51 :: u52 :: u53 :: u54 :: u55 :: u56 :: u57 :: u58 :: u59 :: u60 :: u61 :: u62 :: u63 :: u64 :: u65 :: u66 :: u67 :: u68 :: u69 :: u70 :: u71 :: u72 :: u73 :: u74 :: u75 :: u76 :: u77 :: u78 :: u79 :: u80 :: u81 :: u82 :: u83 :: u84 :: u85 :: u86 :: u87 :: u88 :: u89 :: u90 :: u91 :: u92 :: u93 :: u94 :: u95 :: u96 :: u97 :: u98 :: u99 :: u100 :: u101 :: u102 :: u103 :: u104 :: u105 :: u106 :: u107 :: u108 :: u109 :: u110 :: u111 :: u112 :: u113 :: u114 :: u115 :: u116 :: u117 :: u118 :: u119 :: u120 :: u121 :: u122 :: u123 :: u124 :: u125 :: u126 :: u127 :: u128 :: u129 :: u130 :: u131 :: u132 :: u133 :: u134 :: u135 :: u136 :: u137 :: u138 :: u139 :: u140 :: u141 :: u142 :: u143 :: u144 :: u145 :: u146 :: u147 :: u148 :: u149 :: u150 :: u151 :: u152 :: u153 :: u154 :: u155 :: u156 :: u157 :: u158 :: u159 :: u160 :: u161 :: u162 :: u163 :: u164 :: u165 :: u166 :: u167 :: u168 :: u169 :: u170 :: u171 :: u172 :: u173 :: u174 :: u175 :: u176 :: u177 :: u178 :: u179 :: u180 :: u181 :: u182 :: u183 :: u184 :: u185 :: u186 :: u187 :: u188 :: u189 :: u190 :: u191 :: u192 :: u193 :: u194 :: u195 :: u196 :: u197 :: u198 :: u199 :: u200 :: u201 :: u202 :: u203 :: u204 :: u205 :: u206 :: u207 :: u208 :: u209 :: u210 :: u211 :: u212 :: u213 :: u214 :: u215 :: u216 :: u217 :: u218 :: u219 :: u220 :: u221 :: u222 :: u223 :: u224 :: u225 :: u226 :: u227 :: u228 :: u229 :: u230 :: u231 :: u232 :: u233 :: u234 :: u235 :: u236 :: u237 :: u238 :: u239 :: u240 :: u241 :: u242 :: u243 :: u244 :: u245 :: u246 :: u247 :: u248 :: u249 :: u250 :: u251 :: u252 :: u253 :: u254 :: u255 :: u256 :: u257 :: u258 :: u259 :: u260 :: u261 :: u262 :: u263 :: u264 :: u265 :: u266 :: u267 :: u268 :: u269 :: u270 :: u271 :: u272 :: u273 :: u274 :: u275 :: u276 :: u277 :: u278 :: u279 :: u280 :: u281 :: u282 :: u283 :: u284 :: u285 :: u286 :: u287 :: u288 :: u289 :: u290 :: u291 :: u292 :: u293 :: u294 :: u295 :: u296 :: u297 :: u298 :: u299 :: u300 :: u301 :: u302 :: u303 :: u304 :: u305 :: u306 :: u307 :: u308 :: u309 :: u310 :: u311 :: u312 :: u313 :: u314 :: u315 :: u316 :: u317 :: u318 :: u319 :: u320 :: u321 :: u322 :: u323 :: u324 :: u325 :: u326 :: u327 :: u328 :: u329 :: u330 :: u331 :: [])) []) wD := by
  let pq : Exit → Act → World → Prop := bodyPost Try.prog Try.f5 (fun _ _ => True)
  conv => enter [2]; whnf
  obtain ⟨_, g1c, g2c, g3c, _⟩ := BG.cell5
  have BV0 := BV
  unfold vgA at BV BX
  obtain ⟨v0, v1, _, _, _, _⟩ := BV.cell6
  obtain ⟨x0, x1, x2, x3, x4, x5⟩ := BX.cell6
  have hmo1 : 1 + (mo : Int) ≤ 10 := by omega
  go_upto_region 50 with fail
  go_cut [246] from 239 to 245 (fun s wx => s = .bool (decide (y1 = -1) && decide (1 + (mo : Int) ≤ (cc : Int))) ∧ wx = wD)
  case first =>
    by_cases hy : y1 = -1
    · subst hy
      by_cases hc : 1 + (mo : Int) ≤ (cc : Int)
      · go_wp2
        go_meet
        exact ⟨by rw [decide_eq_true hc]; rfl, rfl⟩
      · go_wp2
        go_meet
        exact ⟨by rw [decide_eq_false (p := 1 + (mo : Int) ≤ (cc : Int)) (by omega)]; rfl, rfl⟩
    · go_wp2
      go_meet
      exact ⟨by rw [decide_eq_false (p := y1 = -1) (by omega)]; rfl, rfl⟩
  case rest =>
    obtain ⟨hc1, hR9⟩ := hcut
    have hR9 := hR9.symm
    subst hR9
    subst hc1
    apply_assumption
    go_upto_if 246 with fail
    go_cut [25] from 239 to 246 (fun s wx => s = .int .i64 (wh2 y1 cc (1 + (mo : Int))) ∧ wx = wD)
    case first =>
      cases hq : (decide (y1 = -1) && decide (1 + (mo : Int) ≤ (cc : Int)))
      · have hw : wh2 y1 cc (1 + (mo : Int)) = y1 := if_neg (fun h => by rw [decide_eq_true h.1, decide_eq_true h.2] at hq; cases hq)
        have Hw : Hid _ := hw
        clear hw hq
        go_wp2
        go_meet
        exact ⟨by rw [Hw.out], rfl⟩
      · have hw : wh2 y1 cc (1 + (mo : Int)) = -3 := if_pos (by simpa using hq)
        have Hw : Hid _ := hw
        clear hw hq
        go_wp2
        go_meet
        exact ⟨by rw [Hw.out], rfl⟩
    case rest =>
      obtain ⟨hc1, hR9⟩ := hcut
      have hR9 := hR9.symm
      subst hR9
      subst hc1
      apply_assumption
      generalize wh2 y1 cc (1 + (mo : Int)) = y2 at HY ⊢
      go_upto_region 52 with fail
      go_cut [259] from 247 to 258 (fun s wx => s = .bool (decide (y2 = -1) && decide (0 < (si : Int)) && decide ((si : Int) ≤ q')) ∧ wx = wD)
      case first =>
        by_cases hy : y2 = -1
        · subst hy
          by_cases hc : 0 < (si : Int)
          · by_cases hd : (si : Int) ≤ q'
            · go_wp2
              go_meet
              exact ⟨by rw [decide_eq_true (p := 0 < (si : Int)) (by omega), decide_eq_true (p := (si : Int) ≤ q') (by omega)]; rfl, rfl⟩
            · go_wp2
              go_meet
              exact ⟨by rw [decide_eq_false (p := (si : Int) ≤ q') (by omega), Bool.and_false], rfl⟩
          · go_wp2
            go_meet
            exact ⟨by rw [decide_eq_false (p := 0 < (si : Int)) (by omega), Bool.and_false]; rfl, rfl⟩
        · go_wp2
          go_meet
          exact ⟨by rw [decide_eq_false (p := y2 = -1) (by omega)]; rfl, rfl⟩
      case rest =>
        obtain ⟨hc1, hR9⟩ := hcut
        have hR9 := hR9.symm
        subst hR9
        subst hc1
        apply_assumption
        go_upto_if 259 with fail
        go_cut [25] from 247 to 259 (fun s wx => s = .int .i64 (wh3 y2 (si : Int) q') ∧ wx = wD)
        case first =>
          cases hq : (decide (y2 = -1) && decide (0 < (si : Int)) && decide ((si : Int) ≤ q'))
          · have hw : wh3 y2 (si : Int) q' = y2 := if_neg (fun h => by rw [decide_eq_true h.1, decide_eq_true h.2.1, decide_eq_true h.2.2] at hq; cases hq)
            have Hw : Hid _ := hw
            clear hw hq
            go_wp2
            go_meet
            exact ⟨by rw [Hw.out], rfl⟩
          · have hw : wh3 y2 (si : Int) q' = -2 := if_pos (by simpa [and_assoc] using hq)
            have Hw : Hid _ := hw
            clear hw hq
            go_wp2
            go_meet
            exact ⟨by rw [Hw.out], rfl⟩
        case rest =>
          obtain ⟨hc1, hR9⟩ := hcut
          have hR9 := hR9.symm
          subst hR9
          subst hc1
          apply_assumption
          rw [← HY.out]
          go_upto_region 54 with fail
          go_cut [32] from 260 to 279 (fun s wx => s = .bool lvv ∧ wx = wD)
          case first =>
            cases hsf : D.sf
            · have e : lvv = false := by rw [HLV.out, hsf]; rfl
              rw [hsf] at v0
              go_wp2
              go_meet
              exact ⟨by rw [e], rfl⟩
            · rw [hsf] at v0
              cases le
              · have e : lvv = false := by rw [HLV.out, hsf]; rfl
                go_wp2
                go_meet
                exact ⟨by rw [e], rfl⟩
              · cases he
                · have e : lvv = false := by rw [HLV.out, hsf]; rfl
                  go_wp2
                  go_meet
                  exact ⟨by rw [e], rfl⟩
                · have e : lvv = !wrg := by rw [HLV.out, hsf]; rfl
                  go_wp2
                  go_meet
                  exact ⟨by rw [e], rfl⟩
          case rest =>
            obtain ⟨hc1, hR9⟩ := hcut
            have hR9 := hR9.symm
            subst hR9
            subst hc1
            apply_assumption
            go_upto_if 280 with fail
            go_cut [18] from 280 to 280 (fun s wx => s = (if lvv = true then .slice none 0 0 else .slice ta2 tn2 tc2) ∧ wx = wD)
            case first =>
              cases lvv
              · go_wp2
                go_meet
                exact ⟨rfl, rfl⟩
              · go_wp2
                go_meet
                exact ⟨rfl, rfl⟩
            case rest =>
              obtain ⟨hc1, hR9⟩ := hcut
              have hR9 := hR9.symm
              subst hR9
              subst hc1
              apply_assumption
              obtain ⟨z18, hz18⟩ : ∃ z, (if lvv = true then Value.slice none 0 0 else .slice ta2 tn2 tc2) = z := ⟨_, rfl⟩
              rw [hz18]
              have H18 : Hid _ := hz18
              clear hz18
              go_upto_block 10 with fail
              go_cut [] from 281 to 312 (fun wx => wx = wD)
              case first =>
                cases hsf : D.sf
                · have e : lvv = false := by rw [HLV.out, hsf]; rfl
                  obtain ⟨e1, e2⟩ := Hma.out hsf
                  rw [e2] at x0
                  rw [e1] at x1
                  rw [hsf] at v0
                  subst e
                  clear hsf e1 e2
                  by_cases hY : Y = -1
                  · subst hY
                    rw [show ((-1 : Int) != -1) = false from rfl] at x0
                    go_wp2
                    go_meet
                    rfl
                  · have hb : (Y != -1) = true := by simpa using hY
                    rw [hb] at x0
                    go_wp2
                    go_meet
                    rfl
                · rw [hsf] at v0
                  cases hlv : lvv
                  · obtain ⟨e1, e2⟩ := Hst.out hsf hlv
                    rw [e1] at x0
                    rw [e2] at x1
                    subst hlv
                    clear hsf e1 e2
                    go_wp2
                    go_meet
                    rfl
                  · have e1 := Hlv.out hlv
                    rw [e1] at x0
                    subst hlv
                    clear hsf e1
                    go_wp2
                    go_meet
                    rfl
              case rest =>
                have hR9 := hcut.symm
                subst hR9
                apply_assumption
                go_upto_region 65 with fail
                go_cut [33] from 313 to 319 (fun s wx => s = .bool (D'.sf && !D.sf) ∧ wx = wD)
                case first =>
                  cases hsf : D'.sf
                  · rw [hsf] at x0
                    go_wp2
                    go_meet
                    exact ⟨by rw [hsf]; rfl, rfl⟩
                  · rw [hsf] at x0
                    go_wp2
                    go_meet
                    exact ⟨by rw [hsf]; rfl, rfl⟩
                case rest =>
                  obtain ⟨hc1, hR9⟩ := hcut
                  have hR9 := hR9.symm
                  subst hR9
                  subst hc1
                  apply_assumption
                  obtain ⟨mk, hmk⟩ : ∃ mk, (D'.sf && !D.sf) = mk := ⟨_, rfl⟩
                  rw [hmk] at HNf ⊢
                  clear hmk
                  go_upto_region 66 with fail
                  go_cut [330] from 320 to 329 (fun s wx => s = .bool false ∧ wx = wD)
                  case first =>
                    have hlen := hN.len
                    have hmx := hN.max
                    have hle := hN.le
                    unfold maxLen at hmx
                    rcases HNf.out with ⟨e1, e2⟩ | ⟨s, r, e1, e2⟩
                    · subst e1
                      have e3 : nn = 0 := by rw [← hlen]; rfl
                      subst e2
                      subst e3
                      clear hlen
                      go_wp2
                      go_meet
                      exact ⟨rfl, rfl⟩
                    · subst e1
                      have e3 : nn = r.length + 1 := by rw [← hlen]; simp [sts]
                      obtain ⟨nb, no, e4, _, hc⟩ := hN.at' (by omega)
                      have c0 := hc 0 (.string s) rfl
                      rw [Nat.add_zero] at c0
                      subst e4
                      have hpos : 0 < nn := by omega
                      have hposi : (0 : Int) < (nn : Int) := by omega
                      have ct : (ByteArray.mk #[115, 97, 102, 101]).toList = [115, 97, 102, 101] := by decide +kernel
                      clear hc hlen e3
                      rcases e2 with ⟨e5, e6⟩ | ⟨e5, e6⟩
                      · subst e5
                        subst e6
                        unfold safB at c0
                        go_wp2
                        go_meet
                        exact ⟨rfl, rfl⟩
                      · subst e6
                        have e5 : Hid _ := e5
                        go_wp2
                        go_meet
                        have c5 : ¬ s.toList = [115, 97, 102, 101] := fun h => e5.out (by
                          rw [ByteArray.toList_eq] at h
                          cases s with
                          | mk d =>
                            have hd : d = #[115, 97, 102, 101] := Array.toList_inj.1 h
                            rw [hd]
                            rfl)
                        exact ⟨by rw [show (s.toList == [115, 97, 102, 101]) = false by simpa using c5], rfl⟩
                  case rest =>
                    obtain ⟨hc1, hR9⟩ := hcut
                    have hR9 := hR9.symm
                    subst hR9
                    subst hc1
                    apply_assumption
                    have t9 : True := trivial
                    go_wp2_with (have _t := t9; refine wpList_stX wD rfl _ (.tmp 13) (.tmp 331) rfl gv _ _ rfl rfl BV Try.info_vg rfl (by simp [Value.oneCell']) ?_; clear t9; intro w9 b9 u9)
                    exact hQ _ _ _ _ _ _ _ _ _ _ _ _ _ _ _ _ _ _ _ _ _ _ _ _ _ _ _ _ _ _ _ _ _ _ _ _ _ _ _ _ _ _ _ _ _ _ _ _ _ _ _ _ _ _ _ _ _ _ _ _ _ _ _ _ _ _ _ _ _ _ _ _ _ _ _ _ _ _ _ _ _ _ _ _ _ _ _ _ _ _ _ _ _ _ _ _ _ _ w9 H18.out.symm b9 u9
end Go.Proofs.Ytkfgchngndppiaa
