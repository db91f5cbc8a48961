import Derived.Test.YtkfgchngndppiaaULB
import Derived.Test.YtkfgchngndppiaaULk
import Derived.Deep.DeepCutAuto
import Derived.Deep.CutBlock
import Derived.Test.YtkfgchngndppiaaUBe
namespace Go.Proofs.Ytkfgchngndppiaa
open Go.RowKit
set_option maxRecDepth 100000
set_option linter.unusedVariables false
set_option linter.unusedSimpArgs false

set_option maxHeartbeats 32000000 in
theorem latch_tail25 {u0 u1 u2 u3 u5 u6 u7 u8 u9 u10 u12 u14 u21 u25 u26 u27 u28 u29 u30 u31 u32 u33 u34 u35 u36 u37 u38 u39 u40 u41 u42 u43 u44 u45 u46 u47 u48 u49 u50 u51 u52 u53 u54 u55 u56 u57 u58 u59 u60 u61 u62 u63 u64 u65 u66 u67 u68 u69 u70 u71 u72 u73 u74 u75 u76 u77 u78 u79 u80 u81 u82 u83 u84 u85 u86 u87 u88 u89 u90 u91 u92 u93 u94 u95 u96 u97 u98 u99 u100 u101 u102 u103 u104 u105 u106 u107 u108 u109 u110 u111 u112 u113 u114 u115 u116 u117 u118 u119 u120 u121 u122 u123 u124 u125 u126 u127 u128 u129 u130 u131 u132 u133 u134 u135 u136 u137 u138 u139 u140 u141 u142 u143 u144 u145 u146 u147 u148 u149 u150 u151 u152 u153 u154 u155 u156 u157 u158 u159 u160 u161 u162 u163 u164 u165 u166 u167 u168 u169 u170 u171 u172 u173 u174 u175 u176 u177 u178 u179 u180 u181 u182 u183 u184 u185 u186 u187 u188 u189 u190 u191 u192 u193 u194 u195 u196 u197 u198 u199 u200 u201 u202 u203 u204 u205 u206 u207 u208 u209 u210 u211 u212 u213 u214 u215 u216 u217 u218 u219 u220 u221 u222 u223 u224 u225 u226 u227 u228 u229 u230 u231 u232 u233 u234 u235 u236 u237 u238 u239 u240 u241 u242 u243 u244 u245 u246 u247 u248 u249 u250 u251 u252 u253 u254 u255 u256 u257 u258 u259 u260 u261 u262 u263 u264 u265 u266 u267 u268 u269 u270 u271 u272 u273 u274 u275 u276 u277 u278 u279 u280 u281 u282 u283 u284 u285 u286 u287 u288 u289 u290 u291 u292 u293 u294 u295 u296 u297 u298 u299 u300 u301 u302 u303 u304 u305 u306 u307 u308 u309 u310 u311 u312 u313 u314 u315 u316 u317 u318 u319 u320 u321 u322 u323 u324 u325 u326 u327 u328 u329 u330 u331 : Value} (lb lo ln lc ng gv gn gl gy gm cx k n tn tc nn nc si mo wi : Nat) (ta na : Option Addr) (q Y : Int) (he le lvv : Bool) (A A' : Va) (D D' : Vi) (Nm : List ByteArray) (F : Nat → Mo) (Vs L Ts : List Int) (wS : World) (Q : Exit → Act → World → Prop)
    (hk : k < ln) (hln : ln ≤ 300) (b1 : si < 20) (b2 : mo < 6) (b3 : wi < 30) (hn9 : n ≤ 9) (hq0 : 0 ≤ q) (hqk : q ≤ (k : Int)) (htn : tn ≤ 9 * k) (hlb : lb < wS.heap.size)
    (BGs : BxS wS ng 24 #[.slice (some ⟨gm, 0, none⟩) n cx, .int .i64 (si : Int), .int .i64 (1 + (mo : Int)), .int .i64 (1 + (wi : Int)), .string ⟨#[115, 97, 102, 101]⟩]) (BVs : BxS wS gv 29 (vgA D A)) (BXs : BxS wS gn 29 (vgA D' A')) (hgn : gn ≠ gv)
    (MVs : RdM wS (some ⟨gm, 0, none⟩) n cx F) (hF : ∀ j, j < n → MoR (F j)) (YVs : RdX wS (some ⟨gy, 0, none⟩) 3 3 (zys Vs))
    (k1 : wS.cell? ⟨lb, lo + k * 3 + 1, none⟩ = some (.bool he)) (k2 : wS.cell? ⟨lb, lo + k * 3 + 2, none⟩ = some (.bool le)) (hN : RdX wS na nn nc (sts Nm))
    (hJ0 : LJ wS wS gl (Value.slice ta tn tc).ownBlock n L ta tn tc Ts)
    (hgm : ¬ (gm = gl ∨ (Value.slice ta tn tc).ownBlock = some gm)) (hgg : ¬ (ng = gl ∨ (Value.slice ta tn tc).ownBlock = some ng)) (hngv : ¬ (gv = gl ∨ (Value.slice ta tn tc).ownBlock = some gv)) (hngn : ¬ (gn = gl ∨ (Value.slice ta tn tc).ownBlock = some gn)) (hnl : ¬ (lb = gl ∨ (Value.slice ta tn tc).ownBlock = some lb))
    (hyy : ∀ b off, (some ⟨gy, 0, none⟩ : Option Addr) = some ⟨b, off, none⟩ → ¬ (b = gl ∨ (Value.slice ta tn tc).ownBlock = some b)) (hnN : ∀ b off, na = some ⟨b, off, none⟩ → ¬ (b = gl ∨ (Value.slice ta tn tc).ownBlock = some b))
    (hLb : ∀ j, j < n → 0 ≤ nthI L j) (hLk : ∀ j, j < n → nthI L j ≤ (k : Int)) (hll2 : L.length = n) (hTs : ∀ t, t ∈ Ts → 0 ≤ t ∧ t ≤ (k : Int))
    (HLV : Hid (lvv = (D.sf && le && he && !wrS F Vs L n))) (HY : Hid (Y = wh3 (wh2 (whS F Vs L n) (agL (k : Int) (1 + (wi : Int)) (tsS (k : Int) F Vs L Ts n)).length (1 + (mo : Int))) (si : Int) (qnx q he)))
    (Hst : Hid (D.sf = true → lvv = false → D'.sf = true ∧ D'.wy = D.wy)) (Hlv : Hid (lvv = true → D'.sf = false)) (Hma : Hid (D.sf = false → D'.wy = Y ∧ D'.sf = (Y != -1)))
    (HNf : Hid ((Nm = [] ∧ (D'.sf && !D.sf) = false) ∨ ∃ s r, Nm = s :: r ∧ ((s = safB ∧ (D'.sf && !D.sf) = true) ∨ (s ≠ safB ∧ (D'.sf && !D.sf) = false))))
    (hQ : ∀ (z10 z17 z18 z25 z26 z27 z28 z29 z30 z31 z32 z33 z154 z155 z156 z157 z158 z159 z160 z161 z162 z163 z164 z165 z166 z167 z168 z169 z170 z171 z172 z173 z174 z175 z176 z177 z178 z179 z180 z181 z182 z183 z184 z185 z186 z187 z188 z189 z190 z191 z192 z193 z194 z195 z196 z197 z198 z199 z200 z201 z202 z203 z204 z205 z206 z207 z208 z209 z210 z211 z212 z213 z214 z215 z216 z217 z218 z219 z220 z221 z222 z223 z224 z225 z226 z227 z228 z229 z230 z231 z232 z233 z234 z235 z236 z237 z238 z239 z240 z241 z242 z243 z244 z245 z246 z247 z248 z249 z250 z251 z252 z253 z254 z255 z256 z257 z258 z259 z260 z261 z262 z263 z264 z265 z266 z267 z268 z269 z270 z271 z272 z273 z274 z275 z276 z277 z278 z279 z280 z281 z282 z283 z284 z285 z286 z287 z288 z289 z290 z291 z292 z293 z294 z295 z296 z297 z298 z299 z300 z301 z302 z303 z304 z305 z306 z307 z308 z309 z310 z311 z312 z313 z314 z315 z316 z317 z318 z319 z320 z321 z322 z323 z324 z325 z326 z327 z328 z329 z330 z331 : Value) (wD w' : World) (tn2 tc2 : Nat) (ta2 : Option Addr), z17 = .int .i64 (qnx q he) → z18 = (if lvv = true then .slice none 0 0 else .slice ta2 tn2 tc2) → LJ wS wD gl (Value.slice ta tn tc).ownBlock n (lgS F Vs L n) ta2 tn2 tc2 (tsS (k : Int) F Vs L Ts n) → tn2 ≤ tn + n → BxS w' gv 29 (vgA D' A') → wD.grownBy w' (some gv) → Q .normal (Act.mk (List.toArray (u0 :: u1 :: u2 :: u3 :: (.slice (some ⟨lb, lo, none⟩) ln lc) :: u5 :: u6 :: u7 :: u8 :: u9 :: z10 :: (.pointer (some ⟨ng, 0, none⟩)) :: u12 :: (.pointer (some ⟨gv, 0, none⟩)) :: u14 :: (.int .i64 (n : Int)) :: (.slice (some ⟨gl, 0, none⟩) n n) :: z17 :: z18 :: (.int .i64 (k : Int)) :: (.slice (some ⟨gy, 0, none⟩) 3 3) :: u21 :: (.pointer (some ⟨gn, 0, none⟩)) :: (.slice na nn nc) :: (.int .i64 0) :: z25 :: z26 :: z27 :: z28 :: z29 :: z30 :: z31 :: z32 :: z33 :: u34 :: u35 :: u36 :: u37 :: u38 :: u39 :: u40 :: u41 :: u42 :: u43 :: u44 :: u45 :: u46 :: u47 :: u48 :: u49 :: u50 :: u51 :: u52 :: u53 :: u54 :: u55 :: u56 :: u57 :: u58 :: u59 :: u60 :: u61 :: u62 :: u63 :: u64 :: u65 :: u66 :: u67 :: u68 :: u69 :: u70 :: u71 :: u72 :: u73 :: u74 :: u75 :: u76 :: u77 :: u78 :: u79 :: u80 :: u81 :: u82 :: u83 :: u84 :: u85 :: u86 :: u87 :: u88 :: u89 :: u90 :: u91 :: u92 :: u93 :: u94 :: u95 :: u96 :: u97 :: u98 :: u99 :: u100 :: u101 :: u102 :: u103 :: u104 :: u105 :: u106 :: u107 :: u108 :: u109 :: u110 :: u111 :: u112 :: u113 :: u114 :: u115 :: u116 :: u117 :: u118 :: u119 :: u120 :: u121 :: u122 :: u123 :: u124 :: u125 :: u126 :: u127 :: u128 :: u129 :: u130 :: u131 :: u132 :: u133 :: u134 :: u135 :: u136 :: u137 :: u138 :: u139 :: u140 :: u141 :: u142 :: u143 :: u144 :: u145 :: u146 :: u147 :: u148 :: u149 :: u150 :: u151 :: u152 :: u153 :: z154 :: z155 :: z156 :: z157 :: z158 :: z159 :: z160 :: z161 :: z162 :: z163 :: z164 :: z165 :: z166 :: z167 :: z168 :: z169 :: z170 :: z171 :: z172 :: z173 :: z174 :: z175 :: z176 :: z177 :: z178 :: z179 :: z180 :: z181 :: z182 :: z183 :: z184 :: z185 :: z186 :: z187 :: z188 :: z189 :: z190 :: z191 :: z192 :: z193 :: z194 :: z195 :: z196 :: z197 :: z198 :: z199 :: z200 :: z201 :: z202 :: z203 :: z204 :: z205 :: z206 :: z207 :: z208 :: z209 :: z210 :: z211 :: z212 :: z213 :: z214 :: z215 :: z216 :: z217 :: z218 :: z219 :: z220 :: z221 :: z222 :: z223 :: z224 :: z225 :: z226 :: z227 :: z228 :: z229 :: z230 :: z231 :: z232 :: z233 :: z234 :: z235 :: z236 :: z237 :: z238 :: z239 :: z240 :: z241 :: z242 :: z243 :: z244 :: z245 :: z246 :: z247 :: z248 :: z249 :: z250 :: z251 :: z252 :: z253 :: z254 :: z255 :: z256 :: z257 :: z258 :: z259 :: z260 :: z261 :: z262 :: z263 :: z264 :: z265 :: z266 :: z267 :: z268 :: z269 :: z270 :: z271 :: z272 :: z273 :: z274 :: z275 :: z276 :: z277 :: z278 :: z279 :: z280 :: z281 :: z282 :: z283 :: z284 :: z285 :: z286 :: z287 :: z288 :: z289 :: z290 :: z291 :: z292 :: z293 :: z294 :: z295 :: z296 :: z297 :: z298 :: z299 :: z300 :: z301 :: z302 :: z303 :: z304 :: z305 :: z306 :: z307 :: z308 :: z309 :: z310 :: z311 :: z312 :: z313 :: z314 :: z315 :: z316 :: z317 :: z318 :: z319 :: z320 :: z321 :: z322 :: z323 :: z324 :: z325 :: z326 :: z327 :: z328 :: z329 :: z330 :: z331 :: [])) []) w') :
    Code.wp Try.prog (tailR 25 (Try.f5.body.getD .skip)) Q (Act.mk (List.toArray (u0 :: u1 :: u2 :: u3 :: (.slice (some ⟨lb, lo, none⟩) ln lc) :: u5 :: u6 :: u7 :: u8 :: u9 :: u10 :: (.pointer (some ⟨ng, 0, none⟩)) :: u12 :: (.pointer (some ⟨gv, 0, none⟩)) :: u14 :: (.int .i64 (n : Int)) :: (.slice (some ⟨gl, 0, none⟩) n n) :: (.int .i64 q) :: (.slice ta tn tc) :: (.int .i64 (k : Int)) :: (.slice (some ⟨gy, 0, none⟩) 3 3) :: u21 :: (.pointer (some ⟨gn, 0, none⟩)) :: (.slice na nn nc) :: (.int .i64 0) :: u25 :: u26 :: u27 :: u28 :: u29 :: u30 :: u31 :: u32 :: u33 :: u34 :: u35 :: u36 :: u37 :: u38 :: u39 :: u40 :: u41 :: u42 :: u43 :: u44 :: u45 :: u46 :: u47 :: u48 :: u49 :: u50 :: u51 :: u52 :: u53 :: u54 :: u55 :: u56 :: u57 :: u58 :: u59 :: u60 :: u61 :: u62 :: u63 :: u64 :: u65 :: u66 :: u67 :: u68 :: u69 :: u70 :: u71 :: u72 :: u73 :: u74 :: u75 :: u76 :: u77 :: u78 :: u79 :: u80 :: u81 :: u82 :: u83 :: u84 :: u85 :: u86 :: u87 :: u88 :: u89 :: u90 :: u91 :: u92 :: u93 :: u94 :: u95 :: u96 :: u97 :: u98 :: u99 :: u100 :: u101 :: u102 :: u103 :: u104 :: u105 :: u106 :: u107 :: u108 :: u109 :: u110 :: u111 :: u112 :: u113 :: u114 :: u115 :: u116 :: u117 :: u118 :: u119 :: u120 :: u121 :: u122 :: u123 :: u124 :: u125 :: u126 :: u127 :: u128 :: u129 :: u130 :: u131 :: u132 :: u133 :: u134 :: u135 :: u136 :: u137 :: u138 :: u139 :: u140 :: u141 :: u142 :: u143 :: u144 :: u145 :: u146 :: u147 :: u148 :: u149 :: u150 :: u151 :: u152 :: u153 :: u154 :: u155 :: u156 :: u157 :: u158 :: u159 :: u160 :: u161 :: u162 :: u163 :: u164 :: u165 :: u166 :: u167 :: u168 :: u169 :: u170 :: u171 :: u172 :: u173 :: u174 :: u175 :: u176 :: u177 :: u178 :: u179 :: u180 :: u181 :: u182 :: u183 :: u184 :: u185 :: u186 :: u187 :: u188 :: u189 :: u190 :: u191 :: u192 :: u193 :: u194 :: u195 :: u196 :: u197 :: u198 :: u199 :: u200 :: u201 :: u202 :: u203 :: u204 :: u205 :: u206 :: u207 :: u208 :: u209 :: u210 :: u211 :: u212 :: u213 :: u214 :: u215 :: u216 :: u217 :: u218 :: u219 :: u220 :: u221 :: u222 :: u223 :: u224 :: u225 :: u226 :: u227 :: u228 :: u229 :: u230 :: u231 :: u232 :: u233 :: u234 :: u235 :: u236 :: u237 :: u238 :: u239 :: u240 :: u241 :: u242 :: u243 :: u244 :: u245 :: u246 :: u247 :: u248 :: u249 :: u250 :: u251 :: u252 :: u253 :: u254 :: u255 :: u256 :: u257 :: u258 :: u259 :: u260 :: u261 :: u262 :: u263 :: u264 :: u265 :: u266 :: u267 :: u268 :: u269 :: u270 :: u271 :: u272 :: u273 :: u274 :: u275 :: u276 :: u277 :: u278 :: u279 :: u280 :: u281 :: u282 :: u283 :: u284 :: u285 :: u286 :: u287 :: u288 :: u289 :: u290 :: u291 :: u292 :: u293 :: u294 :: u295 :: u296 :: u297 :: u298 :: u299 :: u300 :: u301 :: u302 :: u303 :: u304 :: u305 :: u306 :: u307 :: u308 :: u309 :: u310 :: u311 :: u312 :: u313 :: u314 :: u315 :: u316 :: u317 :: u318 :: u319 :: u320 :: u321 :: u322 :: u323 :: u324 :: u325 :: u326 :: u327 :: u328 :: u329 :: u330 :: u331 :: [])) []) wS := by
  let pq : Exit → Act → World → Prop := bodyPost Try.prog Try.f5 (fun _ _ => True)
  conv => enter [2]; whnf
  have hqi : q + 1 ≤ 1000 := by omega
  have hqw : IntKind.i64.wrap (q + 1) = q + 1 := wrap_i64_in _ (by omega) (by omega)
  go_upto_if 162 with fail
  go_cut [17] from 154 to 162 (fun s17 wx => s17 = .int .i64 (qnx q he) ∧ wx = wS)
  case first =>
    cases he
    · go_wp2
      go_meet
      exact ⟨rfl, rfl⟩
    · go_wp2
      go_meet
      exact ⟨rfl, rfl⟩
  case rest =>
    obtain ⟨hc1, hR9⟩ := hcut
    have hR9 := hR9.symm
    subst hR9
    subst hc1
    apply_assumption
    clear hqi hqw
    have hqn0 : 0 ≤ qnx q he := by unfold qnx; split <;> omega
    have hqn1 : qnx q he ≤ 1000 := by unfold qnx; split <;> omega
    go_upto_block 6 with fail
    go_cut [18, 25, 26, 27, 28, 29] from 163 to 221 (fun s18 s25 s26 s27 s28 s29 wx => ∃ (tn2 tc2 : Nat) (ta2 : Option Addr), s25 = .int .i64 (whS F Vs L n) ∧ s26 = .bool (wrS F Vs L n) ∧ s18 = .slice ta2 tn2 tc2 ∧ LJ wS wx gl (Value.slice ta tn tc).ownBlock n (lgS F Vs L n) ta2 tn2 tc2 (tsS (k : Int) F Vs L Ts n) ∧ tn2 ≤ tn + n)
    case first =>
      go_wp2
      go_loopw [18, 25, 26, 27] (fun s18 s25 s26 s27 wr => ∃ (j tn2 tc2 : Nat) (ta2 : Option Addr), j ≤ n ∧ s27 = .int .i64 (j : Int) ∧ s25 = .int .i64 (whS F Vs L j) ∧ s26 = .bool (wrS F Vs L j) ∧ s18 = .slice ta2 tn2 tc2 ∧ LJ wS wr gl (Value.slice ta tn tc).ownBlock n (lgS F Vs L j) ta2 tn2 tc2 (tsS (k : Int) F Vs L Ts j) ∧ tn2 ≤ tn + j) (fun _ _ _ jv _ => n - (intOf jv).toNat)
      case atStart => exact ⟨0, tn, tc, ta, by omega, rfl, rfl, rfl, rfl, hJ0, by omega⟩
      case round =>
        clear hJ0
        obtain ⟨j, tn2, tc2, ta2, hj, rfl, rfl, rfl, rfl, hJ, htn2⟩ := hrel
        by_cases hjn : j < n
        · have hjni : (j : Int) < (n : Int) := by omega
          obtain ⟨mv0, mv1, mv2, mv3, mv4, mv5⟩ := (MVs.fzM hJ.f hgm).six j hjn
          rw [Nat.zero_add] at mv0 mv1 mv2 mv3 mv4 mv5
          have hMo := hF j hjn
          have mO0 := hMo.of0
          have mO3 := hMo.of3
          have mF1 := hMo.fr
          have mF2 : (F j).fr ≤ 1000 := by
            have := hMo.ok
            unfold moE moB at this
            by_cases hb : (kwB (F j).of' 0 63 && kwB (F j).lo (-2147483648) 2147483647 && kwB (F j).hi (F j).lo 2147483647 && kwB (F j).fr 1 1000 && kwB (F j).ti 1 3) = true
            · simp only [Bool.and_eq_true] at hb
              exact (kwB_ok hb.1.2).2
            · rw [if_neg hb] at this; omega
          have hlj := hLb j hjn
          have hljk := hLk j hjn
          have HlnK : Hid (lnK F Vs L j = if kwB (nthI Vs (F j).of'.toNat) 0 9 = true then 0 else nthI L j + 1) := rfl
          have HlgS : Hid (lgS F Vs L (j + 1) = (lgS F Vs L j).set j (lnK F Vs L j)) := rfl
          have HtsS : Hid (tsS (k : Int) F Vs L Ts (j + 1) = if lnK F Vs L j = (F j).fr then tsS (k : Int) F Vs L Ts j ++ [(k : Int)] else tsS (k : Int) F Vs L Ts j) := rfl
          have HwhS : Hid (whS F Vs L (j + 1) = if lnK F Vs L j = (F j).fr ∧ (F j).ti = 3 ∧ whS F Vs L j = -1 then (j : Int) else whS F Vs L j) := rfl
          have HwrS : Hid (wrS F Vs L (j + 1) = (wrS F Vs L j || decide ((F j).fr ≤ lnK F Vs L j))) := rfl
          have HlgA : nthI (lgS F Vs L j) j = nthI L j := by rw [lgS_at _ _ _ _ _ (by omega), if_neg (Nat.lt_irrefl _)]
          have HlgL : Hid ((lgS F Vs L j).length = n) := by show _ = _; rw [lgS_len]; exact hll2
          generalize F j = mj at mv0 mv1 mv2 mv3 mv4 mv5 mO0 mO3 mF1 mF2 HlnK HtsS HwhS HwrS
          obtain ⟨of', m1, m2, fr, ti, th⟩ := mj
          dsimp only at mv0 mv1 mv2 mv3 mv4 mv5 mO0 mO3 mF1 mF2 HlnK HtsS HwhS HwrS
          obtain ⟨oo, rfl⟩ : ∃ oo : Nat, of' = (oo : Int) := ⟨of'.toNat, by omega⟩
          have ho3 : oo < 3 := by omega
          have ho3i : (oo : Int) < 3 := mO3
          rw [show ((oo : Int)).toNat = oo by omega] at HlnK
          have gx0 := (BGs.fz hJ.f hgg).cell 0 (by show 0 < 5; decide)
          have hwlen : (lgS F Vs L j).length = n := HlgL.out
          have bm := BxS.new wr 51 #[.int .i64 (oo : Int), .int .i64 m1, .int .i64 m2, .int .i64 fr, .int .i64 ti, .string th]
          have gm := World.grownBy_alloc wr (.cells #[.int .i64 (oo : Int), .int .i64 m1, .int .i64 m2, .int .i64 fr, .int .i64 ti, .string th] 51) none
          have hszm : (wr.alloc (.cells #[.int .i64 (oo : Int), .int .i64 m1, .int .i64 m2, .int .i64 fr, .int .i64 ti, .string th] 51)).heap.size = wr.heap.size + 1 := by simp
          generalize hwm : wr.alloc (.cells #[.int .i64 (oo : Int), .int .i64 m1, .int .i64 m2, .int .i64 fr, .int .i64 ti, .string th] 51) = wm at bm gm hszm
          have hJm := hJ.keep gm
          obtain ⟨n0, n1, n2, n3, n4, n5⟩ := bm.cell6
          have yv := (YVs.fz hJm.f hyy).at_self oo ho3
          have lc0 := hJm.l.cell j _ (zys_at _ j (by omega))
          have lf0 := hJm.l.free j
          rw [HlgA] at lc0
          have gmz : gl < wr.heap.size := hJ.l.lt gl rfl
          have ngm : gl ≠ wr.heap.size := by omega
          generalize nthI L j = lj at hlj hljk HlnK lc0
          generalize nthI Vs oo = xx at HlnK yv
          have hlw : IntKind.i64.wrap (lj + 1) = lj + 1 := wrap_i64_in _ (by omega) (by omega)
          have hJ1 := hJm.setL j (lj + 1)
          have bm1 := bm.keep (grown_set wm gl j (.int .i64 (lj + 1))) (by simp; omega)
          have Hhs : Hid _ := hszm
          have Hwl : Hid _ := hwlen
          have HnK : Hid _ := HlgA
          clear hszm hwlen HlgA hMo
          go_upto_region 37 with fail
          generalize hwn : wm.setCell ⟨gl, j, none⟩ (.int .i64 (lj + 1)) = wn at hJ1 bm1 ⊢
          clear n0 n1 n2 n3 n4 n5 yv lc0 lf0 mv0 mv1 mv2 mv3 mv4 mv5 gx0 hlw hwn
          go_cut [189] from 184 to 188 (fun s wx => s = .bool (kwB xx 0 9) ∧ wx = wn)
          case first =>
            by_cases hx0 : (0 : Int) ≤ xx
            · by_cases hx9 : xx ≤ 9
              · go_wp2
                go_meet
                exact ⟨by rw [kwB_t ⟨hx0, hx9⟩], rfl⟩
              · go_wp2
                go_meet
                exact ⟨by unfold kwB; rw [decide_eq_false (by omega)], rfl⟩
            · go_wp2
              go_meet
              exact ⟨by unfold kwB; rw [decide_eq_false (by omega)], rfl⟩
          case rest =>
            obtain ⟨hc1, hR9⟩ := hcut
            have hR9 := hR9.symm
            subst hR9
            subst hc1
            apply_assumption
            have lc1 := hJ1.l.cell j _ (zys_at _ j (by rw [List.length_set, Hwl.out]; exact hjn))
            have lf1 := hJ1.l.free j
            obtain ⟨zz, hzz⟩ : ∃ zz, lnK F Vs L j = zz := ⟨_, rfl⟩
            rw [hzz] at HlnK HlgS HtsS HwhS HwrS
            have hzb : 0 ≤ zz ∧ zz ≤ 1000 := by rw [HlnK.out]; split <;> omega
            have Hzz : Hid _ := hzz
            clear hzz
            go_upto_if 189 with fail
            go_cut [] from 184 to 192 (fun wx => LJ wS wx gl (Value.slice ta tn tc).ownBlock n (lgS F Vs L (j + 1)) ta2 tn2 tc2 (tsS (k : Int) F Vs L Ts j) ∧ BxS wx wr.heap.size 51 #[.int .i64 (oo : Int), .int .i64 m1, .int .i64 m2, .int .i64 fr, .int .i64 ti, .string th])
            case first =>
              cases hxx : kwB xx 0 9
              · have e2 : zz = lj + 1 := by rw [HlnK.out, hxx]; rfl
                have He2 : Hid _ := e2
                clear e2
                go_wp2
                go_meet
                rw [HlgS.out, He2.out]
                exact ⟨hJ1, bm1⟩
              · have e2 : zz = 0 := by rw [HlnK.out, hxx]; rfl
                have He2 : Hid _ := e2
                clear e2
                go_wp2
                go_meet
                have hJ2 := hJ1.setL j 0
                rw [List.set_set] at hJ2
                rw [HlgS.out, He2.out]
                exact ⟨hJ2, bm1.keep (grown_set wn gl j (.int .i64 0)) (by simp; omega)⟩
            case rest =>
              obtain ⟨hJ2, bm2⟩ := hcut
              apply_assumption
              clear hJ1 bm1 lc1 lf1 hJm bm gm hJ HlnK
              generalize wc = wq at *
              have lc2 := hJ2.l.cell j _ (zys_at _ j (by rw [lgS_len, hll2]; exact hjn))
              rw [show nthI (lgS F Vs L (j + 1)) j = zz by rw [lgS_at _ _ _ _ _ (by omega), if_pos (by omega)]; exact Hzz.out] at lc2
              obtain ⟨_, _, _, n3, n4, _⟩ := bm2.cell6
              go_wp2
              go_quiet (fail)
              have hJ3 := hJ2.keep (grown_drewN wq nq none)
              have bm3 := bm2.keep (grown_drewN wq nq none) (by simp)
              generalize wq.drewN nq = wa at *
              clear nq lc2 n3 n4 hJ2 bm2
              obtain ⟨_, _, _, n3, n4, _⟩ := bm3.cell6
              obtain ⟨wy, hwy⟩ : ∃ wy, whS F Vs L j = wy := ⟨_, rfl⟩
              rw [hwy] at HwhS ⊢
              have Hwy : Hid _ := hwy
              clear hwy
              have hlo : gl + 1 ≤ wa.heap.size := by have := hJ3.l.lt gl rfl; omega
              have t5 : True := trivial
              go_upto_if 199 with fail
              go_cut [18, 25] from 193 to 211 (fun s18 s25 wx => ∃ (tn3 tc3 : Nat) (ta3 : Option Addr), s18 = .slice ta3 tn3 tc3 ∧ s25 = .int .i64 (whS F Vs L (j + 1)) ∧ LJ wS wx gl (Value.slice ta tn tc).ownBlock n (lgS F Vs L (j + 1)) ta3 tn3 tc3 (tsS (k : Int) F Vs L Ts (j + 1)) ∧ BxS wx wr.heap.size 51 #[.int .i64 (oo : Int), .int .i64 m1, .int .i64 m2, .int .i64 fr, .int .i64 ti, .string th] ∧ tn3 ≤ tn + (j + 1))
              case first =>
                by_cases hzf : zz = fr
                · have Hts : Hid (tsS (k : Int) F Vs L Ts (j + 1) = tsS (k : Int) F Vs L Ts j ++ [(k : Int)]) := by show _ = _; rw [HtsS.out, if_pos hzf]
                  have Hwh : Hid (whS F Vs L (j + 1) = if ti = 3 ∧ wy = -1 then (j : Int) else wy) := by
                    show _ = _
                    rw [HwhS.out]
                    by_cases hc : ti = 3 ∧ wy = -1
                    · rw [if_pos ⟨hzf, hc⟩, if_pos hc]
                    · rw [if_neg (fun h => hc h.2), if_neg hc]
                  clear HtsS HwhS
                  subst hzf
                  by_cases h3 : ti = 3
                  · subst h3
                    by_cases hy1 : wy = -1
                    · subst hy1
                      go_wp2_with (first
                        | (at_builtin; have _t := t5; refine wpList_psX Try.elI wa (.int .i64 (k : Int)) rfl rfl (.tmp 200) (.tmp 202) rfl ta2 tn2 tc2 (gl + 1) _ rfl hJ3.t hlo rfl (by omega) ?_; clear t5; intro g8 c8 w8 hA8 u8 hx8; have bm8 := bm3.keep u8 (fun e => hJ3.t.ne_box bm3 (by decide) e.symm); clear n3 n4; obtain ⟨_, _, _, n3, n4, _⟩ := bm8.cell6))
                      go_meet
                      exact ⟨tn2 + 1, c8, _, rfl, by rw [Hwh.out]; simp, by rw [Hts.out]; exact hJ3.push hA8 u8 hx8, bm8, by omega⟩
                    · go_wp2_with (first
                        | (at_builtin; have _t := t5; refine wpList_psX Try.elI wa (.int .i64 (k : Int)) rfl rfl (.tmp 200) (.tmp 202) rfl ta2 tn2 tc2 (gl + 1) _ rfl hJ3.t hlo rfl (by omega) ?_; clear t5; intro g8 c8 w8 hA8 u8 hx8; have bm8 := bm3.keep u8 (fun e => hJ3.t.ne_box bm3 (by decide) e.symm); clear n3 n4; obtain ⟨_, _, _, n3, n4, _⟩ := bm8.cell6))
                      go_meet
                      exact ⟨tn2 + 1, c8, _, rfl, by rw [Hwh.out, if_neg (fun h => hy1 h.2)], by rw [Hts.out]; exact hJ3.push hA8 u8 hx8, bm8, by omega⟩
                  · go_wp2_with (first
                      | (at_builtin; have _t := t5; refine wpList_psX Try.elI wa (.int .i64 (k : Int)) rfl rfl (.tmp 200) (.tmp 202) rfl ta2 tn2 tc2 (gl + 1) _ rfl hJ3.t hlo rfl (by omega) ?_; clear t5; intro g8 c8 w8 hA8 u8 hx8; have bm8 := bm3.keep u8 (fun e => hJ3.t.ne_box bm3 (by decide) e.symm); clear n3 n4; obtain ⟨_, _, _, n3, n4, _⟩ := bm8.cell6))
                    go_meet
                    exact ⟨tn2 + 1, c8, _, rfl, by rw [Hwh.out, if_neg (fun h => h3 h.1)], by rw [Hts.out]; exact hJ3.push hA8 u8 hx8, bm8, by omega⟩
                · have Hts : Hid (tsS (k : Int) F Vs L Ts (j + 1) = tsS (k : Int) F Vs L Ts j) := by show _ = _; rw [HtsS.out, if_neg hzf]
                  have Hwh : Hid (whS F Vs L (j + 1) = wy) := by show _ = _; rw [HwhS.out, if_neg (fun h => hzf h.1)]
                  go_wp2
                  go_meet
                  exact ⟨tn2, tc2, ta2, rfl, by rw [Hwh.out], by rw [Hts.out]; exact hJ3, bm3, by omega⟩
              case rest =>
                obtain ⟨tn3, tc3, ta3, hc1, hc2, hJ4, bm4, ht3⟩ := hcut
                subst hc1
                subst hc2
                apply_assumption
                clear hJ3 bm3 n3 n4 HtsS HwhS
                generalize wc = wb at *
                have lc2 := hJ4.l.cell j _ (zys_at _ j (by rw [lgS_len, hll2]; exact hjn))
                rw [show nthI (lgS F Vs L (j + 1)) j = zz by rw [lgS_at _ _ _ _ _ (by omega), if_pos (by omega)]; exact Hzz.out] at lc2
                obtain ⟨_, _, _, n3, n4, _⟩ := bm4.cell6
                obtain ⟨wb1, hwb⟩ : ∃ b, wrS F Vs L j = b := ⟨_, rfl⟩
                rw [hwb] at HwrS ⊢
                clear hwb
                cases wb1
                · by_cases hzf : fr ≤ zz
                  · have Hwr : Hid (wrS F Vs L (j + 1) = true) := by show _ = _; rw [HwrS.out, decide_eq_true hzf]; rfl
                    go_wp2
                    go_quiet (fail)
                    go_wp2
                    go_roundw
                    case rel => exact ⟨j + 1, tn3, tc3, ta3, by omega, by go_num, rfl, by first | (rw [Hwr.out]; done) | (rw [Hwr.out]; exact congrArg Value.bool (decide_eq_false (by omega))) | (rw [Hwr.out]; exact congrArg Value.bool (decide_eq_true (by omega))), rfl, hJ4.keep (grown_drewN _ _ _), ht3⟩
                    case measure => simp [intOf]; omega
                  · have Hwr : Hid (wrS F Vs L (j + 1) = false) := by show _ = _; rw [HwrS.out, decide_eq_false hzf]; rfl
                    go_wp2
                    go_quiet (fail)
                    go_wp2
                    go_roundw
                    case rel => exact ⟨j + 1, tn3, tc3, ta3, by omega, by go_num, rfl, by first | (rw [Hwr.out]; done) | (rw [Hwr.out]; exact congrArg Value.bool (decide_eq_false (by omega))) | (rw [Hwr.out]; exact congrArg Value.bool (decide_eq_true (by omega))), rfl, hJ4.keep (grown_drewN _ _ _), ht3⟩
                    case measure => simp [intOf]; omega
                · have Hwr : Hid (wrS F Vs L (j + 1) = true) := by show _ = _; rw [HwrS.out]; rfl
                  go_wp2
                  go_quiet (fail)
                  go_wp2
                  go_roundw
                  case rel => exact ⟨j + 1, tn3, tc3, ta3, by omega, by go_num, rfl, by first | (rw [Hwr.out]; done) | (rw [Hwr.out]; exact congrArg Value.bool (decide_eq_false (by omega))) | (rw [Hwr.out]; exact congrArg Value.bool (decide_eq_true (by omega))), rfl, hJ4.keep (grown_drewN _ _ _), ht3⟩
                  case measure => simp [intOf]; omega
        · have hjni : ¬ (j : Int) < (n : Int) := by omega
          have ejn : n = j := by omega
          subst ejn
          go_wp2
          go_meet
          exact ⟨tn2, tc2, ta2, rfl, rfl, rfl, hJ, htn2⟩
    case rest =>
      obtain ⟨tn2, tc2, ta2, hc1, hc2, hc3, hJ, ht2⟩ := hcut
      subst hc1
      subst hc2
      subst hc3
      apply_assumption
      have hTl : (tsS (k : Int) F Vs L Ts n).length = tn2 := by have := hJ.t.len; rw [zys_length] at this; exact this
      refine latch_tail44 lb lo ln lc ng gv gn k tn2 tc2 nn nc si mo wi (gl + 1) ta2 na (qnx q he) _ Y _ he le lvv _ A A' D D' Nm _ wc Q hk hln b1 b2 b3 hqn0 hqn1 (by omega) (Nat.lt_of_lt_of_le hlb hJ.f.size) (BGs.fz hJ.f hgg) (BVs.fz hJ.f hngv) (BXs.fz hJ.f hngn) hgn ?_ ?_ (hN.fz hJ.f hnN) hJ.t ?_ HLV HY Hst Hlv Hma HNf ?_
      · exact (World.cell?_of_block (w := wS) (hJ.f.block lb hlb hnl)).trans k1
      · exact (World.cell?_of_block (w := wS) (hJ.f.block lb hlb hnl)).trans k2
      · intro m hm
        have hm' : m < (tsS (k : Int) F Vs L Ts n).length := by omega
        rw [nthI_get _ _ hm']
        rcases tsS_mem _ _ _ _ _ _ n (List.getElem_mem hm') with h | h
        · exact hTs _ h
        · rw [h]; omega
      · intro z10 z18 z25 z30 z31 z32 z33 z222 z223 z224 z225 z226 z227 z228 z229 z230 z231 z232 z233 z234 z235 z236 z237 z238 z239 z240 z241 z242 z243 z244 z245 z246 z247 z248 z249 z250 z251 z252 z253 z254 z255 z256 z257 z258 z259 z260 z261 z262 z263 z264 z265 z266 z267 z268 z269 z270 z271 z272 z273 z274 z275 z276 z277 z278 z279 z280 z281 z282 z283 z284 z285 z286 z287 z288 z289 z290 z291 z292 z293 z294 z295 z296 z297 z298 z299 z300 z301 z302 z303 z304 z305 z306 z307 z308 z309 z310 z311 z312 z313 z314 z315 z316 z317 z318 z319 z320 z321 z322 z323 z324 z325 z326 z327 z328 z329 z330 z331 w' h18 hb hg
        exact hQ z10 _ z18 z25 _ _ _ _ z30 z31 z32 z33 _ _ _ _ _ _ _ _ _ _ _ _ _ _ _ _ _ _ _ _ _ _ _ _ _ _ _ _ _ _ _ _ _ _ _ _ _ _ _ _ _ _ _ _ _ _ _ _ _ _ _ _ _ _ _ _ _ _ _ _ _ _ _ _ _ _ _ _ z222 z223 z224 z225 z226 z227 z228 z229 z230 z231 z232 z233 z234 z235 z236 z237 z238 z239 z240 z241 z242 z243 z244 z245 z246 z247 z248 z249 z250 z251 z252 z253 z254 z255 z256 z257 z258 z259 z260 z261 z262 z263 z264 z265 z266 z267 z268 z269 z270 z271 z272 z273 z274 z275 z276 z277 z278 z279 z280 z281 z282 z283 z284 z285 z286 z287 z288 z289 z290 z291 z292 z293 z294 z295 z296 z297 z298 z299 z300 z301 z302 z303 z304 z305 z306 z307 z308 z309 z310 z311 z312 z313 z314 z315 z316 z317 z318 z319 z320 z321 z322 z323 z324 z325 z326 z327 z328 z329 z330 z331 wc w' tn2 tc2 ta2 rfl h18 hJ ht2 hb hg

set_option maxHeartbeats 32000000 in
theorem latch_tail24 {u0 u1 u2 u3 u5 u6 u7 u8 u9 u10 u12 u14 u21 u22 u23 u24 u25 u26 u27 u28 u29 u30 u31 u32 u33 u34 u35 u36 u37 u38 u39 u40 u41 u42 u43 u44 u45 u46 u47 u48 u49 u50 u51 u52 u53 u54 u55 u56 u57 u58 u59 u60 u61 u62 u63 u64 u65 u66 u67 u68 u69 u70 u71 u72 u73 u74 u75 u76 u77 u78 u79 u80 u81 u82 u83 u84 u85 u86 u87 u88 u89 u90 u91 u92 u93 u94 u95 u96 u97 u98 u99 u100 u101 u102 u103 u104 u105 u106 u107 u108 u109 u110 u111 u112 u113 u114 u115 u116 u117 u118 u119 u120 u121 u122 u123 u124 u125 u126 u127 u128 u129 u130 u131 u132 u133 u134 u135 u136 u137 u138 u139 u140 u141 u142 u143 u144 u145 u146 u147 u148 u149 u150 u151 u152 u153 u154 u155 u156 u157 u158 u159 u160 u161 u162 u163 u164 u165 u166 u167 u168 u169 u170 u171 u172 u173 u174 u175 u176 u177 u178 u179 u180 u181 u182 u183 u184 u185 u186 u187 u188 u189 u190 u191 u192 u193 u194 u195 u196 u197 u198 u199 u200 u201 u202 u203 u204 u205 u206 u207 u208 u209 u210 u211 u212 u213 u214 u215 u216 u217 u218 u219 u220 u221 u222 u223 u224 u225 u226 u227 u228 u229 u230 u231 u232 u233 u234 u235 u236 u237 u238 u239 u240 u241 u242 u243 u244 u245 u246 u247 u248 u249 u250 u251 u252 u253 u254 u255 u256 u257 u258 u259 u260 u261 u262 u263 u264 u265 u266 u267 u268 u269 u270 u271 u272 u273 u274 u275 u276 u277 u278 u279 u280 u281 u282 u283 u284 u285 u286 u287 u288 u289 u290 u291 u292 u293 u294 u295 u296 u297 u298 u299 u300 u301 u302 u303 u304 u305 u306 u307 u308 u309 u310 u311 u312 u313 u314 u315 u316 u317 u318 u319 u320 u321 u322 u323 u324 u325 u326 u327 u328 u329 u330 u331 : Value} (lb lo ln lc ng gv gl gm cx k n tn tc si mo wi : Nat) (ta : Option Addr) (q : Int) (he le : Bool) (A : Va) (D : Vi) (F : Nat → Mo) (Vs L Ts : List Int) (wK wT wV : World) (Q : Exit → Act → World → Prop) (hP : ∀ x (a a' : Act) (w : World), a.defers = a'.defers → Q (.panic x) a w → Q (.panic x) a' w)
    (hk : k < ln) (hln : ln ≤ 300) (hlm : lc ≤ 9223372036854775807) (hll : ln ≤ lc) (b1 : si < 20) (b2 : mo < 6) (b3 : wi < 30) (hn9 : n ≤ 9) (hqk : q ≤ (k : Int)) (htn : tn ≤ 9 * k) (hlb : lb < wK.heap.size) (hgm : gm < wK.heap.size)
    (B2 : BxS wK ng 24 #[.slice (some ⟨gm, 0, none⟩) n cx, .int .i64 (si : Int), .int .i64 (1 + (mo : Int)), .int .i64 (1 + (wi : Int)), .string ⟨#[115, 97, 102, 101]⟩]) (M2 : RdM wK (some ⟨gm, 0, none⟩) n cx F) (hF : ∀ j, j < n → MoR (F j)) (hE : (gfP F n (si : Int) (1 + (mo : Int)) (1 + (wi : Int)) safB).1 = 0)
    (k1K : wK.cell? ⟨lb, lo + k * 3 + 1, none⟩ = some (.bool he)) (k2K : wK.cell? ⟨lb, lo + k * 3 + 2, none⟩ = some (.bool le))
    (hLT : LT wK wT gv gl A D n L ta tn tc Ts) (gy : wT.grownBy wV none) (AY : AnsX 3 wV wT.heap.size (some ⟨wT.heap.size, 0, none⟩) 3 3 (zys Vs))
    (hLI : LI F n (si : Int) (1 + (wi : Int)) D L Ts q ((k : Int) - 1)) (hLk : ∀ j, j < n → nthI L j ≤ (k : Int)) (hTs : ∀ t, t ∈ Ts → 0 ≤ t)
    (hQ : ∀ (z10 z17 z18 z22 z23 z24 z25 z26 z27 z28 z29 z30 z31 z32 z33 z136 z137 z138 z139 z140 z141 z142 z143 z144 z145 z146 z147 z148 z149 z150 z151 z152 z153 z154 z155 z156 z157 z158 z159 z160 z161 z162 z163 z164 z165 z166 z167 z168 z169 z170 z171 z172 z173 z174 z175 z176 z177 z178 z179 z180 z181 z182 z183 z184 z185 z186 z187 z188 z189 z190 z191 z192 z193 z194 z195 z196 z197 z198 z199 z200 z201 z202 z203 z204 z205 z206 z207 z208 z209 z210 z211 z212 z213 z214 z215 z216 z217 z218 z219 z220 z221 z222 z223 z224 z225 z226 z227 z228 z229 z230 z231 z232 z233 z234 z235 z236 z237 z238 z239 z240 z241 z242 z243 z244 z245 z246 z247 z248 z249 z250 z251 z252 z253 z254 z255 z256 z257 z258 z259 z260 z261 z262 z263 z264 z265 z266 z267 z268 z269 z270 z271 z272 z273 z274 z275 z276 z277 z278 z279 z280 z281 z282 z283 z284 z285 z286 z287 z288 z289 z290 z291 z292 z293 z294 z295 z296 z297 z298 z299 z300 z301 z302 z303 z304 z305 z306 z307 z308 z309 z310 z311 z312 z313 z314 z315 z316 z317 z318 z319 z320 z321 z322 z323 z324 z325 z326 z327 z328 z329 z330 z331 : Value) (w' : World) (tn4 tc4 : Nat) (ta4 : Option Addr) (q4 : Int) (A4 : Va) (D4 : Vi) (L4 Ts4 : List Int), z17 = .int .i64 q4 → z18 = .slice ta4 tn4 tc4 → LT wK w' gv gl A4 D4 n L4 ta4 tn4 tc4 Ts4 → LI F n (si : Int) (1 + (wi : Int)) D4 L4 Ts4 q4 (k : Int) → q4 ≤ (k : Int) + 1 → tn4 ≤ 9 * (k + 1) → (∀ j, j < n → nthI L4 j ≤ (k : Int) + 1) → (∀ t, t ∈ Ts4 → 0 ≤ t) → Q .normal (Act.mk (List.toArray (u0 :: u1 :: u2 :: u3 :: (.slice (some ⟨lb, lo, none⟩) ln lc) :: u5 :: u6 :: u7 :: u8 :: u9 :: z10 :: (.pointer (some ⟨ng, 0, none⟩)) :: u12 :: (.pointer (some ⟨gv, 0, none⟩)) :: u14 :: (.int .i64 (n : Int)) :: (.slice (some ⟨gl, 0, none⟩) n n) :: z17 :: z18 :: (.int .i64 (k : Int)) :: (.slice (some ⟨wT.heap.size, 0, none⟩) 3 3) :: u21 :: z22 :: z23 :: z24 :: z25 :: z26 :: z27 :: z28 :: z29 :: z30 :: z31 :: z32 :: z33 :: u34 :: u35 :: u36 :: u37 :: u38 :: u39 :: u40 :: u41 :: u42 :: u43 :: u44 :: u45 :: u46 :: u47 :: u48 :: u49 :: u50 :: u51 :: u52 :: u53 :: u54 :: u55 :: u56 :: u57 :: u58 :: u59 :: u60 :: u61 :: u62 :: u63 :: u64 :: u65 :: u66 :: u67 :: u68 :: u69 :: u70 :: u71 :: u72 :: u73 :: u74 :: u75 :: u76 :: u77 :: u78 :: u79 :: u80 :: u81 :: u82 :: u83 :: u84 :: u85 :: u86 :: u87 :: u88 :: u89 :: u90 :: u91 :: u92 :: u93 :: u94 :: u95 :: u96 :: u97 :: u98 :: u99 :: u100 :: u101 :: u102 :: u103 :: u104 :: u105 :: u106 :: u107 :: u108 :: u109 :: u110 :: u111 :: u112 :: u113 :: u114 :: u115 :: u116 :: u117 :: u118 :: u119 :: u120 :: u121 :: u122 :: u123 :: u124 :: u125 :: u126 :: u127 :: u128 :: u129 :: u130 :: u131 :: u132 :: u133 :: u134 :: u135 :: z136 :: z137 :: z138 :: z139 :: z140 :: z141 :: z142 :: z143 :: z144 :: z145 :: z146 :: z147 :: z148 :: z149 :: z150 :: z151 :: z152 :: z153 :: z154 :: z155 :: z156 :: z157 :: z158 :: z159 :: z160 :: z161 :: z162 :: z163 :: z164 :: z165 :: z166 :: z167 :: z168 :: z169 :: z170 :: z171 :: z172 :: z173 :: z174 :: z175 :: z176 :: z177 :: z178 :: z179 :: z180 :: z181 :: z182 :: z183 :: z184 :: z185 :: z186 :: z187 :: z188 :: z189 :: z190 :: z191 :: z192 :: z193 :: z194 :: z195 :: z196 :: z197 :: z198 :: z199 :: z200 :: z201 :: z202 :: z203 :: z204 :: z205 :: z206 :: z207 :: z208 :: z209 :: z210 :: z211 :: z212 :: z213 :: z214 :: z215 :: z216 :: z217 :: z218 :: z219 :: z220 :: z221 :: z222 :: z223 :: z224 :: z225 :: z226 :: z227 :: z228 :: z229 :: z230 :: z231 :: z232 :: z233 :: z234 :: z235 :: z236 :: z237 :: z238 :: z239 :: z240 :: z241 :: z242 :: z243 :: z244 :: z245 :: z246 :: z247 :: z248 :: z249 :: z250 :: z251 :: z252 :: z253 :: z254 :: z255 :: z256 :: z257 :: z258 :: z259 :: z260 :: z261 :: z262 :: z263 :: z264 :: z265 :: z266 :: z267 :: z268 :: z269 :: z270 :: z271 :: z272 :: z273 :: z274 :: z275 :: z276 :: z277 :: z278 :: z279 :: z280 :: z281 :: z282 :: z283 :: z284 :: z285 :: z286 :: z287 :: z288 :: z289 :: z290 :: z291 :: z292 :: z293 :: z294 :: z295 :: z296 :: z297 :: z298 :: z299 :: z300 :: z301 :: z302 :: z303 :: z304 :: z305 :: z306 :: z307 :: z308 :: z309 :: z310 :: z311 :: z312 :: z313 :: z314 :: z315 :: z316 :: z317 :: z318 :: z319 :: z320 :: z321 :: z322 :: z323 :: z324 :: z325 :: z326 :: z327 :: z328 :: z329 :: z330 :: z331 :: [])) []) w') :
    Code.wp Try.prog (tailR 24 (Try.f5.body.getD .skip)) Q (Act.mk (List.toArray (u0 :: u1 :: u2 :: u3 :: (.slice (some ⟨lb, lo, none⟩) ln lc) :: u5 :: u6 :: u7 :: u8 :: u9 :: u10 :: (.pointer (some ⟨ng, 0, none⟩)) :: u12 :: (.pointer (some ⟨gv, 0, none⟩)) :: u14 :: (.int .i64 (n : Int)) :: (.slice (some ⟨gl, 0, none⟩) n n) :: (.int .i64 q) :: (.slice ta tn tc) :: (.int .i64 (k : Int)) :: (.slice (some ⟨wT.heap.size, 0, none⟩) 3 3) :: u21 :: u22 :: u23 :: u24 :: u25 :: u26 :: u27 :: u28 :: u29 :: u30 :: u31 :: u32 :: u33 :: u34 :: u35 :: u36 :: u37 :: u38 :: u39 :: u40 :: u41 :: u42 :: u43 :: u44 :: u45 :: u46 :: u47 :: u48 :: u49 :: u50 :: u51 :: u52 :: u53 :: u54 :: u55 :: u56 :: u57 :: u58 :: u59 :: u60 :: u61 :: u62 :: u63 :: u64 :: u65 :: u66 :: u67 :: u68 :: u69 :: u70 :: u71 :: u72 :: u73 :: u74 :: u75 :: u76 :: u77 :: u78 :: u79 :: u80 :: u81 :: u82 :: u83 :: u84 :: u85 :: u86 :: u87 :: u88 :: u89 :: u90 :: u91 :: u92 :: u93 :: u94 :: u95 :: u96 :: u97 :: u98 :: u99 :: u100 :: u101 :: u102 :: u103 :: u104 :: u105 :: u106 :: u107 :: u108 :: u109 :: u110 :: u111 :: u112 :: u113 :: u114 :: u115 :: u116 :: u117 :: u118 :: u119 :: u120 :: u121 :: u122 :: u123 :: u124 :: u125 :: u126 :: u127 :: u128 :: u129 :: u130 :: u131 :: u132 :: u133 :: u134 :: u135 :: u136 :: u137 :: u138 :: u139 :: u140 :: u141 :: u142 :: u143 :: u144 :: u145 :: u146 :: u147 :: u148 :: u149 :: u150 :: u151 :: u152 :: u153 :: u154 :: u155 :: u156 :: u157 :: u158 :: u159 :: u160 :: u161 :: u162 :: u163 :: u164 :: u165 :: u166 :: u167 :: u168 :: u169 :: u170 :: u171 :: u172 :: u173 :: u174 :: u175 :: u176 :: u177 :: u178 :: u179 :: u180 :: u181 :: u182 :: u183 :: u184 :: u185 :: u186 :: u187 :: u188 :: u189 :: u190 :: u191 :: u192 :: u193 :: u194 :: u195 :: u196 :: u197 :: u198 :: u199 :: u200 :: u201 :: u202 :: u203 :: u204 :: u205 :: u206 :: u207 :: u208 :: u209 :: u210 :: u211 :: u212 :: u213 :: u214 :: u215 :: u216 :: u217 :: u218 :: u219 :: u220 :: u221 :: u222 :: u223 :: u224 :: u225 :: u226 :: u227 :: u228 :: u229 :: u230 :: u231 :: u232 :: u233 :: u234 :: u235 :: u236 :: u237 :: u238 :: u239 :: u240 :: u241 :: u242 :: u243 :: u244 :: u245 :: u246 :: u247 :: u248 :: u249 :: u250 :: u251 :: u252 :: u253 :: u254 :: u255 :: u256 :: u257 :: u258 :: u259 :: u260 :: u261 :: u262 :: u263 :: u264 :: u265 :: u266 :: u267 :: u268 :: u269 :: u270 :: u271 :: u272 :: u273 :: u274 :: u275 :: u276 :: u277 :: u278 :: u279 :: u280 :: u281 :: u282 :: u283 :: u284 :: u285 :: u286 :: u287 :: u288 :: u289 :: u290 :: u291 :: u292 :: u293 :: u294 :: u295 :: u296 :: u297 :: u298 :: u299 :: u300 :: u301 :: u302 :: u303 :: u304 :: u305 :: u306 :: u307 :: u308 :: u309 :: u310 :: u311 :: u312 :: u313 :: u314 :: u315 :: u316 :: u317 :: u318 :: u319 :: u320 :: u321 :: u322 :: u323 :: u324 :: u325 :: u326 :: u327 :: u328 :: u329 :: u330 :: u331 :: [])) []) wV := by
  let pq : Exit → Act → World → Prop := bodyPost Try.prog Try.f5 (fun _ _ => True)
  conv => enter [2]; whnf
  have hGt := grown_trans hLT.gr gy
  have BG := B2.keep hGt (by simp)
  have BV := hLT.v.keep gy (by simp)
  have MV := M2.keep hGt
  have DV := hLT.d.keep gy
  unfold vgA at BV
  have hmay : stE F (⟨some ⟨gm, 0, none⟩, n, cx, (si : Int), 1 + (mo : Int), 1 + (wi : Int), safB⟩ : Gd) D 3 = 0 := by
    unfold stE
    rw [if_pos hE, show vmB F n D (si : Int) (1 + (wi : Int)) = true from hLI.may hF (by omega), show amN F 3 n = true from amN_ok hF n (Nat.le_refl _)]
    rfl
  have hStep : LS F (⟨some ⟨gm, 0, none⟩, n, cx, (si : Int), 1 + (mo : Int), 1 + (wi : Int), safB⟩ : Gd) Vs L Ts D q ((k : Int) - 1) he le := LI.step (G := (⟨some ⟨gm, 0, none⟩, n, cx, (si : Int), 1 + (mo : Int), 1 + (wi : Int), safB⟩ : Gd)) hLI hF (by show (0 : Int) ≤ (si : Int); omega) (by show (1 : Int) ≤ 1 + (wi : Int); omega) (by show 1 + (mo : Int) ≤ 100; omega) Vs he le
  obtain ⟨D', hD'⟩ : ∃ D', tiV F (⟨some ⟨gm, 0, none⟩, n, cx, (si : Int), 1 + (mo : Int), 1 + (wi : Int), safB⟩ : Gd) Vs D he le = D' := ⟨_, rfl⟩
  obtain ⟨Nm, hNm⟩ : ∃ Nm, naL F safB D'.sf (tiP F (⟨some ⟨gm, 0, none⟩, n, cx, (si : Int), 1 + (mo : Int), 1 + (wi : Int), safB⟩ : Gd) Vs D he).2 (!D.sf) = Nm := ⟨_, rfl⟩
  have kS : ∀ wz : World, RdM wz (some ⟨gm, 0, none⟩) n cx F → RdVg wz A D → RdX wz (some ⟨wT.heap.size, 0, none⟩) 3 3 (zys Vs) → Calls Try.prog 17 #[.agg #[.slice (some ⟨gm, 0, none⟩) n cx, .int .i64 (si : Int), .int .i64 (1 + (mo : Int)), .int .i64 (1 + (wi : Int)), .string ⟨#[115, 97, 102, 101]⟩], .agg #[.bool D.sf, .int .i64 D.wy, .slice A.ab A.nb A.cb, .slice A.ap A.np A.cp, .int .i64 D.qu, .slice A.at' A.nt A.ct], .slice (some ⟨wT.heap.size, 0, none⟩) 3 3, .bool he, .bool le] wz fun e w' => ∃ (A' : Va) (na : Option Addr) (nn nc : Nat), e = .returned (.tuple #[.agg #[.bool D'.sf, .int .i64 D'.wy, .slice A'.ab A'.nb A'.cb, .slice A'.ap A'.np A'.cp, .int .i64 D'.qu, .slice A'.at' A'.nt A'.ct], .slice na nn nc, .int .i64 0]) ∧ OwVg w' wz.heap.size A' D' ∧ AnsX 9 w' wz.heap.size na nn nc (sts Nm) ∧ wz.grownBy w' none := fun wz q1 q2 q3 => by
    have := step_any (⟨some ⟨gm, 0, none⟩, n, cx, (si : Int), 1 + (mo : Int), 1 + (wi : Int), safB⟩ : Gd) A D F (some ⟨wT.heap.size, 0, none⟩) 3 3 Vs he le wz q1 q2 q3
    rw [hmay] at this
    rw [← hNm, ← hD']
    exact this
  have YV := AY.rd
  have hcell : ∀ wz : World, wV.grownBy wz none → wz.cell? ⟨ng, 0, none⟩ = some (.slice (some ⟨gm, 0, none⟩) n cx) ∧ wz.cell? ⟨ng, 1, none⟩ = some (.int .i64 (si : Int)) ∧ wz.cell? ⟨ng, 2, none⟩ = some (.int .i64 (1 + (mo : Int))) ∧ wz.cell? ⟨ng, 3, none⟩ = some (.int .i64 (1 + (wi : Int))) ∧ wz.cell? ⟨ng, 4, none⟩ = some (.string ⟨#[115, 97, 102, 101]⟩) ∧ wz.cell? ⟨gv, 0, none⟩ = some (.bool D.sf) ∧ wz.cell? ⟨gv, 1, none⟩ = some (.int .i64 D.wy) ∧ wz.cell? ⟨gv, 2, none⟩ = some (.slice A.ab A.nb A.cb) ∧ wz.cell? ⟨gv, 3, none⟩ = some (.slice A.ap A.np A.cp) ∧ wz.cell? ⟨gv, 4, none⟩ = some (.int .i64 D.qu) ∧ wz.cell? ⟨gv, 5, none⟩ = some (.slice A.at' A.nt A.ct) ∧ wz.cell? ⟨lb, lo + k * 3 + 1, none⟩ = some (.bool he) ∧ wz.cell? ⟨lb, lo + k * 3 + 2, none⟩ = some (.bool le) := fun wz hz => by
    have BGz := BG.keep hz (by simp)
    have BVz := BV.keep hz (by simp)
    obtain ⟨a0, a1, a2, a3, a4⟩ := BGz.cell5
    obtain ⟨e0, e1, e2, e3, e4, e5⟩ := BVz.cell6
    have f1 := (World.cell?_of_block (w := wK) ((grown_trans hGt hz).block lb hlb (by simp))).trans k1K
    have f2 := (World.cell?_of_block (w := wK) ((grown_trans hGt hz).block lb hlb (by simp))).trans k2K
    exact ⟨a0, a1, a2, a3, a4, e0, e1, e2, e3, e4, e5, f1, f2⟩
  have HD' : Hid _ := hD'
  have HNm : Hid _ := hNm
  clear hD' hNm hmay
  have hkj : (k : Int) < (ln : Int) := by omega
  go_upto_region 24 with fail
  go_cut [22, 23, 24] from 136 to 153 (fun s22 s23 s24 wx => ∃ (gn : Nat) (A' : Va) (na : Option Addr) (nn nc : Nat), s22 = .pointer (some ⟨gn, 0, none⟩) ∧ s23 = .slice na nn nc ∧ s24 = .int .i64 0 ∧ StB wV wx D' Nm gn A' na nn nc)
  case first =>
    refine wp_regionL (fun wz => wz.cell? ⟨ng, 0, none⟩ = some (.slice (some ⟨gm, 0, none⟩) n cx) ∧ wz.cell? ⟨ng, 1, none⟩ = some (.int .i64 (si : Int)) ∧ wz.cell? ⟨ng, 2, none⟩ = some (.int .i64 (1 + (mo : Int))) ∧ wz.cell? ⟨ng, 3, none⟩ = some (.int .i64 (1 + (wi : Int))) ∧ wz.cell? ⟨ng, 4, none⟩ = some (.string ⟨#[115, 97, 102, 101]⟩) ∧ wz.cell? ⟨gv, 0, none⟩ = some (.bool D.sf) ∧ wz.cell? ⟨gv, 1, none⟩ = some (.int .i64 D.wy) ∧ wz.cell? ⟨gv, 2, none⟩ = some (.slice A.ab A.nb A.cb) ∧ wz.cell? ⟨gv, 3, none⟩ = some (.slice A.ap A.np A.cp) ∧ wz.cell? ⟨gv, 4, none⟩ = some (.int .i64 D.qu) ∧ wz.cell? ⟨gv, 5, none⟩ = some (.slice A.at' A.nt A.ct) ∧ wz.cell? ⟨lb, lo + k * 3 + 1, none⟩ = some (.bool he) ∧ wz.cell? ⟨lb, lo + k * 3 + 2, none⟩ = some (.bool le)) [21] #[false, false, false, false, false, false, false, false, false, false, false, false, false, false, false, false, false, false, false, false, false, false] rfl (by kernel_rfl) ?_
    refine wpAnyZ_take [21] 0 (.agg #[.slice (some ⟨gm, 0, none⟩) n cx, .int .i64 (si : Int), .int .i64 (1 + (mo : Int)), .int .i64 (1 + (wi : Int)), .string ⟨#[115, 97, 102, 101]⟩]) rfl (by kernel_rfl) (fun _ _ _ h => hP _ _ _ _ (by rfl) h) (hcell _ (grown_drew wV none)) rfl (by rintro wz ⟨y0, y1, y2, y3, y4, z0, z1, z2, z3, z4, z5, l1, l2⟩; go_simp) ?_
    try simp only [List.getElem_toArray, List.getElem_cons_succ, List.getElem_cons_zero, Act.put, List.setIfInBounds_toArray, List.set_cons_zero, List.set_cons_succ]
    refine wpAnyZ_take [21] 1 (.agg #[.bool D.sf, .int .i64 D.wy, .slice A.ab A.nb A.cb, .slice A.ap A.np A.cp, .int .i64 D.qu, .slice A.at' A.nt A.ct]) rfl (by kernel_rfl) (fun _ _ _ h => hP _ _ _ _ (by rfl) h) (hcell _ (grown_drew wV none)) rfl (by rintro wz ⟨y0, y1, y2, y3, y4, z0, z1, z2, z3, z4, z5, l1, l2⟩; go_simp) ?_
    try simp only [List.getElem_toArray, List.getElem_cons_succ, List.getElem_cons_zero, Act.put, List.setIfInBounds_toArray, List.set_cons_zero, List.set_cons_succ]
    refine wpAnyZ_take [21] 2 (.slice (some ⟨wT.heap.size, 0, none⟩) 3 3) rfl (by kernel_rfl) (fun _ _ _ h => hP _ _ _ _ (by rfl) h) (hcell _ (grown_drew wV none)) rfl (by rintro wz ⟨y0, y1, y2, y3, y4, z0, z1, z2, z3, z4, z5, l1, l2⟩; go_simp) ?_
    try simp only [List.getElem_toArray, List.getElem_cons_succ, List.getElem_cons_zero, Act.put, List.setIfInBounds_toArray, List.set_cons_zero, List.set_cons_succ]
    refine wpAnyZ_take [21] 3 (.slice (some ⟨lb, lo, none⟩) ln lc) rfl (by kernel_rfl) (fun _ _ _ h => hP _ _ _ _ (by rfl) h) (hcell _ (grown_drew wV none)) rfl (by rintro wz ⟨y0, y1, y2, y3, y4, z0, z1, z2, z3, z4, z5, l1, l2⟩; go_simp) ?_
    try simp only [List.getElem_toArray, List.getElem_cons_succ, List.getElem_cons_zero, Act.put, List.setIfInBounds_toArray, List.set_cons_zero, List.set_cons_succ]
    refine wpAnyZ_take [21] 4 (.int .i64 (k : Int)) rfl (by kernel_rfl) (fun _ _ _ h => hP _ _ _ _ (by rfl) h) (hcell _ (grown_drew wV none)) rfl (by rintro wz ⟨y0, y1, y2, y3, y4, z0, z1, z2, z3, z4, z5, l1, l2⟩; go_simp) ?_
    try simp only [List.getElem_toArray, List.getElem_cons_succ, List.getElem_cons_zero, Act.put, List.setIfInBounds_toArray, List.set_cons_zero, List.set_cons_succ]
    refine wpAnyZ_take [21] 5 (.pointer (some ⟨lb, lo + k * 3, none⟩)) rfl (by kernel_rfl) (fun _ _ _ h => hP _ _ _ _ (by rfl) h) (hcell _ (grown_drew wV none)) rfl (by rintro wz ⟨y0, y1, y2, y3, y4, z0, z1, z2, z3, z4, z5, l1, l2⟩; go_simp) ?_
    try simp only [List.getElem_toArray, List.getElem_cons_succ, List.getElem_cons_zero, Act.put, List.setIfInBounds_toArray, List.set_cons_zero, List.set_cons_succ]
    refine wpAnyZ_take [21] 6 (.pointer (some ⟨lb, lo + k * 3 + 1, none⟩)) rfl (by kernel_rfl) (fun _ _ _ h => hP _ _ _ _ (by rfl) h) (hcell _ (grown_drew wV none)) rfl (by rintro wz ⟨y0, y1, y2, y3, y4, z0, z1, z2, z3, z4, z5, l1, l2⟩; go_simp) ?_
    try simp only [List.getElem_toArray, List.getElem_cons_succ, List.getElem_cons_zero, Act.put, List.setIfInBounds_toArray, List.set_cons_zero, List.set_cons_succ]
    refine wpAnyZ_take [21] 7 (.bool he) rfl (by kernel_rfl) (fun _ _ _ h => hP _ _ _ _ (by rfl) h) (hcell _ (grown_drew wV none)) rfl (by rintro wz ⟨y0, y1, y2, y3, y4, z0, z1, z2, z3, z4, z5, l1, l2⟩; go_simp) ?_
    try simp only [List.getElem_toArray, List.getElem_cons_succ, List.getElem_cons_zero, Act.put, List.setIfInBounds_toArray, List.set_cons_zero, List.set_cons_succ]
    refine wpAnyZ_take [21] 8 (.slice (some ⟨lb, lo, none⟩) ln lc) rfl (by kernel_rfl) (fun _ _ _ h => hP _ _ _ _ (by rfl) h) (hcell _ (grown_drew wV none)) rfl (by rintro wz ⟨y0, y1, y2, y3, y4, z0, z1, z2, z3, z4, z5, l1, l2⟩; go_simp) ?_
    try simp only [List.getElem_toArray, List.getElem_cons_succ, List.getElem_cons_zero, Act.put, List.setIfInBounds_toArray, List.set_cons_zero, List.set_cons_succ]
    refine wpAnyZ_take [21] 9 (.int .i64 (k : Int)) rfl (by kernel_rfl) (fun _ _ _ h => hP _ _ _ _ (by rfl) h) (hcell _ (grown_drew wV none)) rfl (by rintro wz ⟨y0, y1, y2, y3, y4, z0, z1, z2, z3, z4, z5, l1, l2⟩; go_simp) ?_
    try simp only [List.getElem_toArray, List.getElem_cons_succ, List.getElem_cons_zero, Act.put, List.setIfInBounds_toArray, List.set_cons_zero, List.set_cons_succ]
    refine wpAnyZ_take [21] 10 (.pointer (some ⟨lb, lo + k * 3, none⟩)) rfl (by kernel_rfl) (fun _ _ _ h => hP _ _ _ _ (by rfl) h) (hcell _ (grown_drew wV none)) rfl (by rintro wz ⟨y0, y1, y2, y3, y4, z0, z1, z2, z3, z4, z5, l1, l2⟩; go_simp) ?_
    try simp only [List.getElem_toArray, List.getElem_cons_succ, List.getElem_cons_zero, Act.put, List.setIfInBounds_toArray, List.set_cons_zero, List.set_cons_succ]
    refine wpAnyZ_take [21] 11 (.pointer (some ⟨lb, lo + k * 3 + 2, none⟩)) rfl (by kernel_rfl) (fun _ _ _ h => hP _ _ _ _ (by rfl) h) (hcell _ (grown_drew wV none)) rfl (by rintro wz ⟨y0, y1, y2, y3, y4, z0, z1, z2, z3, z4, z5, l1, l2⟩; go_simp) ?_
    try simp only [List.getElem_toArray, List.getElem_cons_succ, List.getElem_cons_zero, Act.put, List.setIfInBounds_toArray, List.set_cons_zero, List.set_cons_succ]
    refine wpAnyZ_take [21] 12 (.bool le) rfl (by kernel_rfl) (fun _ _ _ h => hP _ _ _ _ (by rfl) h) (hcell _ (grown_drew wV none)) rfl (by rintro wz ⟨y0, y1, y2, y3, y4, z0, z1, z2, z3, z4, z5, l1, l2⟩; go_simp) ?_
    try simp only [List.getElem_toArray, List.getElem_cons_succ, List.getElem_cons_zero, Act.put, List.setIfInBounds_toArray, List.set_cons_zero, List.set_cons_succ]
    refine wpAnyZ_twoB 13 18 rfl rfl (by kernel_rfl) (fun Kq hKq => ?_) (fun Kq hKq => ?_)
    · skip
      go_simp
      go_at_call 17
      with_reducible refine (kS _ (MV.keep (grown_drew wV none)) (DV.keep (grown_drew wV none)) (YV.keep (grown_drew wV none))).mono ?_
      rintro e w1 ⟨A', na, nn, nc, rfl, hO1, hN1, g1⟩
      dsimp only
      have G1 := grown_trans (grown_drew wV none) g1
      refine hKq _ _ (fun _ => hcell _ G1) ?_
      clear hKq Kq
      try simp only [List.getElem_toArray, List.getElem_cons_succ, List.getElem_cons_zero, Act.put, List.setIfInBounds_toArray, List.set_cons_zero, List.set_cons_succ]
      refine wpAnyZ_take [21] 14 (.tuple #[.agg #[.bool D'.sf, .int .i64 D'.wy, .slice A'.ab A'.nb A'.cb, .slice A'.ap A'.np A'.cp, .int .i64 D'.qu, .slice A'.at' A'.nt A'.ct], .slice na nn nc, .int .i64 0]) rfl (by kernel_rfl) (fun _ _ _ h => hP _ _ _ _ (by rfl) h) (hcell _ G1) rfl (by rintro wz ⟨y0, y1, y2, y3, y4, z0, z1, z2, z3, z4, z5, l1, l2⟩; go_simp) ?_
      try simp only [List.getElem_toArray, List.getElem_cons_succ, List.getElem_cons_zero, Act.put, List.setIfInBounds_toArray, List.set_cons_zero, List.set_cons_succ]
      refine wpAnyZ_take [21] 15 (.agg #[.bool D'.sf, .int .i64 D'.wy, .slice A'.ab A'.nb A'.cb, .slice A'.ap A'.np A'.cp, .int .i64 D'.qu, .slice A'.at' A'.nt A'.ct]) rfl (by kernel_rfl) (fun _ _ _ h => hP _ _ _ _ (by rfl) h) (hcell _ G1) rfl (by rintro wz ⟨y0, y1, y2, y3, y4, z0, z1, z2, z3, z4, z5, l1, l2⟩; go_simp) ?_
      try simp only [List.getElem_toArray, List.getElem_cons_succ, List.getElem_cons_zero, Act.put, List.setIfInBounds_toArray, List.set_cons_zero, List.set_cons_succ]
      refine wpAnyZ_take [21] 16 (.slice na nn nc) rfl (by kernel_rfl) (fun _ _ _ h => hP _ _ _ _ (by rfl) h) (hcell _ G1) rfl (by rintro wz ⟨y0, y1, y2, y3, y4, z0, z1, z2, z3, z4, z5, l1, l2⟩; go_simp) ?_
      try simp only [List.getElem_toArray, List.getElem_cons_succ, List.getElem_cons_zero, Act.put, List.setIfInBounds_toArray, List.set_cons_zero, List.set_cons_succ]
      refine wpAnyZ_take [21] 17 (.int .i64 0) rfl (by kernel_rfl) (fun _ _ _ h => hP _ _ _ _ (by rfl) h) (hcell _ G1) rfl (by rintro wz ⟨y0, y1, y2, y3, y4, z0, z1, z2, z3, z4, z5, l1, l2⟩; go_simp) ?_
      try simp only [List.getElem_toArray, List.getElem_cons_succ, List.getElem_cons_zero, Act.put, List.setIfInBounds_toArray, List.set_cons_zero, List.set_cons_succ]
      have bz := BxS.new w1 29 #[.bool false, .int .i64 0, .slice none 0 0, .slice none 0 0, .int .i64 0, .slice none 0 0]
      have gz := World.grownBy_alloc w1 (.cells #[.bool false, .int .i64 0, .slice none 0 0, .slice none 0 0, .int .i64 0, .slice none 0 0] 29) none
      refine wpAnyZ_oneB 18 rfl (by kernel_rfl) (fun Kq hKq => ?_)
      go_simp
      refine hKq _ _ (fun _ => hcell _ (grown_trans G1 gz)) ?_
      clear hKq Kq
      try simp only [List.getElem_toArray, List.getElem_cons_succ, List.getElem_cons_zero, Act.put, List.setIfInBounds_toArray, List.set_cons_zero, List.set_cons_succ]
      refine wpAnyZ_oneB 19 rfl (by kernel_rfl) (fun Kq hKq => ?_)
      refine step_stX _ rfl _ _ _ rfl w1.heap.size _ #[.bool D'.sf, .int .i64 D'.wy, .slice A'.ab A'.nb A'.cb, .slice A'.ap A'.np A'.cp, .int .i64 D'.qu, .slice A'.at' A'.nt A'.ct] rfl rfl bz Try.info_vg rfl (by simp [Value.oneCell']) ?_
      intro w3 bx u3
      have g3 : wV.grownBy w3 none := grown_far (grown_trans G1 gz) u3 (fun q e => by have e : w1.heap.size = q := Option.some.inj e; have := (grown_trans G1 gz).size; have := G1.size; omega)
      refine hKq _ _ (fun _ => hcell _ g3) ?_
      clear hKq Kq
      try simp only [List.getElem_toArray, List.getElem_cons_succ, List.getElem_cons_zero, Act.put, List.setIfInBounds_toArray, List.set_cons_zero, List.set_cons_succ]
      refine wpAnyZ_oneB 20 rfl (by kernel_rfl) (fun Kq hKq => ?_)
      refine step_val (.slice na nn nc) rfl (by go_simp) ?_
      refine hKq _ _ (fun _ => hcell _ g3) ?_
      clear hKq Kq
      try simp only [List.getElem_toArray, List.getElem_cons_succ, List.getElem_cons_zero, Act.put, List.setIfInBounds_toArray, List.set_cons_zero, List.set_cons_succ]
      refine wpAnyZ_oneB 21 rfl (by kernel_rfl) (fun Kq hKq => ?_)
      refine step_val (.int .i64 0) rfl (by go_simp) ?_
      refine hKq _ _ (fun _ => hcell _ g3) ?_
      clear hKq Kq
      try simp only [List.getElem_toArray, List.getElem_cons_succ, List.getElem_cons_zero, Act.put, List.setIfInBounds_toArray, List.set_cons_zero, List.set_cons_succ]
      refine wpAnyZ_doneB (by kernel_rfl) ?_ _
      go_wp2
      go_meet
      exact ⟨_, A', na, nn, nc, rfl, rfl, rfl, g3, by have := G1.size; exact this, bx, (hO1.keep gz).box bz u3, (hN1.keep gz).kept u3 (.inr ((hN1.keep gz).ne_box bz (by decide)))⟩
    · skip
      have Gz := grown_trans (World.grownBy_alloc wV (.cells #[.bool false, .int .i64 0, .slice none 0 0, .slice none 0 0, .int .i64 0, .slice none 0 0] 29) none) (grown_drew _ none)
      have bz0 := (BxS.new wV 29 #[.bool false, .int .i64 0, .slice none 0 0, .slice none 0 0, .int .i64 0, .slice none 0 0]).keep (grown_drew _ none) (by simp)
      have hsz : ((wV.alloc (.cells #[.bool false, .int .i64 0, .slice none 0 0, .slice none 0 0, .int .i64 0, .slice none 0 0] 29)).drew).heap.size = wV.heap.size + 1 := by simp
      go_simp
      refine hKq _ _ (fun _ => hcell _ Gz) ?_
      clear hKq Kq
      try simp only [List.getElem_toArray, List.getElem_cons_succ, List.getElem_cons_zero, Act.put, List.setIfInBounds_toArray, List.set_cons_zero, List.set_cons_succ]
      generalize (wV.alloc (.cells #[.bool false, .int .i64 0, .slice none 0 0, .slice none 0 0, .int .i64 0, .slice none 0 0] 29)).drew = w0z at *
      refine wpAnyZ_oneB 13 rfl (by kernel_rfl) (fun Kq hKq => ?_)
      go_simp
      go_at_call 17
      with_reducible refine (kS _ (MV.keep Gz) (DV.keep Gz) (YV.keep Gz)).mono ?_
      rintro e w1 ⟨A', na, nn, nc, rfl, hO1, hN1, g1⟩
      dsimp only
      have G1 := grown_trans Gz g1
      refine hKq _ _ (fun _ => hcell _ G1) ?_
      clear hKq Kq
      try simp only [List.getElem_toArray, List.getElem_cons_succ, List.getElem_cons_zero, Act.put, List.setIfInBounds_toArray, List.set_cons_zero, List.set_cons_succ]
      have bz := bz0.keep g1 (by simp)
      refine wpAnyZ_take [21] 14 (.tuple #[.agg #[.bool D'.sf, .int .i64 D'.wy, .slice A'.ab A'.nb A'.cb, .slice A'.ap A'.np A'.cp, .int .i64 D'.qu, .slice A'.at' A'.nt A'.ct], .slice na nn nc, .int .i64 0]) rfl (by kernel_rfl) (fun _ _ _ h => hP _ _ _ _ (by rfl) h) (hcell _ G1) rfl (by rintro wz ⟨y0, y1, y2, y3, y4, z0, z1, z2, z3, z4, z5, l1, l2⟩; go_simp) ?_
      try simp only [List.getElem_toArray, List.getElem_cons_succ, List.getElem_cons_zero, Act.put, List.setIfInBounds_toArray, List.set_cons_zero, List.set_cons_succ]
      refine wpAnyZ_take [21] 15 (.agg #[.bool D'.sf, .int .i64 D'.wy, .slice A'.ab A'.nb A'.cb, .slice A'.ap A'.np A'.cp, .int .i64 D'.qu, .slice A'.at' A'.nt A'.ct]) rfl (by kernel_rfl) (fun _ _ _ h => hP _ _ _ _ (by rfl) h) (hcell _ G1) rfl (by rintro wz ⟨y0, y1, y2, y3, y4, z0, z1, z2, z3, z4, z5, l1, l2⟩; go_simp) ?_
      try simp only [List.getElem_toArray, List.getElem_cons_succ, List.getElem_cons_zero, Act.put, List.setIfInBounds_toArray, List.set_cons_zero, List.set_cons_succ]
      refine wpAnyZ_take [21] 16 (.slice na nn nc) rfl (by kernel_rfl) (fun _ _ _ h => hP _ _ _ _ (by rfl) h) (hcell _ G1) rfl (by rintro wz ⟨y0, y1, y2, y3, y4, z0, z1, z2, z3, z4, z5, l1, l2⟩; go_simp) ?_
      try simp only [List.getElem_toArray, List.getElem_cons_succ, List.getElem_cons_zero, Act.put, List.setIfInBounds_toArray, List.set_cons_zero, List.set_cons_succ]
      refine wpAnyZ_take [21] 17 (.int .i64 0) rfl (by kernel_rfl) (fun _ _ _ h => hP _ _ _ _ (by rfl) h) (hcell _ G1) rfl (by rintro wz ⟨y0, y1, y2, y3, y4, z0, z1, z2, z3, z4, z5, l1, l2⟩; go_simp) ?_
      try simp only [List.getElem_toArray, List.getElem_cons_succ, List.getElem_cons_zero, Act.put, List.setIfInBounds_toArray, List.set_cons_zero, List.set_cons_succ]
      refine wpAnyZ_oneB 19 rfl (by kernel_rfl) (fun Kq hKq => ?_)
      refine step_stX w1 rfl _ _ _ rfl wV.heap.size _ #[.bool D'.sf, .int .i64 D'.wy, .slice A'.ab A'.nb A'.cb, .slice A'.ap A'.np A'.cp, .int .i64 D'.qu, .slice A'.at' A'.nt A'.ct] rfl rfl bz Try.info_vg rfl (by simp [Value.oneCell']) ?_
      intro w3 bx u3
      have g3 : wV.grownBy w3 none := grown_far G1 u3 (fun q e => by have e : wV.heap.size = q := Option.some.inj e; have := G1.size; have e : wV.heap.size = q := e; omega)
      refine hKq _ _ (fun _ => hcell _ g3) ?_
      clear hKq Kq
      try simp only [List.getElem_toArray, List.getElem_cons_succ, List.getElem_cons_zero, Act.put, List.setIfInBounds_toArray, List.set_cons_zero, List.set_cons_succ]
      refine wpAnyZ_oneB 20 rfl (by kernel_rfl) (fun Kq hKq => ?_)
      refine step_val (.slice na nn nc) rfl (by go_simp) ?_
      refine hKq _ _ (fun _ => hcell _ g3) ?_
      clear hKq Kq
      try simp only [List.getElem_toArray, List.getElem_cons_succ, List.getElem_cons_zero, Act.put, List.setIfInBounds_toArray, List.set_cons_zero, List.set_cons_succ]
      refine wpAnyZ_oneB 21 rfl (by kernel_rfl) (fun Kq hKq => ?_)
      refine step_val (.int .i64 0) rfl (by go_simp) ?_
      refine hKq _ _ (fun _ => hcell _ g3) ?_
      clear hKq Kq
      try simp only [List.getElem_toArray, List.getElem_cons_succ, List.getElem_cons_zero, Act.put, List.setIfInBounds_toArray, List.set_cons_zero, List.set_cons_succ]
      refine wpAnyZ_doneB (by kernel_rfl) ?_ _
      go_wp2
      go_meet
      exact ⟨_, A', na, nn, nc, rfl, rfl, rfl, g3, by exact Nat.le_refl _, bx, (hO1.low (by omega)).box bz u3, (hN1.low (by omega)).kept u3 (.inr (hN1.ne_box bz (by decide)))⟩
  case rest =>
    obtain ⟨gn, A', na, nn, nc, hc1, hc2, hc3, hB⟩ := hcut
    subst hc1
    subst hc2
    subst hc3
    apply_assumption
    generalize wc = wS at *
    obtain ⟨SX, Sst, Slv, Sma, Sna⟩ := hStep
    have e1 : (k : Int) - 1 + 1 = (k : Int) := by omega
    rw [e1] at SX Sma
    try dsimp only at SX
    try dsimp only at Sst
    try dsimp only at Slv
    try dsimp only at Sma
    try dsimp only at Sna
    rw [HD'.out] at SX Sst Slv Sma
    have hNf := names_first hF D'.sf (!D.sf) _ Sna
    rw [HNm.out] at hNf
    have gS := grown_trans gy hB.gr
    have gKS := grown_trans hLT.gr gS
    have hglT : gl < wT.heap.size := hLT.l.lt gl rfl
    have hgvT : gv < wT.heap.size := hLT.v.lt
    have hTs2 := hLT.gr.size
    have htT : ∀ g, (Value.slice ta tn tc).ownBlock = some g → gl < g ∧ g < wT.heap.size := fun g e => ⟨hLT.t.new g e, hLT.t.lt g e⟩
    have hkv := hLT.kv
    have hvl := hLT.vl
    have hVT := gy.size
    have hxl := hB.xl
    have low : ∀ b, b < wK.heap.size → ¬ (b = gl ∨ (Value.slice ta tn tc).ownBlock = some b) := fun b hb => by
      rintro (e | e)
      · omega
      · have := htT _ e; omega
    have high : ∀ b, wT.heap.size ≤ b → ¬ (b = gl ∨ (Value.slice ta tn tc).ownBlock = some b) := fun b hb => by
      rintro (e | e)
      · omega
      · have := htT _ e; omega
    have hngv : ¬ (gv = gl ∨ (Value.slice ta tn tc).ownBlock = some gv) := by
      rintro (e | e)
      · omega
      · have := htT _ e; omega
    refine latch_tail25 lb lo ln lc ng gv gn gl wT.heap.size gm cx k n tn tc nn nc si mo wi ta na q (whY F Vs L Ts n (k : Int) (1 + (wi : Int)) (1 + (mo : Int)) (si : Int) (qnx q he)) he le (lvB F Vs L n D.sf he le) A A' D D' Nm F Vs L Ts wS Q hk hln b1 b2 b3 hn9 hLI.q0 hqk htn (by have := gKS.size; omega) (B2.keep gKS (by simp)) (hLT.v.keep gS (by simp)) hB.x (by omega) (M2.keep gKS) hF (YV.keep hB.gr) ((World.cell?_of_block (w := wK) (gKS.block lb hlb (by simp))).trans k1K) ((World.cell?_of_block (w := wK) (gKS.block lb hlb (by simp))).trans k2K) hB.m.rd ⟨hLT.l.keep gS, hLT.t.keep gS, Fz.refl _ _, fun g e => .inl e⟩ (low _ hgm) (low _ B2.lt) hngv (high _ (by omega)) (low _ hlb) (fun b off e => by cases e; exact high _ (Nat.le_refl _)) (fun b off e => high b (by have := hB.m.new b (by rw [e]; rfl); omega)) (fun j hj => (hLI.b j hj).1) hLk hLI.ll (fun t ht => ⟨hTs t ht, by have := hLI.t.top t ht; omega⟩) rfl rfl Sst Slv Sma hNf ?_
    intro z10 z17 z18 z25 z26 z27 z28 z29 z30 z31 z32 z33 z154 z155 z156 z157 z158 z159 z160 z161 z162 z163 z164 z165 z166 z167 z168 z169 z170 z171 z172 z173 z174 z175 z176 z177 z178 z179 z180 z181 z182 z183 z184 z185 z186 z187 z188 z189 z190 z191 z192 z193 z194 z195 z196 z197 z198 z199 z200 z201 z202 z203 z204 z205 z206 z207 z208 z209 z210 z211 z212 z213 z214 z215 z216 z217 z218 z219 z220 z221 z222 z223 z224 z225 z226 z227 z228 z229 z230 z231 z232 z233 z234 z235 z236 z237 z238 z239 z240 z241 z242 z243 z244 z245 z246 z247 z248 z249 z250 z251 z252 z253 z254 z255 z256 z257 z258 z259 z260 z261 z262 z263 z264 z265 z266 z267 z268 z269 z270 z271 z272 z273 z274 z275 z276 z277 z278 z279 z280 z281 z282 z283 z284 z285 z286 z287 z288 z289 z290 z291 z292 z293 z294 z295 z296 z297 z298 z299 z300 z301 z302 z303 z304 z305 z306 z307 z308 z309 z310 z311 z312 z313 z314 z315 z316 z317 z318 z319 z320 z321 z322 z323 z324 z325 z326 z327 z328 z329 z330 z331 wD w' tn2 tc2 ta2 h17 h18 hJ ht2 hb hg
    subst h17
    have gKD : wK.grownBy wD none := Fz.grown gKS hJ.f (fun i e => by
      rcases e with e | e
      · omega
      · have := htT _ e; omega)
    have BVd : BxS wD gv 29 (vgA D A) := (hLT.v.keep gS (by simp)).fz hJ.f hngv
    have hdD := (hB.d.fz hJ.f (fun i hi => high i (by have := hB.d.lo i hi; omega))).box BVd hg
    have hlD := hJ.l.kept hg (.inr fun e => by have e : gl = gv := Option.some.inj e; omega)
    have gK9 := grown_far gKD hg (fun q e => by have e : gv = q := Option.some.inj e; omega)
    have hqn1 : qnx q he ≤ (k : Int) + 1 := by unfold qnx; split <;> omega
    have hL9 : ∀ jj, jj < n → nthI (lgS F Vs L n) jj ≤ (k : Int) + 1 := fun jj hjj => by
      rw [lgS_at _ _ _ _ _ (by rw [hLI.ll]; exact hjj), if_pos hjj]
      exact lnK_le _ _ _ _ _ (by omega) (hLk jj hjj)
    cases hlv : lvB F Vs L n D.sf he le
    · rw [hlv] at h18 SX
      have h18 : z18 = .slice ta2 tn2 tc2 := h18
      refine hQ z10 _ z18 _ _ _ z25 z26 z27 z28 z29 z30 z31 z32 z33 _ _ _ _ _ _ _ _ _ _ _ _ _ _ _ _ _ _ z154 z155 z156 z157 z158 z159 z160 z161 z162 z163 z164 z165 z166 z167 z168 z169 z170 z171 z172 z173 z174 z175 z176 z177 z178 z179 z180 z181 z182 z183 z184 z185 z186 z187 z188 z189 z190 z191 z192 z193 z194 z195 z196 z197 z198 z199 z200 z201 z202 z203 z204 z205 z206 z207 z208 z209 z210 z211 z212 z213 z214 z215 z216 z217 z218 z219 z220 z221 z222 z223 z224 z225 z226 z227 z228 z229 z230 z231 z232 z233 z234 z235 z236 z237 z238 z239 z240 z241 z242 z243 z244 z245 z246 z247 z248 z249 z250 z251 z252 z253 z254 z255 z256 z257 z258 z259 z260 z261 z262 z263 z264 z265 z266 z267 z268 z269 z270 z271 z272 z273 z274 z275 z276 z277 z278 z279 z280 z281 z282 z283 z284 z285 z286 z287 z288 z289 z290 z291 z292 z293 z294 z295 z296 z297 z298 z299 z300 z301 z302 z303 z304 z305 z306 z307 z308 z309 z310 z311 z312 z313 z314 z315 z316 z317 z318 z319 z320 z321 z322 z323 z324 z325 z326 z327 z328 z329 z330 z331 w' tn2 tc2 ta2 (qnx q he) A' D' _ _ rfl h18 ⟨gK9, hkv, hvl, hb, hdD.rd, hlD, hJ.t.kept hg (.inr (hJ.t.ne_box BVd (by decide)))⟩ SX hqn1 (by omega) hL9 (fun t ht => ?_)
      rcases tsS_mem _ _ _ _ _ _ n ht with h | h
      · exact hTs _ h
      · rw [h]; omega
    · rw [hlv] at h18 SX
      have h18 : z18 = .slice none 0 0 := h18
      exact hQ z10 _ z18 _ _ _ z25 z26 z27 z28 z29 z30 z31 z32 z33 _ _ _ _ _ _ _ _ _ _ _ _ _ _ _ _ _ _ z154 z155 z156 z157 z158 z159 z160 z161 z162 z163 z164 z165 z166 z167 z168 z169 z170 z171 z172 z173 z174 z175 z176 z177 z178 z179 z180 z181 z182 z183 z184 z185 z186 z187 z188 z189 z190 z191 z192 z193 z194 z195 z196 z197 z198 z199 z200 z201 z202 z203 z204 z205 z206 z207 z208 z209 z210 z211 z212 z213 z214 z215 z216 z217 z218 z219 z220 z221 z222 z223 z224 z225 z226 z227 z228 z229 z230 z231 z232 z233 z234 z235 z236 z237 z238 z239 z240 z241 z242 z243 z244 z245 z246 z247 z248 z249 z250 z251 z252 z253 z254 z255 z256 z257 z258 z259 z260 z261 z262 z263 z264 z265 z266 z267 z268 z269 z270 z271 z272 z273 z274 z275 z276 z277 z278 z279 z280 z281 z282 z283 z284 z285 z286 z287 z288 z289 z290 z291 z292 z293 z294 z295 z296 z297 z298 z299 z300 z301 z302 z303 z304 z305 z306 z307 z308 z309 z310 z311 z312 z313 z314 z315 z316 z317 z318 z319 z320 z321 z322 z323 z324 z325 z326 z327 z328 z329 z330 z331 w' 0 0 none (qnx q he) A' D' _ _ rfl h18 ⟨gK9, hkv, hvl, hb, hdD.rd, hlD, AnsX.nil0 _ _ _⟩ SX hqn1 (by omega) hL9 (fun t ht => by cases ht)

set_option maxHeartbeats 32000000 in
theorem latch_tail19 {u0 u1 u2 u3 u5 u6 u7 u8 u9 u10 u12 u14 u20 u21 u22 u23 u24 u25 u26 u27 u28 u29 u30 u31 u32 u33 u34 u35 u36 u37 u38 u39 u40 u41 u42 u43 u44 u45 u46 u47 u48 u49 u50 u51 u52 u53 u54 u55 u56 u57 u58 u59 u60 u61 u62 u63 u64 u65 u66 u67 u68 u69 u70 u71 u72 u73 u74 u75 u76 u77 u78 u79 u80 u81 u82 u83 u84 u85 u86 u87 u88 u89 u90 u91 u92 u93 u94 u95 u96 u97 u98 u99 u100 u101 u102 u103 u104 u105 u106 u107 u108 u109 u110 u111 u112 u113 u114 u115 u116 u117 u118 u119 u120 u121 u122 u123 u124 u125 u126 u127 u128 u129 u130 u131 u132 u133 u134 u135 u136 u137 u138 u139 u140 u141 u142 u143 u144 u145 u146 u147 u148 u149 u150 u151 u152 u153 u154 u155 u156 u157 u158 u159 u160 u161 u162 u163 u164 u165 u166 u167 u168 u169 u170 u171 u172 u173 u174 u175 u176 u177 u178 u179 u180 u181 u182 u183 u184 u185 u186 u187 u188 u189 u190 u191 u192 u193 u194 u195 u196 u197 u198 u199 u200 u201 u202 u203 u204 u205 u206 u207 u208 u209 u210 u211 u212 u213 u214 u215 u216 u217 u218 u219 u220 u221 u222 u223 u224 u225 u226 u227 u228 u229 u230 u231 u232 u233 u234 u235 u236 u237 u238 u239 u240 u241 u242 u243 u244 u245 u246 u247 u248 u249 u250 u251 u252 u253 u254 u255 u256 u257 u258 u259 u260 u261 u262 u263 u264 u265 u266 u267 u268 u269 u270 u271 u272 u273 u274 u275 u276 u277 u278 u279 u280 u281 u282 u283 u284 u285 u286 u287 u288 u289 u290 u291 u292 u293 u294 u295 u296 u297 u298 u299 u300 u301 u302 u303 u304 u305 u306 u307 u308 u309 u310 u311 u312 u313 u314 u315 u316 u317 u318 u319 u320 u321 u322 u323 u324 u325 u326 u327 u328 u329 u330 u331 : Value} (lb lo ln lc ng gv gl gm cx k n tn tc vn vc si mo wi : Nat) (ta va : Option Addr) (q : Int) (he le : Bool) (A : Va) (D : Vi) (F : Nat → Mo) (vs L Ts : List Int) (wK wT : World) (Q : Exit → Act → World → Prop) (hP : ∀ x (a a' : Act) (w : World), a.defers = a'.defers → Q (.panic x) a w → Q (.panic x) a' w)
    (hk : k < ln) (hln : ln ≤ 300) (hlm : lc ≤ 9223372036854775807) (hll : ln ≤ lc) (b1 : si < 20) (b2 : mo < 6) (b3 : wi < 30) (hn9 : n ≤ 9) (hqk : q ≤ (k : Int)) (htn : tn ≤ 9 * k) (hlb : lb < wK.heap.size) (hgm : gm < wK.heap.size)
    (B2 : BxS wK ng 24 #[.slice (some ⟨gm, 0, none⟩) n cx, .int .i64 (si : Int), .int .i64 (1 + (mo : Int)), .int .i64 (1 + (wi : Int)), .string ⟨#[115, 97, 102, 101]⟩]) (M2 : RdM wK (some ⟨gm, 0, none⟩) n cx F) (hF : ∀ j, j < n → MoR (F j)) (hE : (gfP F n (si : Int) (1 + (mo : Int)) (1 + (wi : Int)) safB).1 = 0)
    (k0K : wK.cell? ⟨lb, lo + k * 3, none⟩ = some (.slice va vn vc)) (k1K : wK.cell? ⟨lb, lo + k * 3 + 1, none⟩ = some (.bool he)) (k2K : wK.cell? ⟨lb, lo + k * 3 + 2, none⟩ = some (.bool le))
    (hKr : RdX wK va vn vc (zys vs)) (hKb : ∀ j, -9223372036854775808 ≤ nthI vs j ∧ nthI vs j ≤ 9223372036854775807)
    (hLT : LT wK wT gv gl A D n L ta tn tc Ts)
    (hLI : LI F n (si : Int) (1 + (wi : Int)) D L Ts q ((k : Int) - 1)) (hLk : ∀ j, j < n → nthI L j ≤ (k : Int)) (hTs : ∀ t, t ∈ Ts → 0 ≤ t)
    (hQ : ∀ (z10 z17 z18 z19 z20 z21 z22 z23 z24 z25 z26 z27 z28 z29 z30 z31 z32 z33 z106 z107 z108 z109 z110 z111 z112 z113 z114 z115 z116 z117 z118 z119 z120 z121 z122 z123 z124 z125 z126 z127 z128 z129 z130 z131 z132 z133 z134 z135 z136 z137 z138 z139 z140 z141 z142 z143 z144 z145 z146 z147 z148 z149 z150 z151 z152 z153 z154 z155 z156 z157 z158 z159 z160 z161 z162 z163 z164 z165 z166 z167 z168 z169 z170 z171 z172 z173 z174 z175 z176 z177 z178 z179 z180 z181 z182 z183 z184 z185 z186 z187 z188 z189 z190 z191 z192 z193 z194 z195 z196 z197 z198 z199 z200 z201 z202 z203 z204 z205 z206 z207 z208 z209 z210 z211 z212 z213 z214 z215 z216 z217 z218 z219 z220 z221 z222 z223 z224 z225 z226 z227 z228 z229 z230 z231 z232 z233 z234 z235 z236 z237 z238 z239 z240 z241 z242 z243 z244 z245 z246 z247 z248 z249 z250 z251 z252 z253 z254 z255 z256 z257 z258 z259 z260 z261 z262 z263 z264 z265 z266 z267 z268 z269 z270 z271 z272 z273 z274 z275 z276 z277 z278 z279 z280 z281 z282 z283 z284 z285 z286 z287 z288 z289 z290 z291 z292 z293 z294 z295 z296 z297 z298 z299 z300 z301 z302 z303 z304 z305 z306 z307 z308 z309 z310 z311 z312 z313 z314 z315 z316 z317 z318 z319 z320 z321 z322 z323 z324 z325 z326 z327 z328 z329 z330 z331 : Value) (w' : World) (tn4 tc4 : Nat) (ta4 : Option Addr) (q4 : Int) (A4 : Va) (D4 : Vi) (L4 Ts4 : List Int), z19 = .int .i64 ((k : Int) + 1) → z17 = .int .i64 q4 → z18 = .slice ta4 tn4 tc4 → LT wK w' gv gl A4 D4 n L4 ta4 tn4 tc4 Ts4 → LI F n (si : Int) (1 + (wi : Int)) D4 L4 Ts4 q4 (k : Int) → q4 ≤ (k : Int) + 1 → tn4 ≤ 9 * (k + 1) → (∀ j, j < n → nthI L4 j ≤ (k : Int) + 1) → (∀ t, t ∈ Ts4 → 0 ≤ t) → Q .normal (Act.mk (List.toArray (u0 :: u1 :: u2 :: u3 :: (.slice (some ⟨lb, lo, none⟩) ln lc) :: u5 :: u6 :: u7 :: u8 :: u9 :: z10 :: (.pointer (some ⟨ng, 0, none⟩)) :: u12 :: (.pointer (some ⟨gv, 0, none⟩)) :: u14 :: (.int .i64 (n : Int)) :: (.slice (some ⟨gl, 0, none⟩) n n) :: z17 :: z18 :: z19 :: z20 :: z21 :: z22 :: z23 :: z24 :: z25 :: z26 :: z27 :: z28 :: z29 :: z30 :: z31 :: z32 :: z33 :: u34 :: u35 :: u36 :: u37 :: u38 :: u39 :: u40 :: u41 :: u42 :: u43 :: u44 :: u45 :: u46 :: u47 :: u48 :: u49 :: u50 :: u51 :: u52 :: u53 :: u54 :: u55 :: u56 :: u57 :: u58 :: u59 :: u60 :: u61 :: u62 :: u63 :: u64 :: u65 :: u66 :: u67 :: u68 :: u69 :: u70 :: u71 :: u72 :: u73 :: u74 :: u75 :: u76 :: u77 :: u78 :: u79 :: u80 :: u81 :: u82 :: u83 :: u84 :: u85 :: u86 :: u87 :: u88 :: u89 :: u90 :: u91 :: u92 :: u93 :: u94 :: u95 :: u96 :: u97 :: u98 :: u99 :: u100 :: u101 :: u102 :: u103 :: u104 :: u105 :: z106 :: z107 :: z108 :: z109 :: z110 :: z111 :: z112 :: z113 :: z114 :: z115 :: z116 :: z117 :: z118 :: z119 :: z120 :: z121 :: z122 :: z123 :: z124 :: z125 :: z126 :: z127 :: z128 :: z129 :: z130 :: z131 :: z132 :: z133 :: z134 :: z135 :: z136 :: z137 :: z138 :: z139 :: z140 :: z141 :: z142 :: z143 :: z144 :: z145 :: z146 :: z147 :: z148 :: z149 :: z150 :: z151 :: z152 :: z153 :: z154 :: z155 :: z156 :: z157 :: z158 :: z159 :: z160 :: z161 :: z162 :: z163 :: z164 :: z165 :: z166 :: z167 :: z168 :: z169 :: z170 :: z171 :: z172 :: z173 :: z174 :: z175 :: z176 :: z177 :: z178 :: z179 :: z180 :: z181 :: z182 :: z183 :: z184 :: z185 :: z186 :: z187 :: z188 :: z189 :: z190 :: z191 :: z192 :: z193 :: z194 :: z195 :: z196 :: z197 :: z198 :: z199 :: z200 :: z201 :: z202 :: z203 :: z204 :: z205 :: z206 :: z207 :: z208 :: z209 :: z210 :: z211 :: z212 :: z213 :: z214 :: z215 :: z216 :: z217 :: z218 :: z219 :: z220 :: z221 :: z222 :: z223 :: z224 :: z225 :: z226 :: z227 :: z228 :: z229 :: z230 :: z231 :: z232 :: z233 :: z234 :: z235 :: z236 :: z237 :: z238 :: z239 :: z240 :: z241 :: z242 :: z243 :: z244 :: z245 :: z246 :: z247 :: z248 :: z249 :: z250 :: z251 :: z252 :: z253 :: z254 :: z255 :: z256 :: z257 :: z258 :: z259 :: z260 :: z261 :: z262 :: z263 :: z264 :: z265 :: z266 :: z267 :: z268 :: z269 :: z270 :: z271 :: z272 :: z273 :: z274 :: z275 :: z276 :: z277 :: z278 :: z279 :: z280 :: z281 :: z282 :: z283 :: z284 :: z285 :: z286 :: z287 :: z288 :: z289 :: z290 :: z291 :: z292 :: z293 :: z294 :: z295 :: z296 :: z297 :: z298 :: z299 :: z300 :: z301 :: z302 :: z303 :: z304 :: z305 :: z306 :: z307 :: z308 :: z309 :: z310 :: z311 :: z312 :: z313 :: z314 :: z315 :: z316 :: z317 :: z318 :: z319 :: z320 :: z321 :: z322 :: z323 :: z324 :: z325 :: z326 :: z327 :: z328 :: z329 :: z330 :: z331 :: [])) []) w') :
    Code.wp Try.prog (tailR 19 (Try.f5.body.getD .skip)) Q (Act.mk (List.toArray (u0 :: u1 :: u2 :: u3 :: (.slice (some ⟨lb, lo, none⟩) ln lc) :: u5 :: u6 :: u7 :: u8 :: u9 :: u10 :: (.pointer (some ⟨ng, 0, none⟩)) :: u12 :: (.pointer (some ⟨gv, 0, none⟩)) :: u14 :: (.int .i64 (n : Int)) :: (.slice (some ⟨gl, 0, none⟩) n n) :: (.int .i64 q) :: (.slice ta tn tc) :: (.int .i64 (k : Int)) :: u20 :: u21 :: u22 :: u23 :: u24 :: u25 :: u26 :: u27 :: u28 :: u29 :: u30 :: u31 :: u32 :: u33 :: u34 :: u35 :: u36 :: u37 :: u38 :: u39 :: u40 :: u41 :: u42 :: u43 :: u44 :: u45 :: u46 :: u47 :: u48 :: u49 :: u50 :: u51 :: u52 :: u53 :: u54 :: u55 :: u56 :: u57 :: u58 :: u59 :: u60 :: u61 :: u62 :: u63 :: u64 :: u65 :: u66 :: u67 :: u68 :: u69 :: u70 :: u71 :: u72 :: u73 :: u74 :: u75 :: u76 :: u77 :: u78 :: u79 :: u80 :: u81 :: u82 :: u83 :: u84 :: u85 :: u86 :: u87 :: u88 :: u89 :: u90 :: u91 :: u92 :: u93 :: u94 :: u95 :: u96 :: u97 :: u98 :: u99 :: u100 :: u101 :: u102 :: u103 :: u104 :: u105 :: u106 :: u107 :: u108 :: u109 :: u110 :: u111 :: u112 :: u113 :: u114 :: u115 :: u116 :: u117 :: u118 :: u119 :: u120 :: u121 :: u122 :: u123 :: u124 :: u125 :: u126 :: u127 :: u128 :: u129 :: u130 :: u131 :: u132 :: u133 :: u134 :: u135 :: u136 :: u137 :: u138 :: u139 :: u140 :: u141 :: u142 :: u143 :: u144 :: u145 :: u146 :: u147 :: u148 :: u149 :: u150 :: u151 :: u152 :: u153 :: u154 :: u155 :: u156 :: u157 :: u158 :: u159 :: u160 :: u161 :: u162 :: u163 :: u164 :: u165 :: u166 :: u167 :: u168 :: u169 :: u170 :: u171 :: u172 :: u173 :: u174 :: u175 :: u176 :: u177 :: u178 :: u179 :: u180 :: u181 :: u182 :: u183 :: u184 :: u185 :: u186 :: u187 :: u188 :: u189 :: u190 :: u191 :: u192 :: u193 :: u194 :: u195 :: u196 :: u197 :: u198 :: u199 :: u200 :: u201 :: u202 :: u203 :: u204 :: u205 :: u206 :: u207 :: u208 :: u209 :: u210 :: u211 :: u212 :: u213 :: u214 :: u215 :: u216 :: u217 :: u218 :: u219 :: u220 :: u221 :: u222 :: u223 :: u224 :: u225 :: u226 :: u227 :: u228 :: u229 :: u230 :: u231 :: u232 :: u233 :: u234 :: u235 :: u236 :: u237 :: u238 :: u239 :: u240 :: u241 :: u242 :: u243 :: u244 :: u245 :: u246 :: u247 :: u248 :: u249 :: u250 :: u251 :: u252 :: u253 :: u254 :: u255 :: u256 :: u257 :: u258 :: u259 :: u260 :: u261 :: u262 :: u263 :: u264 :: u265 :: u266 :: u267 :: u268 :: u269 :: u270 :: u271 :: u272 :: u273 :: u274 :: u275 :: u276 :: u277 :: u278 :: u279 :: u280 :: u281 :: u282 :: u283 :: u284 :: u285 :: u286 :: u287 :: u288 :: u289 :: u290 :: u291 :: u292 :: u293 :: u294 :: u295 :: u296 :: u297 :: u298 :: u299 :: u300 :: u301 :: u302 :: u303 :: u304 :: u305 :: u306 :: u307 :: u308 :: u309 :: u310 :: u311 :: u312 :: u313 :: u314 :: u315 :: u316 :: u317 :: u318 :: u319 :: u320 :: u321 :: u322 :: u323 :: u324 :: u325 :: u326 :: u327 :: u328 :: u329 :: u330 :: u331 :: [])) []) wT := by
  let pq : Exit → Act → World → Prop := bodyPost Try.prog Try.f5 (fun _ _ => True)
  conv => enter [2]; whnf
  have hkli : (k : Int) < (ln : Int) := by omega
  have hvm := hKr.max
  have hvl := hKr.le
  unfold maxLen at hvm
  have gy0 := World.grownBy_alloc wT (.cells #[.int .i64 5, .int .i64 5, .int .i64 5] 3) none
  have AY := ans_lit3 wT 5 5 5
  generalize hwy : wT.alloc (.cells #[.int .i64 5, .int .i64 5, .int .i64 5] 3) = wy at *
  go_upto_block 4 with fail
  go_cut [21] from 109 to 135 (fun s21 wx => ∃ Vs : List Int, AnsX 3 wx wT.heap.size (some ⟨wT.heap.size, 0, none⟩) 3 3 (zys Vs) ∧ wT.grownBy wx none)
  case first =>
    go_wp2
    go_loopw [21] (fun s21 wz => ∃ (j : Nat) (Vs : List Int), j ≤ 3 ∧ j ≤ vn ∧ s21 = .int .i64 (j : Int) ∧ AnsX 3 wz wT.heap.size (some ⟨wT.heap.size, 0, none⟩) 3 3 (zys Vs) ∧ wT.grownBy wz none) (fun iv _ => 3 - (intOf iv).toNat)
    case atStart => exact ⟨0, _, by omega, by omega, rfl, AY, gy0⟩
    case round =>
      clear AY gy0 hwy
      obtain ⟨j, Vs, hj3, hjv, rfl, AY, gy⟩ := hrel
      have gKr := grown_trans hLT.gr gy
      have k0 := (World.cell?_of_block (w := wK) (gKr.block lb hlb (by simp))).trans k0K
      go_upto_region 21 with fail
      go_cut [120] from 109 to 119 (fun s wx => s = .bool (decide (j < vn) && decide (j < 3)) ∧ wx = wr)
      case first =>
        by_cases hlt : j < vn
        · have hlti : (j : Int) < (vn : Int) := by omega
          by_cases hl3 : j < 3
          · have hl3i : (j : Int) < 3 := by omega
            go_wp2
            go_meet
            exact ⟨by rw [decide_eq_true hlt, decide_eq_true hl3]; rfl, rfl⟩
          · have hl3i : ¬ (j : Int) < 3 := by omega
            go_wp2
            go_meet
            exact ⟨by rw [decide_eq_true hlt, decide_eq_false hl3]; rfl, rfl⟩
        · have hlti : ¬ (j : Int) < (vn : Int) := by omega
          go_wp2
          go_meet
          exact ⟨by rw [decide_eq_false hlt]; rfl, rfl⟩
      case rest =>
        obtain ⟨hc1, hR9⟩ := hcut
        have hR9 := hR9.symm
        subst hR9
        subst hc1
        apply_assumption
        by_cases hgo : j < vn ∧ j < 3
        · obtain ⟨hlt, hl3⟩ := hgo
          have hlti : (j : Int) < (vn : Int) := by omega
          have hl3i : (j : Int) < 3 := by omega
          rw [decide_eq_true hlt, decide_eq_true hl3]
          obtain ⟨fb, fo, rfl, hfb⟩ := hKr.some_rd (by omega)
          have cv := hKr.at_in gKr j hlt
          have Pv : ∀ wz : World, Calls Try.prog 20 #[.int .i64 (nthI vs j), .int .i64 20] wz fun e w' => e = .returned (.int .i64 (pkU (nthI vs j) 20 : Nat)) ∧ w' = wz := fun wz => pickU2_any _ 20 wz (hKb j) (by decide) (by decide)
          have lv := pkU_lt (nthI vs j) 20 (by decide)
          generalize pkU (nthI vs j) 20 = pv at Pv lv
          have cy := AY.cell j _ (zys_at Vs j (by rw [← zys_length, AY.len]; exact hl3))
          have fy := AY.free j
          go_wp2_with (first
            | (go_at_call 20; (with_reducible refine (Pv _).mono ?_); rintro e w' ⟨rfl, hww⟩; have hww := hww.symm; subst hww))
          go_roundw
          case rel =>
            refine ⟨j + 1, Vs.set j ((pv : Int) - 5), by omega, by omega, by go_num, ?_, grown_far gy (grown_set _ _ _ _) (fun q e => by have e : wT.heap.size = q := Option.some.inj e; omega)⟩
            have := AY.set j (.int .i64 ((pv : Int) - 5)) rfl
            rw [zys_set] at this
            exact this
          case measure => simp [intOf]; omega
        · have hff : (decide (j < vn) && decide (j < 3)) = false := by
            by_cases h : j < vn
            · rw [decide_eq_false (fun h8 => hgo ⟨h, h8⟩), Bool.and_false]
            · rw [decide_eq_false h]; rfl
          rw [hff]
          go_wp2
          go_meet
          exact ⟨Vs, AY, gy⟩
  case rest =>
    obtain ⟨Vs, AY, gy⟩ := hcut
    apply_assumption
    refine latch_tail24 lb lo ln lc ng gv gl gm cx k n tn tc si mo wi ta q he le A D F Vs L Ts wK wT wc _ (fun x a a' w e h => hP x a a' w e h) hk hln hlm hll b1 b2 b3 hn9 hqk htn hlb hgm B2 M2 hF hE k1K k2K hLT gy AY hLI hLk hTs ?_
    intro z10 z17 z18 z22 z23 z24 z25 z26 z27 z28 z29 z30 z31 z32 z33 z136 z137 z138 z139 z140 z141 z142 z143 z144 z145 z146 z147 z148 z149 z150 z151 z152 z153 z154 z155 z156 z157 z158 z159 z160 z161 z162 z163 z164 z165 z166 z167 z168 z169 z170 z171 z172 z173 z174 z175 z176 z177 z178 z179 z180 z181 z182 z183 z184 z185 z186 z187 z188 z189 z190 z191 z192 z193 z194 z195 z196 z197 z198 z199 z200 z201 z202 z203 z204 z205 z206 z207 z208 z209 z210 z211 z212 z213 z214 z215 z216 z217 z218 z219 z220 z221 z222 z223 z224 z225 z226 z227 z228 z229 z230 z231 z232 z233 z234 z235 z236 z237 z238 z239 z240 z241 z242 z243 z244 z245 z246 z247 z248 z249 z250 z251 z252 z253 z254 z255 z256 z257 z258 z259 z260 z261 z262 z263 z264 z265 z266 z267 z268 z269 z270 z271 z272 z273 z274 z275 z276 z277 z278 z279 z280 z281 z282 z283 z284 z285 z286 z287 z288 z289 z290 z291 z292 z293 z294 z295 z296 z297 z298 z299 z300 z301 z302 z303 z304 z305 z306 z307 z308 z309 z310 z311 z312 z313 z314 z315 z316 z317 z318 z319 z320 z321 z322 z323 z324 z325 z326 z327 z328 z329 z330 z331 w' tn4 tc4 ta4 q4 A4 D4 L4 Ts4 p1 p2 p3 p4 p5 p6 p7 p8
    simp only [Exit.inBlock, Exit.then]
    apply_assumption
    have hkw : IntKind.i64.wrap ((k : Int) + 1) = (k : Int) + 1 := wrap_i64_in _ (by omega) (by omega)
    go_wp2
    exact hQ z10 z17 z18 _ _ _ z22 z23 z24 z25 z26 z27 z28 z29 z30 z31 z32 z33 _ _ _ _ _ _ _ _ _ _ _ _ _ _ _ _ _ _ _ _ _ _ _ _ _ _ _ _ _ _ z136 z137 z138 z139 z140 z141 z142 z143 z144 z145 z146 z147 z148 z149 z150 z151 z152 z153 z154 z155 z156 z157 z158 z159 z160 z161 z162 z163 z164 z165 z166 z167 z168 z169 z170 z171 z172 z173 z174 z175 z176 z177 z178 z179 z180 z181 z182 z183 z184 z185 z186 z187 z188 z189 z190 z191 z192 z193 z194 z195 z196 z197 z198 z199 z200 z201 z202 z203 z204 z205 z206 z207 z208 z209 z210 z211 z212 z213 z214 z215 z216 z217 z218 z219 z220 z221 z222 z223 z224 z225 z226 z227 z228 z229 z230 z231 z232 z233 z234 z235 z236 z237 z238 z239 z240 z241 z242 z243 z244 z245 z246 z247 z248 z249 z250 z251 z252 z253 z254 z255 z256 z257 z258 z259 z260 z261 z262 z263 z264 z265 z266 z267 z268 z269 z270 z271 z272 z273 z274 z275 z276 z277 z278 z279 z280 z281 z282 z283 z284 z285 z286 z287 z288 z289 z290 z291 z292 z293 z294 z295 z296 z297 z298 z299 z300 z301 z302 z303 z304 z305 z306 z307 z308 z309 z310 z311 z312 z313 z314 z315 z316 z317 z318 z319 z320 z321 z322 z323 z324 z325 z326 z327 z328 z329 z330 z331 w' tn4 tc4 ta4 q4 A4 D4 L4 Ts4 rfl p1 p2 p3 p4 p5 p6 p7 p8

set_option maxHeartbeats 32000000 in
theorem latches_walk (fa : Option Addr) (fn fc : Nat) (S : List Int) (si0 mo0 wi0 : Int) (la : Option Addr) (ln lc : Nat) (K : Nat → Lk) (w : World) (hS : RdX w fa fn fc (zys S)) (hSb : ∀ i, -9223372036854775808 ≤ nthI S i ∧ nthI S i ≤ 9223372036854775807)
    (h1 : -9223372036854775808 ≤ si0 ∧ si0 ≤ 9223372036854775807) (h2 : -9223372036854775808 ≤ mo0 ∧ mo0 ≤ 9223372036854775807) (h3 : -9223372036854775808 ≤ wi0 ∧ wi0 ≤ 9223372036854775807) (hK : RdLk w la ln lc K) :
    Calls Try.prog 5 #[.slice fa fn fc, .int .i64 si0, .int .i64 mo0, .int .i64 wi0, .slice la ln lc] w fun e w' => e = .returned (.bool true) ∧ w.grownBy w' none := by
  have hfm := hS.max
  have hfl := hS.le
  have hlm := hK.max
  have hll := hK.le
  unfold maxLen at hfm hlm
  by_cases h300 : 300 < ln
  · have h300i : (300 : Int) < (ln : Int) := by omega
    go_enter Try.func5, Try.ntmps5
    go_wp2
    go_ret
    exact ⟨rfl, World.grownBy.refl _ _⟩
  have h300i : ¬ (300 : Int) < (ln : Int) := by omega
  have P1 : ∀ wz : World, Calls Try.prog 20 #[.int .i64 si0, .int .i64 20] wz fun e w' => e = .returned (.int .i64 (pkU si0 20 : Nat)) ∧ w' = wz := fun wz => pickU2_any si0 20 wz h1 (by decide) (by decide)
  have P2 : ∀ wz : World, Calls Try.prog 20 #[.int .i64 mo0, .int .i64 6] wz fun e w' => e = .returned (.int .i64 (pkU mo0 6 : Nat)) ∧ w' = wz := fun wz => pickU2_any mo0 6 wz h2 (by decide) (by decide)
  have P3 : ∀ wz : World, Calls Try.prog 20 #[.int .i64 wi0, .int .i64 30] wz fun e w' => e = .returned (.int .i64 (pkU wi0 30 : Nat)) ∧ w' = wz := fun wz => pickU2_any wi0 30 wz h3 (by decide) (by decide)
  have b1 := pkU_lt si0 20 (by decide)
  have b2 := pkU_lt mo0 6 (by decide)
  have b3 := pkU_lt wi0 30 (by decide)
  generalize pkU si0 20 = si at P1 b1
  generalize pkU mo0 6 = mo at P2 b2
  generalize pkU wi0 30 = wi at P3 b3
  have B0 := BxS.new w 24 #[.slice none 0 0, .int .i64 (si : Int), .int .i64 (1 + (mo : Int)), .int .i64 (1 + (wi : Int)), .string ⟨#[115, 97, 102, 101]⟩]
  have G0 := World.grownBy_alloc w (.cells #[.slice none 0 0, .int .i64 (si : Int), .int .i64 (1 + (mo : Int)), .int .i64 (1 + (wi : Int)), .string ⟨#[115, 97, 102, 101]⟩] 24) none
  generalize hw0 : w.alloc (.cells #[.slice none 0 0, .int .i64 (si : Int), .int .i64 (1 + (mo : Int)), .int .i64 (1 + (wi : Int)), .string ⟨#[115, 97, 102, 101]⟩] 24) = w0 at B0 G0
  have hz0 : Hid (w0.heap.size = w.heap.size + 1) := by rw [← hw0]; simp [Hid]
  obtain ⟨c0, _, _, _, _⟩ := B0.cell5
  have t0 : True := trivial
  go_enter Try.func5, Try.ntmps5
  go_wp2_with (first
    | (go_at_call 20; (with_reducible refine (P1 _).mono ?_); rintro e w' ⟨rfl, hww⟩; have hww := hww.symm; subst hww)
    | (go_at_call 20; (with_reducible refine (P2 _).mono ?_); rintro e w' ⟨rfl, hww⟩; have hww := hww.symm; subst hww)
    | (go_at_call 20; (with_reducible refine (P3 _).mono ?_); rintro e w' ⟨rfl, hww⟩; have hww := hww.symm; subst hww)
    | (at_builtin; have _t := t0; refine wpList_psM w0 w0.heap.size (lmF S) rfl (.tmp 47) (.tmp 49) rfl none 0 0 rfl (OwM.nil _ _ _) (Nat.le_refl _) rfl (by decide) _ rfl ?_; clear t0; intro gx cx w1 hO1 g1 _; have B1 := B0.keep g1 (by simp [Value.ownBlock]); have t1 : True := trivial)
    | (have _t := t1; refine wpList_stC w1 rfl _ _ _ rfl w.heap.size 0 24 _ #[.slice (some ⟨gx, 0, none⟩) 1 cx, .int .i64 (si : Int), .int .i64 (1 + (mo : Int)), .int .i64 (1 + (wi : Int)), .string ⟨#[115, 97, 102, 101]⟩] (.slice (some ⟨gx, 0, none⟩) 1 cx) rfl rfl B1 (stc_slM _ _ _ _ _) (by show 0 < 5; decide) rfl ?_; clear t1; intro w2 B2 g2))
  have O2 : OwM w2 (w.heap.size + 1) (some ⟨gx, 0, none⟩) 1 cx (lmF S) := by
    have hz := hz0.out
    have := hO1.kept g2 (by
      right
      intro e
      have e : gx = w.heap.size := Option.some.inj e
      have := hO1.new gx rfl
      omega)
    rw [hz] at this
    exact this
  have G2 : w.grownBy w2 none := grown_far (grown_trans G0 g1) g2 (fun q e => by have e : w.heap.size = q := Option.some.inj e; omega)
  clear hO1 B1 B0 G0 g1 g2 c0 P1 P2 P3
  go_loopw [12] (fun iv wr => ∃ (i gx cx : Nat), i ≤ fn ∧ i ≤ 8 ∧ iv = .int .i64 (i : Int) ∧ BxS wr w.heap.size 24 #[.slice (some ⟨gx, 0, none⟩) (i + 1) cx, .int .i64 (si : Int), .int .i64 (1 + (mo : Int)), .int .i64 (1 + (wi : Int)), .string ⟨#[115, 97, 102, 101]⟩] ∧ OwM wr (w.heap.size + 1) (some ⟨gx, 0, none⟩) (i + 1) cx (lmF S) ∧ w.grownBy wr none) (fun iv _ => fn - (intOf iv).toNat)
  case atStart => exact ⟨0, gx, cx, by omega, by omega, rfl, B2, O2, G2⟩
  case round =>
    clear B2 O2 G2
    obtain ⟨i, gx, cx, hi1, hi2, rfl, B2, O2, G2⟩ := hrel
    go_upto_region 6 with fail
    go_cut [59] from 52 to 58 (fun s wx => s = .bool (decide (i < fn) && decide (i < 8)) ∧ wx = wr)
    case first =>
      by_cases hlt : i < fn
      · have hlti : (i : Int) < (fn : Int) := by omega
        by_cases hl8 : i < 8
        · have hl8i : (i : Int) < 8 := by omega
          go_wp2
          go_meet
          exact ⟨by rw [decide_eq_true hlt, decide_eq_true hl8]; rfl, rfl⟩
        · have hl8i : ¬ (i : Int) < 8 := by omega
          go_wp2
          go_meet
          exact ⟨by rw [decide_eq_true hlt, decide_eq_false hl8]; rfl, rfl⟩
      · have hlti : ¬ (i : Int) < (fn : Int) := by omega
        go_wp2
        go_meet
        exact ⟨by rw [decide_eq_false hlt]; rfl, rfl⟩
    case rest =>
      obtain ⟨hc1, hR9⟩ := hcut
      have hR9 := hR9.symm
      subst hR9
      subst hc1
      apply_assumption
      by_cases hgo : i < fn ∧ i < 8
      · obtain ⟨hlt, hl8⟩ := hgo
        have hlti : (i : Int) < (fn : Int) := by omega
        have hl8i : (i : Int) < 8 := by omega
        rw [decide_eq_true hlt, decide_eq_true hl8]
        obtain ⟨fb, fo, rfl, hfb⟩ := hS.some_rd (by omega)
        have hz := hSb i
        have Pa : ∀ wz : World, Calls Try.prog 20 #[.int .i64 (nthI S i), .int .i64 6] wz fun e w' => e = .returned (.int .i64 (pkU (nthI S i) 6 : Nat)) ∧ w' = wz := fun wz => pickU2_any _ 6 wz hz (by decide) (by decide)
        have hq1 : -9223372036854775808 ≤ (nthI S i).tdiv 7 ∧ (nthI S i).tdiv 7 ≤ 9223372036854775807 := by
          generalize nthI S i = z at hz
          by_cases h0 : 0 ≤ z
          · rw [Int.tdiv_eq_ediv_of_nonneg h0]; omega
          · have e : z.tdiv 7 = -((-z).tdiv 7) := by rw [Int.neg_tdiv]; omega
            rw [e, Int.tdiv_eq_ediv_of_nonneg (by omega)]; omega
        have hq : IntKind.i64.wrap ((nthI S i).tdiv 7) = (nthI S i).tdiv 7 := wrap_i64_in _ hq1.1 hq1.2
        have Pb : ∀ wz : World, Calls Try.prog 20 #[.int .i64 ((nthI S i).tdiv 7), .int .i64 3] wz fun e w' => e = .returned (.int .i64 (pkU ((nthI S i).tdiv 7) 3 : Nat)) ∧ w' = wz := fun wz => pickU2_any _ 3 wz hq1 (by decide) (by decide)
        have Pc : ∀ wz : World, Calls Try.prog 21 #[.int .i64 (i : Int)] wz fun e w' => e = .returned (.string (fgB i)) ∧ wz.grownBy w' none := fun wz => figures_any i (by omega) wz
        have la6 := pkU_lt (nthI S i) 6 (by decide)
        have lb3 := pkU_lt ((nthI S i).tdiv 7) 3 (by decide)
        have eF : (lmF S (i + 1)).cells = [.int .i64 ((i : Int).tmod 3), .int .i64 0, .int .i64 9, .int .i64 (1 + (pkU (nthI S i) 6 : Nat)), .int .i64 (1 + (pkU ((nthI S i).tdiv 7) 3 : Nat)), .string (ByteArray.mk #[109] ++ fgB i)] := rfl
        have eF : Hid (_ = _) := eF
        generalize pkU (nthI S i) 6 = pa at *
        generalize pkU ((nthI S i).tdiv 7) 3 = pb at *
        have cS : ∀ wz : World, w.grownBy wz none → wz.cell? ⟨fb, fo + i, none⟩ = some (.int .i64 (nthI S i)) := fun wz hg => hS.at_in hg i hlt
        generalize nthI S i = zi at *
        have hfg : 1 + (fgB i).size ≤ 9223372036854775807 := by
          have h2 := (lmB_ok i (by omega)).2
          unfold lmB at h2
          rw [ByteArray.size_append] at h2
          have e1 : (ByteArray.mk #[109]).size = 1 := rfl
          omega
        generalize fgB i = fg at *
        have wr1 : IntKind.i64.wrap (1 + (pa : Int)) = 1 + (pa : Int) := wrap_i64_in _ (by omega) (by omega)
        have wr2 : IntKind.i64.wrap (1 + (pb : Int)) = 1 + (pb : Int) := wrap_i64_in _ (by omega) (by omega)
        have wr3 : IntKind.i64.wrap ((i : Int).tmod 3) = (i : Int).tmod 3 := by
          rw [Int.tmod_eq_emod_of_nonneg (by omega)]
          exact wrap_i64_in _ (by omega) (by omega)
        go_wp2
        have hD : wr.grownBy wr.drew none := grown_drew wr none
        have S0 : wr.drew.cell? ⟨w.heap.size, 0, none⟩ = some (.slice (some ⟨gx, 0, none⟩) (i + 1) cx) ∧ wr.drew.cell? ⟨fb, fo + i, none⟩ = some (.int .i64 zi) := ⟨(B2.keep hD (by simp)).cell 0 (by show 0 < 5; decide), cS _ (grown_trans G2 hD)⟩
        refine wp_regionL (fun wz => wz.cell? ⟨w.heap.size, 0, none⟩ = some (.slice (some ⟨gx, 0, none⟩) (i + 1) cx) ∧ wz.cell? ⟨fb, fo + i, none⟩ = some (.int .i64 zi)) [24] #[false, false, false, false, false, false, false, false, false, false, false, false, false, false, false, false, false, false, false, false, false, false, false, false, false] rfl (by kernel_rfl) ?_
        refine wpAnyZ_take [24] 0 (.pointer (some ⟨w.heap.size, 0, none⟩)) rfl (by kernel_rfl) (fun _ _ _ h => h) S0 rfl (by rintro wz ⟨y1, y2⟩; go_simp) ?_
        try simp only [List.getElem_toArray, List.getElem_cons_succ, List.getElem_cons_zero, Act.put, List.setIfInBounds_toArray, List.set_cons_zero, List.set_cons_succ]
        refine wpAnyZ_take [24] 1 (.slice (some ⟨gx, 0, none⟩) (i + 1) cx) rfl (by kernel_rfl) (fun _ _ _ h => h) S0 rfl (by rintro wz ⟨y1, y2⟩; go_simp) ?_
        try simp only [List.getElem_toArray, List.getElem_cons_succ, List.getElem_cons_zero, Act.put, List.setIfInBounds_toArray, List.set_cons_zero, List.set_cons_succ]
        refine wpAnyZ_take [24] 2 (.int .i64 (i : Int)) rfl (by kernel_rfl) (fun _ _ _ h => h) S0 rfl (by rintro wz ⟨y1, y2⟩; go_simp) ?_
        try simp only [List.getElem_toArray, List.getElem_cons_succ, List.getElem_cons_zero, Act.put, List.setIfInBounds_toArray, List.set_cons_zero, List.set_cons_succ]
        refine wpAnyZ_take [24] 3 (.int .i64 ((i : Int).tmod 3)) rfl (by kernel_rfl) (fun _ _ _ h => h) S0 rfl (by rintro wz ⟨y1, y2⟩; go_simp) ?_
        try simp only [List.getElem_toArray, List.getElem_cons_succ, List.getElem_cons_zero, Act.put, List.setIfInBounds_toArray, List.set_cons_zero, List.set_cons_succ]
        refine wpAnyZ_take [24] 4 (.slice (some ⟨fb, fo, none⟩) fn fc) rfl (by kernel_rfl) (fun _ _ _ h => h) S0 rfl (by rintro wz ⟨y1, y2⟩; go_simp) ?_
        try simp only [List.getElem_toArray, List.getElem_cons_succ, List.getElem_cons_zero, Act.put, List.setIfInBounds_toArray, List.set_cons_zero, List.set_cons_succ]
        refine wpAnyZ_take [24] 5 (.int .i64 (i : Int)) rfl (by kernel_rfl) (fun _ _ _ h => h) S0 rfl (by rintro wz ⟨y1, y2⟩; go_simp) ?_
        try simp only [List.getElem_toArray, List.getElem_cons_succ, List.getElem_cons_zero, Act.put, List.setIfInBounds_toArray, List.set_cons_zero, List.set_cons_succ]
        refine wpAnyZ_take [24] 6 (.pointer (some ⟨fb, fo + i, none⟩)) rfl (by kernel_rfl) (fun _ _ _ h => h) S0 rfl (by rintro wz ⟨y1, y2⟩; go_simp) ?_
        try simp only [List.getElem_toArray, List.getElem_cons_succ, List.getElem_cons_zero, Act.put, List.setIfInBounds_toArray, List.set_cons_zero, List.set_cons_succ]
        refine wpAnyZ_take [24] 7 (.int .i64 zi) rfl (by kernel_rfl) (fun _ _ _ h => h) S0 rfl (by rintro wz ⟨y1, y2⟩; go_simp) ?_
        try simp only [List.getElem_toArray, List.getElem_cons_succ, List.getElem_cons_zero, Act.put, List.setIfInBounds_toArray, List.set_cons_zero, List.set_cons_succ]
        refine wpAnyZ_take [24] 10 (.slice (some ⟨fb, fo, none⟩) fn fc) rfl (by kernel_rfl) (fun _ _ _ h => h) S0 rfl (by rintro wz ⟨y1, y2⟩; go_simp) ?_
        try simp only [List.getElem_toArray, List.getElem_cons_succ, List.getElem_cons_zero, Act.put, List.setIfInBounds_toArray, List.set_cons_zero, List.set_cons_succ]
        refine wpAnyZ_take [24] 11 (.int .i64 (i : Int)) rfl (by kernel_rfl) (fun _ _ _ h => h) S0 rfl (by rintro wz ⟨y1, y2⟩; go_simp) ?_
        try simp only [List.getElem_toArray, List.getElem_cons_succ, List.getElem_cons_zero, Act.put, List.setIfInBounds_toArray, List.set_cons_zero, List.set_cons_succ]
        refine wpAnyZ_take [24] 12 (.pointer (some ⟨fb, fo + i, none⟩)) rfl (by kernel_rfl) (fun _ _ _ h => h) S0 rfl (by rintro wz ⟨y1, y2⟩; go_simp) ?_
        try simp only [List.getElem_toArray, List.getElem_cons_succ, List.getElem_cons_zero, Act.put, List.setIfInBounds_toArray, List.set_cons_zero, List.set_cons_succ]
        refine wpAnyZ_take [24] 13 (.int .i64 zi) rfl (by kernel_rfl) (fun _ _ _ h => h) S0 rfl (by rintro wz ⟨y1, y2⟩; go_simp) ?_
        try simp only [List.getElem_toArray, List.getElem_cons_succ, List.getElem_cons_zero, Act.put, List.setIfInBounds_toArray, List.set_cons_zero, List.set_cons_succ]
        refine wpAnyZ_take [24] 14 (.int .i64 (zi.tdiv 7)) rfl (by kernel_rfl) (fun _ _ _ h => h) S0 rfl (by rintro wz ⟨y1, y2⟩; go_simp) ?_
        try simp only [List.getElem_toArray, List.getElem_cons_succ, List.getElem_cons_zero, Act.put, List.setIfInBounds_toArray, List.set_cons_zero, List.set_cons_succ]
        refine wpAnyZ_take [24] 17 (.int .i64 (i : Int)) rfl (by kernel_rfl) (fun _ _ _ h => h) S0 rfl (by rintro wz ⟨y1, y2⟩; go_simp) ?_
        try simp only [List.getElem_toArray, List.getElem_cons_succ, List.getElem_cons_zero, Act.put, List.setIfInBounds_toArray, List.set_cons_zero, List.set_cons_succ]
        refine wpAnyZ_oneB 8 rfl (by kernel_rfl) (fun Kq hKq => ?_)
        go_simp
        go_at_call 20
        with_reducible refine (Pa _).mono ?_
        rintro e w' ⟨rfl, hww⟩
        have hww := hww.symm
        subst hww
        dsimp only
        refine hKq _ _ (fun _ => S0) ?_
        clear hKq Kq
        try simp only [List.getElem_toArray, List.getElem_cons_succ, List.getElem_cons_zero, Act.put, List.setIfInBounds_toArray, List.set_cons_zero, List.set_cons_succ]
        refine wpAnyZ_take [24] 9 (.int .i64 (1 + (pa : Int))) rfl (by kernel_rfl) (fun _ _ _ h => h) S0 rfl (by rintro wz ⟨y1, y2⟩; go_simp) ?_
        try simp only [List.getElem_toArray, List.getElem_cons_succ, List.getElem_cons_zero, Act.put, List.setIfInBounds_toArray, List.set_cons_zero, List.set_cons_succ]
        refine wpAnyZ_oneB 15 rfl (by kernel_rfl) (fun Kq hKq => ?_)
        go_simp
        go_at_call 20
        with_reducible refine (Pb _).mono ?_
        rintro e w' ⟨rfl, hww⟩
        have hww := hww.symm
        subst hww
        dsimp only
        refine hKq _ _ (fun _ => S0) ?_
        clear hKq Kq
        try simp only [List.getElem_toArray, List.getElem_cons_succ, List.getElem_cons_zero, Act.put, List.setIfInBounds_toArray, List.set_cons_zero, List.set_cons_succ]
        refine wpAnyZ_take [24] 16 (.int .i64 (1 + (pb : Int))) rfl (by kernel_rfl) (fun _ _ _ h => h) S0 rfl (by rintro wz ⟨y1, y2⟩; go_simp) ?_
        try simp only [List.getElem_toArray, List.getElem_cons_succ, List.getElem_cons_zero, Act.put, List.setIfInBounds_toArray, List.set_cons_zero, List.set_cons_succ]
        refine wpAnyZ_oneB 18 rfl (by kernel_rfl) (fun Kq hKq => ?_)
        go_simp
        go_at_call 21
        with_reducible refine (Pc _).mono ?_
        rintro e w3 ⟨rfl, hg3⟩
        have G3 := grown_trans (grown_trans G2 hD) hg3
        have B3 := (B2.keep hD (by simp)).keep hg3 (by simp)
        have O3 := (O2.keep hD).keep hg3
        have S1 : w3.cell? ⟨w.heap.size, 0, none⟩ = some (.slice (some ⟨gx, 0, none⟩) (i + 1) cx) ∧ w3.cell? ⟨fb, fo + i, none⟩ = some (.int .i64 zi) := ⟨B3.cell 0 (by show 0 < 5; decide), cS _ G3⟩
        dsimp only
        refine hKq _ _ (fun _ => S1) ?_
        clear hKq Kq
        try simp only [List.getElem_toArray, List.getElem_cons_succ, List.getElem_cons_zero, Act.put, List.setIfInBounds_toArray, List.set_cons_zero, List.set_cons_succ]
        refine wpAnyZ_take [24] 19 (.string (ByteArray.mk #[109] ++ fg)) rfl (by kernel_rfl) (fun _ _ _ h => h) S1 rfl (by rintro wz ⟨y1, y2⟩; go_simp) ?_
        try simp only [List.getElem_toArray, List.getElem_cons_succ, List.getElem_cons_zero, Act.put, List.setIfInBounds_toArray, List.set_cons_zero, List.set_cons_succ]
        refine wpAnyZ_take [24] 20 (.agg #[.int .i64 ((i : Int).tmod 3), .int .i64 0, .int .i64 9, .int .i64 (1 + (pa : Int)), .int .i64 (1 + (pb : Int)), .string (ByteArray.mk #[109] ++ fg)]) rfl (by kernel_rfl) (fun _ _ _ h => h) S1 rfl (by rintro wz ⟨y1, y2⟩; go_simp) ?_
        try simp only [List.getElem_toArray, List.getElem_cons_succ, List.getElem_cons_zero, Act.put, List.setIfInBounds_toArray, List.set_cons_zero, List.set_cons_succ]
        have gA := World.grownBy_alloc w3 (.cells #[.int .i64 ((i : Int).tmod 3), .int .i64 0, .int .i64 9, .int .i64 (1 + (pa : Int)), .int .i64 (1 + (pb : Int)), .string (ByteArray.mk #[109] ++ fg)] 51) none
        have B4 := B3.keep gA (by simp)
        refine wpAnyZ_oneB 21 rfl (by kernel_rfl) (fun Kq hKq => ?_)
        go_simp
        refine hKq _ _ (fun _ => ⟨B4.cell 0 (by show 0 < 5; decide), cS _ (grown_trans G3 gA)⟩) ?_
        clear hKq Kq
        try simp only [List.getElem_toArray, List.getElem_cons_succ, List.getElem_cons_zero, Act.put, List.setIfInBounds_toArray, List.set_cons_zero, List.set_cons_succ]
        refine wpAnyZ_oneB 22 rfl (by kernel_rfl) (fun Kq hKq => ?_)
        refine step_psM w3 (w.heap.size + 1) (lmF S) rfl _ _ rfl (some ⟨gx, 0, none⟩) (i + 1) cx rfl O3 (by have := G3.size; have := B3.lt; omega) rfl (by omega) _ (by rw [eF.out]) ?_
        intro gy cy w5 O5 g5 hgy
        have ngx : gx ≠ w.heap.size := by have := O3.new gx rfl; omega
        have B5 := B3.keep g5 (fun e => ngx (Option.some.inj e).symm)
        have G5 : w.grownBy w5 none := grown_far G3 g5 (fun q e => by have := O3.new q e; omega)
        refine hKq _ _ (fun _ => ⟨B5.cell 0 (by show 0 < 5; decide), cS _ G5⟩) ?_
        clear hKq Kq
        try simp only [List.getElem_toArray, List.getElem_cons_succ, List.getElem_cons_zero, Act.put, List.setIfInBounds_toArray, List.set_cons_zero, List.set_cons_succ]
        refine wpAnyZ_take [24] 23 (.pointer (some ⟨w.heap.size, 0, none⟩)) rfl (by kernel_rfl) (fun _ _ _ h => h) ⟨B5.cell 0 (by show 0 < 5; decide), cS _ G5⟩ rfl (by rintro wz ⟨y1, y2⟩; go_simp) ?_
        try simp only [List.getElem_toArray, List.getElem_cons_succ, List.getElem_cons_zero, Act.put, List.setIfInBounds_toArray, List.set_cons_zero, List.set_cons_succ]
        have f5 := B5.free 0
        have c5 := B5.cell 0 (by show 0 < 5; decide)
        refine wpAnyZ_oneB 24 rfl (by kernel_rfl) (fun Kq hKq => ?_)
        go_simp
        refine hKq _ _ (fun e => absurd (by decide) e) ?_
        clear hKq Kq
        try simp only [List.getElem_toArray, List.getElem_cons_succ, List.getElem_cons_zero, Act.put, List.setIfInBounds_toArray, List.set_cons_zero, List.set_cons_succ]
        refine wpAnyZ_doneB (by kernel_rfl) ?_ _
        have g6 := grown_set w5 w.heap.size 0 (.slice (some ⟨gy, 0, none⟩) (i + 1 + 1) cy)
        have B6 : BxS (w5.setCell ⟨w.heap.size, 0, none⟩ (.slice (some ⟨gy, 0, none⟩) (i + 1 + 1) cy)) w.heap.size 24 #[.slice (some ⟨gy, 0, none⟩) (i + 1 + 1) cy, .int .i64 (si : Int), .int .i64 (1 + (mo : Int)), .int .i64 (1 + (wi : Int)), .string ⟨#[115, 97, 102, 101]⟩] := B5.set 0 _
        have ngy : gy ≠ w.heap.size := by have := O5.new gy rfl; omega
        have O6 := O5.kept g6 (.inr fun e => ngy (Option.some.inj e))
        have G6 := grown_far G5 g6 (fun q e => by have e : w.heap.size = q := Option.some.inj e; omega)
        generalize w5.setCell ⟨w.heap.size, 0, none⟩ (.slice (some ⟨gy, 0, none⟩) (i + 1 + 1) cy) = w6 at B6 O6 G6 ⊢
        go_wp2
        go_roundw
        case rel => exact ⟨i + 1, gy, cy, by omega, by omega, by go_num, B6, O6, G6⟩
        case measure => simp [intOf]; omega
      · have hff : (decide (i < fn) && decide (i < 8)) = false := by
          by_cases h : i < fn
          · rw [decide_eq_false (fun h8 => hgo ⟨h, h8⟩), Bool.and_false]
          · rw [decide_eq_false h]; rfl
        rw [hff]
        have hn9 : i + 1 ≤ 9 := by omega
        have hn1 : 1 ≤ i + 1 := by omega
        clear hff hgo
        generalize i + 1 = n at B2 O2 hn9 hn1
        have hF : ∀ j, j < n → MoR (lmF S j) := fun j hj => lmF_ok S j (by omega)
        have hE : (gfP (lmF S) n (si : Int) (1 + (mo : Int)) (1 + (wi : Int)) safB).1 = 0 := gfP_zero (by omega) hF (lmG_ok si mo wi b1 b2 b3)
        have M2 := O2.rd
        have kB : Calls Try.prog 8 #[.agg #[.slice (some ⟨gx, 0, none⟩) n cx, .int .i64 (si : Int), .int .i64 (1 + (mo : Int)), .int .i64 (1 + (wi : Int)), .string ⟨#[115, 97, 102, 101]⟩]] wr fun e w' => ∃ A : Va, e = .returned (.tuple #[.agg #[.bool false, .int .i64 (-1), .slice A.ab A.nb A.cb, .slice A.ap A.np A.cp, .int .i64 0, .slice A.at' A.nt A.ct], .int .i64 0]) ∧ OwVg w' wr.heap.size A (bgD 0 n) ∧ wr.grownBy w' none := by
          have := begin_any (some ⟨gx, 0, none⟩) n cx (si : Int) (1 + (mo : Int)) (1 + (wi : Int)) safB (lmF S) wr M2
          rw [hE] at this
          exact this
        obtain ⟨c0, c1, c2, c3, c4⟩ := B2.cell5
        have hi7 : i ≤ 8 := by omega
        clear hi1 hi2
        have t2 : True := trivial
        go_wp2_with (first
          | (go_at_call 8; have _t := t2; refine kB.mono ?_; clear t2; rintro e w5 ⟨A, rfl, hO5, g5⟩; have bv := BxS.new w5 29 #[.bool false, .int .i64 (-1), .slice A.ab A.nb A.cb, .slice A.ap A.np A.cp, .int .i64 0, .slice A.at' A.nt A.ct]; have gv5 := World.grownBy_alloc w5 (.cells #[.bool false, .int .i64 (-1), .slice A.ab A.nb A.cb, .slice A.ap A.np A.cp, .int .i64 0, .slice A.at' A.nt A.ct] 29) none; generalize hw6 : w5.alloc (.cells #[.bool false, .int .i64 (-1), .slice A.ab A.nb A.cb, .slice A.ap A.np A.cp, .int .i64 0, .slice A.at' A.nt A.ct] 29) = w6 at bv gv5; have d0 := bv.cell 0 (by show 0 < 6; decide); have e0 := (B2.keep (grown_trans g5 gv5) (by simp)).cell 0 (by show 0 < 5; decide); obtain ⟨x1, rI, AI, yI⟩ := run_mkX Try.elI rfl rfl n (by omega) w6))
        have hz6 : w6.heap.size = w5.heap.size + 1 := by rw [← hw6]; simp
        have hLT : LT wr x1 w5.heap.size w6.heap.size A (bgD 0 n) n (List.replicate n 0) none 0 0 [] := by
          refine ⟨grown_trans (grown_trans g5 gv5) yI, g5.size, by omega, bv.keep yI (by simp), (hO5.keep (grown_trans gv5 yI)).rd, ?_, AnsX.nil0 _ _ _⟩
          rw [show zys (List.replicate n 0) = List.replicate n (.int .i64 0) by simp [zys]]
          exact AI
        have hLI := LI.start (lmF S) n (si : Int) (1 + (wi : Int)) (((0 : Nat) : Int) - 1) (by omega) hF
        clear AI rI yI d0 e0 bv gv5 hO5 g5 kB c0 c1 c2 c3 c4 hw6 hz6
        generalize hgv : w5.heap.size = gv at *
        generalize hgl : w6.heap.size = gl at *
        clear hgv hgl
        generalize wr = wK at *
        go_loopw [17, 18, 19] (fun s17 s18 s19 wr => ∃ (k tn tc : Nat) (ta : Option Addr) (q : Int) (A : Va) (D : Vi) (L Ts : List Int), k ≤ ln ∧ s17 = .int .i64 q ∧ s18 = .slice ta tn tc ∧ s19 = .int .i64 (k : Int) ∧ LT wK wr gv gl A D n L ta tn tc Ts ∧ LI (lmF S) n (si : Int) (1 + (wi : Int)) D L Ts q ((k : Int) - 1) ∧ q ≤ (k : Int) ∧ tn ≤ 9 * k ∧ (∀ j, j < n → nthI L j ≤ (k : Int)) ∧ (∀ t, t ∈ Ts → 0 ≤ t)) (fun _ _ iv _ => ln - (intOf iv).toNat)
        case atStart =>
          refine ⟨0, 0, 0, none, 0, A, _, _, [], by omega, rfl, rfl, rfl, hLT, hLI, by omega, by omega, fun j hj => ?_, fun t h => by cases h⟩
          unfold nthI
          rw [List.getD_eq_getElem?_getD, List.getElem?_replicate]
          split <;> exact Int.le_refl _
        case round =>
          clear hLT hLI
          obtain ⟨k, tn, tc, ta, q, A, D, L, Ts, hk, rfl, rfl, rfl, hLT, hLI, hqk, htn, hLk, hTs⟩ := hrel
          by_cases hkl : k < ln
          · have hkli : (k : Int) < (ln : Int) := by omega
            obtain ⟨lb, lo, rfl, hlb, _⟩ := hK.at' (by omega)
            obtain ⟨k0, k1, k2⟩ := hK.three G2 k hkl
            have hKr := hK.row k hkl
            have hKb := hK.bnd k hkl
            have hgm : gx < wK.heap.size := (O2.own.lt gx rfl).2
            have hlbK : lb < wK.heap.size := Nat.lt_of_lt_of_le hlb G2.size
            go_upto_if 105 with fail
            go_cut [] from 102 to 105 (fun wx => wx = wr)
            case first =>
              go_wp2
              go_meet
              rfl
            case rest =>
              have hR9 := hcut.symm
              subst hR9
              apply_assumption
              go_big_unhide
              refine latch_tail19 lb lo ln lc w.heap.size gv gl gx cx k n tn tc (K k).vn (K k).vc si mo wi ta (K k).va q (K k).he (K k).le A D (lmF S) (K k).vs L Ts wK wr _ (fun x a a' w e h => by cases a; cases a'; cases e; exact h) hkl (by omega) (by omega) hll b1 b2 b3 hn9 hqk htn hlbK hgm B2 M2 hF hE k0 k1 k2 (hKr.keep G2) hKb hLT hLI hLk hTs ?_
              intro z10 z17 z18 z19 z20 z21 z22 z23 z24 z25 z26 z27 z28 z29 z30 z31 z32 z33 z106 z107 z108 z109 z110 z111 z112 z113 z114 z115 z116 z117 z118 z119 z120 z121 z122 z123 z124 z125 z126 z127 z128 z129 z130 z131 z132 z133 z134 z135 z136 z137 z138 z139 z140 z141 z142 z143 z144 z145 z146 z147 z148 z149 z150 z151 z152 z153 z154 z155 z156 z157 z158 z159 z160 z161 z162 z163 z164 z165 z166 z167 z168 z169 z170 z171 z172 z173 z174 z175 z176 z177 z178 z179 z180 z181 z182 z183 z184 z185 z186 z187 z188 z189 z190 z191 z192 z193 z194 z195 z196 z197 z198 z199 z200 z201 z202 z203 z204 z205 z206 z207 z208 z209 z210 z211 z212 z213 z214 z215 z216 z217 z218 z219 z220 z221 z222 z223 z224 z225 z226 z227 z228 z229 z230 z231 z232 z233 z234 z235 z236 z237 z238 z239 z240 z241 z242 z243 z244 z245 z246 z247 z248 z249 z250 z251 z252 z253 z254 z255 z256 z257 z258 z259 z260 z261 z262 z263 z264 z265 z266 z267 z268 z269 z270 z271 z272 z273 z274 z275 z276 z277 z278 z279 z280 z281 z282 z283 z284 z285 z286 z287 z288 z289 z290 z291 z292 z293 z294 z295 z296 z297 z298 z299 z300 z301 z302 z303 z304 z305 z306 z307 z308 z309 z310 z311 z312 z313 z314 z315 z316 z317 z318 z319 z320 z321 z322 z323 z324 z325 z326 z327 z328 z329 z330 z331 w' tn4 tc4 ta4 q4 A4 D4 L4 Ts4 p0 p1 p2 p3 p4 p5 p6 p7 p8
              subst p0
              subst p1
              subst p2
              simp only [Exit.then]
              refine ⟨?_, ?_⟩
              · repeat apply Exists.intro
                refine ⟨?_, rfl⟩
                exact ⟨k + 1, tn4, tc4, ta4, q4, A4, D4, L4, Ts4, by omega, rfl, rfl, by go_num, p3, by rw [show ((k + 1 : Nat) : Int) - 1 = (k : Int) by omega]; exact p4, by omega, by omega, fun j hj => by have := p7 j hj; omega, p8⟩
              · simp [intOf]; omega
          · have hkli : ¬ (k : Int) < (ln : Int) := by omega
            go_wp2
            go_ret
            exact ⟨rfl, grown_trans G2 hLT.gr⟩
end Go.Proofs.Ytkfgchngndppiaa
