import Derived.Test.YtnpkmjdlohdieaaURw
import Derived.Test.YtnpkmjdlohdieaaUSt
import Derived.Test.YtnpkmjdlohdieaaZSub
import Derived.Deep.DeepCutAuto
import Derived.Deep.CutBlock
namespace Go.Proofs.Ytnpkmjdlohdieaa
open Go.RowKit
set_option maxRecDepth 100000
set_option linter.unusedVariables false
set_option linter.unusedSimpArgs false

/-- an answer of VigilStep's kind, as it is read -/
def StR (w : World) (D' : Vi) (L : List ByteArray) (E : Nat) (e : Ending) (w' : World) : Prop :=
  ∃ (A' : Va) (na : Option Addr) (nn nc : Nat), e = .returned (.tuple #[.agg (vgA D' A'), .slice na nn nc, .int .i64 (E : Nat)]) ∧ RdVg w' A' D' ∧ AnsX 9 w' w.heap.size na nn nc (sts L) ∧ w.grownBy w' none
theorem StA.r {w w' : World} {D' : Vi} {L : List ByteArray} {E : Nat} {e : Ending} (h : StA w D' L E e w') : StR w D' L E e w' := by
  obtain ⟨A', na, nn, nc, he, hv, hn, hg⟩ := h
  exact ⟨A', na, nn, nc, he, hv.rd, hn, hg⟩
theorem str_ne {s : ByteArray} (h : ¬ s.size = 0) : s.toList.isEmpty = false ∧ ¬ s.toList = [] := by
  refine ⟨?_, fun h2 => h ((toList_nil s).1 h2)⟩
  cases h2 : s.toList with
  | nil => exact absurd ((toList_nil s).1 h2) h
  | cons _ _ => rfl
theorem nthI_mem (Nw : List Int) (k : Nat) (h : k < Nw.length) : nthI Nw k ∈ Nw := by
  unfold nthI
  rw [List.getD_eq_getElem?_getD, List.getElem?_eq_getElem h]
  exact List.getElem_mem _
set_option maxHeartbeats 32000000 in
theorem vs_names {u0 u1 u2 u3 u4 u7 u8 u9 u11 u12 u13 u14 u15 u17 u18 u20 u21 u22 u23 u24 u25 u26 u27 u28 u29 u30 u31 u32 u33 u34 u35 u36 u37 u38 u39 u40 u41 u42 u43 u44 u45 u46 u47 u48 u49 u50 u51 u52 u53 u54 u55 u56 u57 u58 u59 u60 u61 u62 u63 u64 u65 u66 u67 u68 u69 u70 u71 u72 u73 u74 u75 u76 u77 u78 u79 u80 u81 u82 u83 u84 u85 u86 u87 u88 u89 u90 u91 u92 u93 u94 u95 u96 u97 u98 u99 u100 u101 u102 u103 u104 u105 u106 u107 u108 u109 u110 u111 u112 u113 u114 u115 u116 u117 u118 u119 u120 u121 u122 u123 u124 u125 u126 u127 u128 u129 u130 u131 u132 u133 u134 u135 u136 u137 u138 u139 u140 u141 u142 u143 u144 u145 u146 u147 u148 u149 u150 u151 u152 u153 u154 u155 u156 u157 u158 u159 u160 u161 u162 u163 u164 u165 u166 u167 u168 u169 u170 u171 u172 u173 u174 u175 u176 u177 u178 u179 u180 u181 u182 u183 u184 u185 u186 u187 u188 u189 u190 u191 u192 u193 u194 u195 u196 u197 u198 u199 u200 u201 u202 u203 u204 u205 u206 u207 u208 u209 u210 u211 u212 u213 u214 u215 u216 u217 u218 u219 u220 u221 u222 u223 u224 u225 u226 u227 u228 u229 u230 u231 u232 u233 u234 u235 u236 u237 u238 u239 u240 u241 u242 u243 u244 u245 u246 u247 u248 u249 u250 u251 u252 u253 u254 u255 u256 u257 u258 u259 u260 u261 u262 u263 u264 u265 u266 u267 u268 u269 u270 u271 u272 u273 u274 u275 u276 u277 u278 u279 u280 u281 u282 u283 u284 u285 u286 u287 u288 u289 u290 u291 u292 u293 u294 u295 u296 u297 u298 u299 u300 u301 u302 u303 u304 u305 u306 u307 u308 u309 u310 u311 u312 u313 u314 : Value} (w w5 wx : World) (G : Gd) (F : Nat → Mo) (A : Va) (D : Vi) (B : Va) (E : Vi) (g gg gb gr : Nat) (na : Option Addr) (nn nc : Nat) (Nw : List Int) (t0 : BxS w5 gg 24 #[.slice G.ma G.n G.mc, .int .i64 G.si, .int .i64 G.mo, .int .i64 G.wi, .string G.sa]) (t1 : BxS w5 gb 29 #[.bool D.sf, .int .i64 D.wy, .slice A.ab A.nb A.cb, .slice A.ap A.np A.cp, .int .i64 D.qu, .slice A.at' A.nt A.ct]) (t2 : BxS w5 gr 29 #[.bool false, .int .i64 0, .slice none 0 0, .slice none 0 0, .int .i64 0, .slice none 0 0]) (hgr : w.heap.size ≤ gr) (G5 : w.grownBy w5 none) (hM : RdM w5 G.ma G.n G.mc F) (hn : G.n ≤ 32) (hNl : Nw.length ≤ 100) (hmem : ∀ z, z ∈ Nw → ∃ j : Nat, j < G.n ∧ z = (j : Int)) (hR : RW w5 wx g B E na nn nc Nw none 0 0 []) :
    Code.wp Try.prog (tailR 63 (Try.f14.body.getD .skip)) (bodyPost Try.prog Try.f14 (fun e w' => StR w E (naL F G.sa E.sf Nw (!D.sf)) 0 e w')) (Act.mk (List.toArray (u0 :: u1 :: u2 :: u3 :: u4 :: (.pointer (some ⟨gg, 0, none⟩)) :: (.pointer (some ⟨gb, 0, none⟩)) :: u7 :: u8 :: u9 :: (.pointer (some ⟨gr, 0, none⟩)) :: u11 :: u12 :: u13 :: u14 :: u15 :: (.pointer (some ⟨g, 0, none⟩)) :: u17 :: u18 :: (.slice na nn nc) :: u20 :: u21 :: u22 :: u23 :: u24 :: u25 :: u26 :: u27 :: u28 :: u29 :: u30 :: u31 :: u32 :: u33 :: u34 :: u35 :: u36 :: u37 :: u38 :: u39 :: u40 :: u41 :: u42 :: u43 :: u44 :: u45 :: u46 :: u47 :: u48 :: u49 :: u50 :: u51 :: u52 :: u53 :: u54 :: u55 :: u56 :: u57 :: u58 :: u59 :: u60 :: u61 :: u62 :: u63 :: u64 :: u65 :: u66 :: u67 :: u68 :: u69 :: u70 :: u71 :: u72 :: u73 :: u74 :: u75 :: u76 :: u77 :: u78 :: u79 :: u80 :: u81 :: u82 :: u83 :: u84 :: u85 :: u86 :: u87 :: u88 :: u89 :: u90 :: u91 :: u92 :: u93 :: u94 :: u95 :: u96 :: u97 :: u98 :: u99 :: u100 :: u101 :: u102 :: u103 :: u104 :: u105 :: u106 :: u107 :: u108 :: u109 :: u110 :: u111 :: u112 :: u113 :: u114 :: u115 :: u116 :: u117 :: u118 :: u119 :: u120 :: u121 :: u122 :: u123 :: u124 :: u125 :: u126 :: u127 :: u128 :: u129 :: u130 :: u131 :: u132 :: u133 :: u134 :: u135 :: u136 :: u137 :: u138 :: u139 :: u140 :: u141 :: u142 :: u143 :: u144 :: u145 :: u146 :: u147 :: u148 :: u149 :: u150 :: u151 :: u152 :: u153 :: u154 :: u155 :: u156 :: u157 :: u158 :: u159 :: u160 :: u161 :: u162 :: u163 :: u164 :: u165 :: u166 :: u167 :: u168 :: u169 :: u170 :: u171 :: u172 :: u173 :: u174 :: u175 :: u176 :: u177 :: u178 :: u179 :: u180 :: u181 :: u182 :: u183 :: u184 :: u185 :: u186 :: u187 :: u188 :: u189 :: u190 :: u191 :: u192 :: u193 :: u194 :: u195 :: u196 :: u197 :: u198 :: u199 :: u200 :: u201 :: u202 :: u203 :: u204 :: u205 :: u206 :: u207 :: u208 :: u209 :: u210 :: u211 :: u212 :: u213 :: u214 :: u215 :: u216 :: u217 :: u218 :: u219 :: u220 :: u221 :: u222 :: u223 :: u224 :: u225 :: u226 :: u227 :: u228 :: u229 :: u230 :: u231 :: u232 :: u233 :: u234 :: u235 :: u236 :: u237 :: u238 :: u239 :: u240 :: u241 :: u242 :: u243 :: u244 :: u245 :: u246 :: u247 :: u248 :: u249 :: u250 :: u251 :: u252 :: u253 :: u254 :: u255 :: u256 :: u257 :: u258 :: u259 :: u260 :: u261 :: u262 :: u263 :: u264 :: u265 :: u266 :: u267 :: u268 :: u269 :: u270 :: u271 :: u272 :: u273 :: u274 :: u275 :: u276 :: u277 :: u278 :: u279 :: u280 :: u281 :: u282 :: u283 :: u284 :: u285 :: u286 :: u287 :: u288 :: u289 :: u290 :: u291 :: u292 :: u293 :: u294 :: u295 :: u296 :: u297 :: u298 :: u299 :: u300 :: u301 :: u302 :: u303 :: u304 :: u305 :: u306 :: u307 :: u308 :: u309 :: u310 :: u311 :: u312 :: u313 :: u314 :: [])) []) wx := by
  let pq : Exit → Act → World → Prop := bodyPost Try.prog Try.f14 (fun _ _ => True)
  conv => enter [2]; whnf
  have i6 := Try.info_vg
  have HLF : Hid (Nw.length = nn) := by show _ = _; rw [← zys_length]; exact hR.n.len
  have hnn : nn ≤ 100 := by have := HLF.out; omega
  have hmm : maxLen ≤ 9223372036854775807 := by decide
  have HNL : Hid (naL F G.sa E.sf Nw (!D.sf) = (if (!D.sf && E.sf) = true then tlL G.sa else []) ++ naN F E.sf Nw nn) := by
    show _ = _
    unfold naL
    rw [HLF.out]
  obtain ⟨RL, HRL0⟩ : ∃ RL, naL F G.sa E.sf Nw (!D.sf) = RL := ⟨_, rfl⟩
  rw [HRL0] at HNL ⊢
  clear HRL0
  obtain ⟨P0, HP0⟩ : ∃ P0, P0 = (if (!D.sf && E.sf) = true then tlL G.sa else []) := ⟨_, rfl⟩
  rw [← HP0] at HNL
  have HP : Hid (P0 = (if (!D.sf && E.sf) = true then tlL G.sa else [])) := HP0
  have hP1 : P0.length ≤ 1 := by rw [HP0]; split; exact tlL_len _; simp
  clear HP0
  have hlen1 : Hid (∀ k, k ≤ 100 → (P0 ++ naN F E.sf Nw k).length ≤ 1000) := fun k hk => by
    have := naN_len F E.sf Nw k
    rw [List.length_append]; omega
  have q0 := t0.fz hR.L (fun h => by have := t0.lt; omega)
  have q1 := t1.fz hR.L (fun h => by have := t1.lt; omega)
  obtain ⟨c0, c1, c2, c3, c4⟩ := q0.cell5
  obtain ⟨e0, e1, e2, e3, e4, e5⟩ := q1.cell6
  have bx := hR.box
  unfold vgA at bx
  obtain ⟨d0, d1, d2, d3, d4, d5⟩ := bx.cell6
  have lw := hR.L.size
  obtain ⟨qq, Hqq0⟩ : ∃ qq : Bool, qq = (E.sf && !D.sf && !(decide (G.sa.size = 0))) := ⟨_, rfl⟩
  have Hqq : Hid (qq = (E.sf && !D.sf && !(decide (G.sa.size = 0)))) := Hqq0
  clear Hqq0
  go_upto_region 64 with fail
  go_cut [275] from 264 to 274 (fun s wy => s = .bool qq ∧ wy = wx)
  case first =>
    cases hE : E.sf
    · have HQ2 : Hid (qq = false) := by show _ = _; rw [Hqq.out, hE]; rfl
      rw [hE] at d0
      go_wp2
      go_meet
      exact ⟨by rw [HQ2.out], rfl⟩
    · rw [hE] at d0
      cases hD : D.sf
      · rw [hD] at e0
        by_cases h0 : G.sa.size = 0
        · have HQ2 : Hid (qq = false) := by show _ = _; rw [Hqq.out, hE, hD, decide_eq_true h0]; rfl
          have h1 := str_empty _ h0
          rw [h1] at c4
          clear h0
          go_wp2
          go_meet
          exact ⟨by rw [HQ2.out], rfl⟩
        · have HQ2 : Hid (qq = true) := by show _ = _; rw [Hqq.out, hE, hD, decide_eq_false h0]; rfl
          obtain ⟨hs1, hs2⟩ := str_ne h0
          clear h0
          go_wp2
          go_meet
          exact ⟨by rw [HQ2.out], rfl⟩
      · have HQ2 : Hid (qq = false) := by show _ = _; rw [Hqq.out, hE, hD]; rfl
        rw [hD] at e0
        go_wp2
        go_meet
        exact ⟨by rw [HQ2.out], rfl⟩
  case rest =>
  obtain ⟨hc1, hR9⟩ := hcut
  have hR9 := hR9.symm
  subst hR9
  subst hc1
  apply_assumption
  go_upto_if 275 with fail
  go_cut [26] from 276 to 280 (fun s wy => ∃ (sa : Option Addr) (sn sc : Nat), s = .slice sa sn sc ∧ RW w5 wy g B E na nn nc Nw sa sn sc P0)
  case first =>
    cases qq
    · have HP2 : P0 = [] := by
        rw [HP.out]
        have h := Hqq.out
        unfold tlL
        revert h
        cases E.sf <;> cases D.sf <;> by_cases h0 : G.sa.size = 0 <;> simp [h0]
      have HP2 : Hid _ := HP2
      go_wp2
      go_meet
      exact ⟨_, _, _, rfl, by rw [HP2.out]; exact hR⟩
    · have HP2 : P0 = [] ++ [G.sa] := by
        rw [HP.out]
        have h := Hqq.out
        unfold tlL
        revert h
        cases E.sf <;> cases D.sf <;> by_cases h0 : G.sa.size = 0 <;> simp [h0]
      have HP2 : Hid _ := HP2
      have vs := hR.s
      have s0 : True := trivial
      go_wp2_with (at_builtin; have _t := s0; clear s0; refine wpList_psX Try.elS wx (.string G.sa) rfl rfl _ _ rfl none 0 0 w5.heap.size (sts []) rfl vs lw rfl (by omega) ?_; intro gs cs w6 vs6 u6 hx6)
      have hRn := hR.newS (L' := [] ++ [G.sa]) (by rw [sts_app]; exact vs6) u6
      go_meet
      exact ⟨_, _, _, rfl, by rw [HP2.out]; exact hRn⟩
  case rest =>
    obtain ⟨sa1, sn1, sc1, hs1, hR1⟩ := hcut
    subst hs1
    apply_assumption
    clear c0 c1 c2 c3 c4 d0 d1 d2 d3 d4 d5 e0 e1 e2 e3 e4 e5 q0 q1 bx
    go_wp2
    go_loopw [26, 27] (fun sv iv wr => ∃ (k : Nat) (sa : Option Addr) (sn sc : Nat), iv = .int .i64 k ∧ k ≤ nn ∧ sv = .slice sa sn sc ∧ RW w5 wr g B E na nn nc Nw sa sn sc (P0 ++ naN F E.sf Nw k)) (fun _ iv _ => nn - (intOf iv).toNat)
    case atStart => exact ⟨0, sa1, sn1, sc1, by go_num, Nat.zero_le _, rfl, by rw [show P0 ++ naN F E.sf Nw 0 = P0 from List.append_nil _]; exact hR1⟩
    case round =>
      obtain ⟨k, sa, sn, sc, rfl, hk, rfl, hW⟩ := hrel
      clear hR1 hR
      have bx := hW.box
      unfold vgA at bx
      have q0 := t0.fz hW.L (fun h => by have := t0.lt; omega)
      have lw := hW.L.size
      by_cases hlt : k < nn
      · have hlt' : (k : Int) < (nn : Int) := by omega
        obtain ⟨fb, fo, efa, _, hfc⟩ := hW.n.rd.at' (by omega)
        have hmx := hW.n.rd.max
        have hml := hW.n.rd.le
        obtain ⟨j, hj, ej⟩ := hmem _ (nthI_mem Nw k (by rw [HLF.out]; exact hlt))
        have hj' : (j : Int) < (G.n : Int) := by omega
        have hMr := hM.lw hW.L
        obtain ⟨b, off, ema, hbw, _⟩ := hMr.at' (by omega)
        have hsn : sn ≤ 1000 := by
          have := hW.s.len
          rw [sts_len] at this
          rw [← this]
          exact hlen1.out k (by omega)
        have HX : Hid (naN F E.sf Nw (k + 1) = naN F E.sf Nw k ++ (if (!E.sf || (F j).ti == 3) = true then tlL (F j).th else [])) := by
          show _ = _
          simp only [naN]
          rw [ej, Int.toNat_natCast]
        have hcells : ∀ wz, wr.grownBy wz none → wz.cell? ⟨gg, 0, none⟩ = some (.slice (some ⟨b, off, none⟩) G.n G.mc) ∧ wz.cell? ⟨fb, fo + k, none⟩ = some (.int .i64 (j : Int)) ∧ wz.cell? ⟨b, off + j * 6, none⟩ = some (.int .i64 (F j).of') ∧ wz.cell? ⟨b, off + j * 6 + 1, none⟩ = some (.int .i64 (F j).lo) ∧ wz.cell? ⟨b, off + j * 6 + 2, none⟩ = some (.int .i64 (F j).hi) ∧ wz.cell? ⟨b, off + j * 6 + 3, none⟩ = some (.int .i64 (F j).fr) ∧ wz.cell? ⟨b, off + j * 6 + 4, none⟩ = some (.int .i64 (F j).ti) ∧ wz.cell? ⟨b, off + j * 6 + 5, none⟩ = some (.string (F j).th) := by
          intro wz hz
          have hMz := hMr.keep hz
          rw [ema] at hMz
          obtain ⟨c0, _, _, _, _⟩ := (q0.keep hz (by simp)).cell5
          rw [ema] at c0
          obtain ⟨fb2, fo2, efa2, _, hfc2⟩ := (hW.keep hz).n.rd.at' (by omega)
          rw [efa] at efa2
          cases efa2
          have ck := hfc2 k _ (zys_at Nw k (by rw [HLF.out]; exact hlt))
          rw [ej] at ck
          exact ⟨c0, ck, hMz.six j hj⟩
        have hWk := fun wz (hz : wr.grownBy wz none) => hW.keep hz
        subst efa
        clear hMr ej hfc ema hM hmem q0
        generalize F j = mm at *
        obtain ⟨mof, mlo, mhi, mfr, mti, mth⟩ := mm
        dsimp only at hcells HX
        go_wp2
        have S0 := grown_drew wr none
        refine wp_regionL (fun wz => wr.grownBy wz none) [9] #[false, false, false, false, false, false, false, false, false, false] rfl (by kernel_rfl) ?_
        refine wpAnyZ_take [9] 0 (.pointer (some ⟨gg, 0, none⟩)) rfl (by kernel_rfl) (fun _ _ _ h => h) S0 rfl (by intro wz hz; obtain ⟨x0, x1, x2, x3, x4, x5, x6, x7⟩ := hcells wz hz; go_simp) ?_
        try simp only [List.getElem_toArray, List.getElem_cons_succ, List.getElem_cons_zero, Act.put, List.setIfInBounds_toArray, List.set_cons_zero, List.set_cons_succ]
        refine wpAnyZ_take [9] 1 (.slice (some ⟨b, off, none⟩) G.n G.mc) rfl (by kernel_rfl) (fun _ _ _ h => h) S0 rfl (by intro wz hz; obtain ⟨x0, x1, x2, x3, x4, x5, x6, x7⟩ := hcells wz hz; go_simp) ?_
        try simp only [List.getElem_toArray, List.getElem_cons_succ, List.getElem_cons_zero, Act.put, List.setIfInBounds_toArray, List.set_cons_zero, List.set_cons_succ]
        refine wpAnyZ_take [9] 2 (.slice (some ⟨fb, fo, none⟩) nn nc) rfl (by kernel_rfl) (fun _ _ _ h => h) S0 rfl (by intro wz hz; obtain ⟨x0, x1, x2, x3, x4, x5, x6, x7⟩ := hcells wz hz; go_simp) ?_
        try simp only [List.getElem_toArray, List.getElem_cons_succ, List.getElem_cons_zero, Act.put, List.setIfInBounds_toArray, List.set_cons_zero, List.set_cons_succ]
        refine wpAnyZ_take [9] 3 (.int .i64 (k : Int)) rfl (by kernel_rfl) (fun _ _ _ h => h) S0 rfl (by intro wz hz; obtain ⟨x0, x1, x2, x3, x4, x5, x6, x7⟩ := hcells wz hz; go_simp) ?_
        try simp only [List.getElem_toArray, List.getElem_cons_succ, List.getElem_cons_zero, Act.put, List.setIfInBounds_toArray, List.set_cons_zero, List.set_cons_succ]
        refine wpAnyZ_take [9] 4 (.pointer (some ⟨fb, fo + k, none⟩)) rfl (by kernel_rfl) (fun _ _ _ h => h) S0 rfl (by intro wz hz; obtain ⟨x0, x1, x2, x3, x4, x5, x6, x7⟩ := hcells wz hz; go_simp) ?_
        try simp only [List.getElem_toArray, List.getElem_cons_succ, List.getElem_cons_zero, Act.put, List.setIfInBounds_toArray, List.set_cons_zero, List.set_cons_succ]
        refine wpAnyZ_take [9] 5 (.int .i64 (j : Int)) rfl (by kernel_rfl) (fun _ _ _ h => h) S0 rfl (by intro wz hz; obtain ⟨x0, x1, x2, x3, x4, x5, x6, x7⟩ := hcells wz hz; go_simp) ?_
        try simp only [List.getElem_toArray, List.getElem_cons_succ, List.getElem_cons_zero, Act.put, List.setIfInBounds_toArray, List.set_cons_zero, List.set_cons_succ]
        refine wpAnyZ_take [9] 6 (.pointer (some ⟨b, off + j * 6, none⟩)) rfl (by kernel_rfl) (fun _ _ _ h => h) S0 rfl (by intro wz hz; obtain ⟨x0, x1, x2, x3, x4, x5, x6, x7⟩ := hcells wz hz; go_simp) ?_
        try simp only [List.getElem_toArray, List.getElem_cons_succ, List.getElem_cons_zero, Act.put, List.setIfInBounds_toArray, List.set_cons_zero, List.set_cons_succ]
        refine wpAnyZ_take [9] 7 (.agg #[.int .i64 mof, .int .i64 mlo, .int .i64 mhi, .int .i64 mfr, .int .i64 mti, .string mth]) rfl (by kernel_rfl) (fun _ _ _ h => h) S0 rfl (by intro wz hz; obtain ⟨x0, x1, x2, x3, x4, x5, x6, x7⟩ := hcells wz hz; go_simp) ?_
        try simp only [List.getElem_toArray, List.getElem_cons_succ, List.getElem_cons_zero, Act.put, List.setIfInBounds_toArray, List.set_cons_zero, List.set_cons_succ]
        refine wpAnyZ_oneB 8 rfl (by kernel_rfl) (fun K hK => ?_)
        go_simp
        have S1 := grown_trans S0 (World.grownBy_alloc wr.drew (.cells #[.int .i64 0, .int .i64 0, .int .i64 0, .int .i64 0, .int .i64 0, .string ⟨#[]⟩] 51) none)
        have bm0 := BxS.new wr.drew 51 #[.int .i64 0, .int .i64 0, .int .i64 0, .int .i64 0, .int .i64 0, .string ⟨#[]⟩]
        refine hK _ _ (fun _ => S1) ?_
        try simp only [List.getElem_toArray, List.getElem_cons_succ, List.getElem_cons_zero, Act.put, List.setIfInBounds_toArray, List.set_cons_zero, List.set_cons_succ]
        refine wpAnyZ_oneB 9 rfl (by kernel_rfl) (fun K hK => ?_)
        refine step_stX _ rfl 51 (.tmp 28) (.tmp 294) rfl _ _ _ rfl rfl bm0 (by kernel_rfl) rfl (by simp [Value.oneCell']) ?_
        intro wm bm gm
        refine hK _ _ (fun h => absurd (by decide) h) ?_
        try simp only [List.getElem_toArray, List.getElem_cons_succ, List.getElem_cons_zero, Act.put, List.setIfInBounds_toArray, List.set_cons_zero, List.set_cons_succ]
        refine wpAnyZ_doneB (by kernel_rfl) ?_ _
        have Gm : wr.grownBy wm none := grown_far S1 gm (fun q e => by have e : wr.drew.heap.size = q := Option.some.inj e; have : wr.drew.heap.size = wr.heap.size := rfl; omega)
        have hWm := hWk wm Gm
        clear hcells hWk S0 S1 bm0 gm hW bx
        generalize hgm : wr.drew.heap.size = gmx at *
        obtain ⟨m0, m1, m2, m3, m4, m5⟩ := bm.cell6
        have bx := hWm.box
        unfold vgA at bx
        obtain ⟨d0, d1, d2, d3, d4, d5⟩ := bx.cell6
        have vs := hWm.s
        have lwm := hWm.L.size
        by_cases h0 : mth.size = 0
        · have h1 := str_empty _ h0
          subst h1
          have HX : Hid (naN F E.sf Nw (k + 1) = naN F E.sf Nw k ++ []) := by
            show _ = _
            rw [HX.out]
            unfold tlL
            split <;> rfl
          clear h0
          go_wp2
          go_roundw
          case rel => exact ⟨k + 1, sa, sn, sc, by go_num, by omega, rfl, by rw [HX.out, List.append_nil]; exact hWm⟩
          case measure => simp [intOf]; omega
        · cases hE : E.sf
          · rw [hE] at d0
            have HX : Hid (naN F E.sf Nw (k + 1) = naN F E.sf Nw k ++ [mth]) := by
              show _ = _
              rw [HX.out, hE]
              unfold tlL
              rw [if_neg h0]; rfl
            obtain ⟨hs1, hs2⟩ := str_ne h0
            clear h0
            have s0 : True := trivial
            go_wp2_with (at_builtin; have _t := s0; clear s0; refine wpList_psX Try.elS wm (.string mth) rfl rfl _ _ rfl sa sn sc w5.heap.size (sts (P0 ++ naN F E.sf Nw k)) rfl vs lwm rfl (by omega) ?_; intro gs cs w6 vs6 u6 hx6)
            have hRn := hWm.newS (L' := (P0 ++ naN F E.sf Nw k) ++ [mth]) (by rw [sts_app]; exact vs6) u6
            go_roundw
            case rel => exact ⟨k + 1, _, _, _, by go_num, by omega, rfl, by rw [HX.out, ← List.append_assoc]; exact hRn⟩
            case measure => simp [intOf]; omega
          · rw [hE] at d0
            by_cases h3 : mti = 3
            · subst h3
              have HX : Hid (naN F E.sf Nw (k + 1) = naN F E.sf Nw k ++ [mth]) := by
                show _ = _
                rw [HX.out, hE]
                unfold tlL
                rw [if_neg h0]; rfl
              obtain ⟨hs1, hs2⟩ := str_ne h0
              clear h0
              have s0 : True := trivial
              go_wp2_with (at_builtin; have _t := s0; clear s0; refine wpList_psX Try.elS wm (.string mth) rfl rfl _ _ rfl sa sn sc w5.heap.size (sts (P0 ++ naN F E.sf Nw k)) rfl vs lwm rfl (by omega) ?_; intro gs cs w6 vs6 u6 hx6)
              have hRn := hWm.newS (L' := (P0 ++ naN F E.sf Nw k) ++ [mth]) (by rw [sts_app]; exact vs6) u6
              go_roundw
              case rel => exact ⟨k + 1, _, _, _, by go_num, by omega, rfl, by rw [HX.out, ← List.append_assoc]; exact hRn⟩
              case measure => simp [intOf]; omega
            · have h3' : (mti == 3) = false := beq_false_of_ne h3
              have HX : Hid (naN F E.sf Nw (k + 1) = naN F E.sf Nw k ++ []) := by
                show _ = _
                rw [HX.out, hE, h3']; rfl
              obtain ⟨hs1, hs2⟩ := str_ne h0
              clear h0
              go_wp2
              go_roundw
              case rel => exact ⟨k + 1, sa, sn, sc, by go_num, by omega, rfl, by rw [HX.out, List.append_nil]; exact hWm⟩
              case measure => simp [intOf]; omega
      · have hlt' : ¬ (k : Int) < (nn : Int) := by omega
        obtain rfl : k = nn := by omega
        have q2 := t2.fz hW.L (fun h => by have := t2.lt; omega)
        have s3 : True := trivial
        rw [← HNL.out] at hW
        obtain ⟨d0, d1, d2, d3, d4, d5⟩ := bx.cell6
        go_wp2_with (have _t := s3; clear s3; refine wpList_stX _ rfl _ (.tmp 10) (.tmp 313) rfl gr _ _ rfl rfl q2 i6 rfl (by simp [Value.oneCell']) ?_; intro w9 b9 g9)
        refine bodyPost_ret (results_cell3s rfl _ _ _ ⟨gr, 0, none⟩ _ (.slice sa sn sc) (.int .i64 0) rfl (BxS.load (t := 29) b9 Try.underlying29 i6) rfl rfl) rfl ?_
        have hgl := t2.lt
        have hlo := G5.size
        have fz : ∀ i, w5.heap.size ≤ i → some gr ≠ some i := fun i h e => by have e : gr = i := Option.some.inj e; omega
        refine ⟨B, sa, sn, sc, rfl, ⟨(hW.b.kept g9 (ne_of_some (fun x e e2 => fz x (hW.b.new x e) e2))).rd, (hW.p.kept g9 (ne_of_some (fun x e e2 => fz x (hW.p.new x e) e2))).rd, (hW.t.kept g9 (fun y o e e2 => fz y (hW.t.bl_ty y ⟨o, none, e⟩).1 e2)).rd⟩, (hW.s.kept g9 (ne_of_some (fun x e e2 => fz x (hW.s.new x e) e2))).low hlo, ?_⟩
        exact grown_far (Fz.grown G5 hW.L (fun i h => by omega)) g9 (fun q e => by have e : gr = q := Option.some.inj e; omega)

/-- the first monitor of tier 3 among those from k on -/
def fdK (F : Nat → Mo) (Nw : List Int) (k : Nat) : Option Int := (Nw.drop k).find? (fun z => (F z.toNat).ti == 3)
theorem fdK_end (F : Nat → Mo) (Nw : List Int) : fdK F Nw Nw.length = none := by simp [fdK]
theorem fdK_step (F : Nat → Mo) (Nw : List Int) (k : Nat) (h : k < Nw.length) : fdK F Nw k = if (F (nthI Nw k).toNat).ti = 3 then some (nthI Nw k) else fdK F Nw (k + 1) := by
  have e : nthI Nw k = Nw[k] := by unfold nthI; rw [List.getD_eq_getElem?_getD, List.getElem?_eq_getElem h]; rfl
  unfold fdK
  rw [List.drop_eq_getElem_cons h, List.find?_cons, ← e]
  by_cases h3 : (F (nthI Nw k).toNat).ti = 3
  · rw [if_pos h3, h3]; rfl
  · rw [if_neg h3, beq_false_of_ne h3]
theorem fdK_mem (F : Nat → Mo) (Nw : List Int) (k : Nat) (z : Int) (h : fdK F Nw k = some z) : z ∈ Nw := List.mem_of_mem_drop (List.mem_of_find?_eq_some h)
/-- what the vigil is while the monitors are gone through, the last first -/
def bkV (F : Nat → Mo) (Nw : List Int) (E : Vi) (k : Nat) : Vi := ⟨(fdK F Nw k).isSome, (fdK F Nw k).getD (-1), E.bd, E.tp, E.qu, E.tr⟩
/-- the first piece of two -/
def headS : Code → Code
  | .seq a _ => a
  | c => c
theorem rs_some (F : Nat → Mo) (Nw : List Int) (tl : Nat) (G : Gd) (qu : Int) (z : Int) (h : fdK F Nw 0 = some z) : rsI F Nw tl G qu = z := by
  unfold fdK at h
  rw [List.drop_zero] at h
  unfold rsI
  rw [h]
theorem rs_none (F : Nat → Mo) (Nw : List Int) (tl : Nat) (G : Gd) (qu : Int) (h : fdK F Nw 0 = none) : rsI F Nw tl G qu = if G.mo ≤ (tl : Int) then -3 else if 0 < G.si ∧ qu = G.si then -2 else -1 := by
  unfold fdK at h
  rw [List.drop_zero] at h
  unfold rsI
  rw [h]
set_option maxHeartbeats 64000000 in
theorem vs_if {u0 u1 u2 u7 u8 u9 u11 u12 u13 u14 u15 u18 u20 u21 u22 u23 u24 u25 u26 u27 u28 u29 u30 u31 u32 u33 u34 u35 u36 u37 u38 u39 u40 u41 u42 u43 u44 u45 u46 u47 u48 u49 u50 u51 u52 u53 u54 u55 u56 u57 u58 u59 u60 u61 u62 u63 u64 u65 u66 u67 u68 u69 u70 u71 u72 u73 u74 u75 u76 u77 u78 u79 u80 u81 u82 u83 u84 u85 u86 u87 u88 u89 u90 u91 u92 u93 u94 u95 u96 u97 u98 u99 u100 u101 u102 u103 u104 u105 u106 u107 u108 u109 u110 u111 u112 u113 u114 u115 u116 u117 u118 u119 u120 u121 u122 u123 u124 u125 u126 u127 u128 u129 u130 u131 u132 u133 u134 u135 u136 u137 u138 u139 u140 u141 u142 u143 u144 u145 u146 u147 u148 u149 u150 u151 u152 u153 u154 u155 u156 u157 u158 u159 u160 u161 u162 u163 u164 u165 u166 u167 u168 u169 u170 u171 u172 u173 u174 u175 u176 u177 u178 u179 u180 u181 u182 u183 u184 u185 u186 u187 u188 u189 u190 u191 u192 u193 u194 u195 u196 u197 u198 u199 u200 u201 u202 u203 u204 u205 u206 u207 u208 u209 u210 u211 u212 u213 u214 u215 u216 u217 u218 u219 u220 u221 u222 u223 u224 u225 u226 u227 u228 u229 u230 u231 u232 u233 u234 u235 u236 u237 u238 u239 u240 u241 u242 u243 u244 u245 u246 u247 u248 u249 u250 u251 u252 u253 u254 u255 u256 u257 u258 u259 u260 u261 u262 u263 u264 u265 u266 u267 u268 u269 u270 u271 u272 u273 u274 u275 u276 u277 u278 u279 u280 u281 u282 u283 u284 u285 u286 u287 u288 u289 u290 u291 u292 u293 u294 u295 u296 u297 u298 u299 u300 u301 u302 u303 u304 u305 u306 u307 u308 u309 u310 u311 u312 u313 u314 : Value} (w w5 wx : World) (G : Gd) (F : Nat → Mo) (A : Va) (D : Vi) (B : Va) (E : Vi) (g gg gb gr : Nat) (na : Option Addr) (nn nc : Nat) (Nw : List Int) (t0 : BxS w5 gg 24 #[.slice G.ma G.n G.mc, .int .i64 G.si, .int .i64 G.mo, .int .i64 G.wi, .string G.sa]) (t1 : BxS w5 gb 29 #[.bool D.sf, .int .i64 D.wy, .slice A.ab A.nb A.cb, .slice A.ap A.np A.cp, .int .i64 D.qu, .slice A.at' A.nt A.ct]) (t2 : BxS w5 gr 29 #[.bool false, .int .i64 0, .slice none 0 0, .slice none 0 0, .int .i64 0, .slice none 0 0]) (hgr : w.heap.size ≤ gr) (G5 : w.grownBy w5 none) (hM : RdM w5 G.ma G.n G.mc F) (hn : G.n ≤ 32) (hNl : Nw.length ≤ 100) (hmem : ∀ z, z ∈ Nw → ∃ j : Nat, j < G.n ∧ z = (j : Int)) (ta : Option Addr) (tn tc : Nat) (he le : Bool) (hsf : E.sf = D.sf) (hwy : D.sf = false → E.wy = -1) (hnp : B.np ≤ 32) (hR : RW w5 wx g B E na nn nc Nw none 0 0 []) (Q : Exit → Act → World → Prop)
    (hQ : ∀ (z23 z24 z25 z184 z185 z186 z187 z188 z189 z190 z191 z192 z193 z194 z195 z196 z197 z198 z199 z200 z201 z202 z203 z204 z205 z206 z207 z208 z209 z210 z211 z212 z213 z214 z215 z216 z217 z218 z219 z220 z221 z222 z223 z224 z225 z226 z227 z228 z229 z230 z231 z232 z233 z234 z235 z236 z237 z238 z239 z240 z241 z242 z243 z244 z245 z246 z247 z248 z249 z250 z251 z252 z253 z254 z255 z256 z257 z258 z259 z260 z261 z262 z263 : Value) (wy : World) (B' : Va), RW w5 wy g B' (fiV F G E Nw he le) na nn nc Nw none 0 0 [] → Q .normal (Act.mk (List.toArray (u0 :: u1 :: u2 :: (.bool he) :: (.bool le) :: (.pointer (some ⟨gg, 0, none⟩)) :: (.pointer (some ⟨gb, 0, none⟩)) :: u7 :: u8 :: u9 :: (.pointer (some ⟨gr, 0, none⟩)) :: u11 :: u12 :: u13 :: u14 :: u15 :: (.pointer (some ⟨g, 0, none⟩)) :: (.slice ta tn tc) :: u18 :: (.slice na nn nc) :: u20 :: u21 :: u22 :: z23 :: z24 :: z25 :: u26 :: u27 :: u28 :: u29 :: u30 :: u31 :: u32 :: u33 :: u34 :: u35 :: u36 :: u37 :: u38 :: u39 :: u40 :: u41 :: u42 :: u43 :: u44 :: u45 :: u46 :: u47 :: u48 :: u49 :: u50 :: u51 :: u52 :: u53 :: u54 :: u55 :: u56 :: u57 :: u58 :: u59 :: u60 :: u61 :: u62 :: u63 :: u64 :: u65 :: u66 :: u67 :: u68 :: u69 :: u70 :: u71 :: u72 :: u73 :: u74 :: u75 :: u76 :: u77 :: u78 :: u79 :: u80 :: u81 :: u82 :: u83 :: u84 :: u85 :: u86 :: u87 :: u88 :: u89 :: u90 :: u91 :: u92 :: u93 :: u94 :: u95 :: u96 :: u97 :: u98 :: u99 :: u100 :: u101 :: u102 :: u103 :: u104 :: u105 :: u106 :: u107 :: u108 :: u109 :: u110 :: u111 :: u112 :: u113 :: u114 :: u115 :: u116 :: u117 :: u118 :: u119 :: u120 :: u121 :: u122 :: u123 :: u124 :: u125 :: u126 :: u127 :: u128 :: u129 :: u130 :: u131 :: u132 :: u133 :: u134 :: u135 :: u136 :: u137 :: u138 :: u139 :: u140 :: u141 :: u142 :: u143 :: u144 :: u145 :: u146 :: u147 :: u148 :: u149 :: u150 :: u151 :: u152 :: u153 :: u154 :: u155 :: u156 :: u157 :: u158 :: u159 :: u160 :: u161 :: u162 :: u163 :: u164 :: u165 :: u166 :: u167 :: u168 :: u169 :: u170 :: u171 :: u172 :: u173 :: u174 :: u175 :: u176 :: u177 :: u178 :: u179 :: u180 :: u181 :: u182 :: u183 :: z184 :: z185 :: z186 :: z187 :: z188 :: z189 :: z190 :: z191 :: z192 :: z193 :: z194 :: z195 :: z196 :: z197 :: z198 :: z199 :: z200 :: z201 :: z202 :: z203 :: z204 :: z205 :: z206 :: z207 :: z208 :: z209 :: z210 :: z211 :: z212 :: z213 :: z214 :: z215 :: z216 :: z217 :: z218 :: z219 :: z220 :: z221 :: z222 :: z223 :: z224 :: z225 :: z226 :: z227 :: z228 :: z229 :: z230 :: z231 :: z232 :: z233 :: z234 :: z235 :: z236 :: z237 :: z238 :: z239 :: z240 :: z241 :: z242 :: z243 :: z244 :: z245 :: z246 :: z247 :: z248 :: z249 :: z250 :: z251 :: z252 :: z253 :: z254 :: z255 :: z256 :: z257 :: z258 :: z259 :: z260 :: z261 :: z262 :: z263 :: u264 :: u265 :: u266 :: u267 :: u268 :: u269 :: u270 :: u271 :: u272 :: u273 :: u274 :: u275 :: u276 :: u277 :: u278 :: u279 :: u280 :: u281 :: u282 :: u283 :: u284 :: u285 :: u286 :: u287 :: u288 :: u289 :: u290 :: u291 :: u292 :: u293 :: u294 :: u295 :: u296 :: u297 :: u298 :: u299 :: u300 :: u301 :: u302 :: u303 :: u304 :: u305 :: u306 :: u307 :: u308 :: u309 :: u310 :: u311 :: u312 :: u313 :: u314 :: [])) []) wy) :
    Code.wp Try.prog (headS (tailR 40 (Try.f14.body.getD .skip))) Q (Act.mk (List.toArray (u0 :: u1 :: u2 :: (.bool he) :: (.bool le) :: (.pointer (some ⟨gg, 0, none⟩)) :: (.pointer (some ⟨gb, 0, none⟩)) :: u7 :: u8 :: u9 :: (.pointer (some ⟨gr, 0, none⟩)) :: u11 :: u12 :: u13 :: u14 :: u15 :: (.pointer (some ⟨g, 0, none⟩)) :: (.slice ta tn tc) :: u18 :: (.slice na nn nc) :: u20 :: u21 :: u22 :: u23 :: u24 :: u25 :: u26 :: u27 :: u28 :: u29 :: u30 :: u31 :: u32 :: u33 :: u34 :: u35 :: u36 :: u37 :: u38 :: u39 :: u40 :: u41 :: u42 :: u43 :: u44 :: u45 :: u46 :: u47 :: u48 :: u49 :: u50 :: u51 :: u52 :: u53 :: u54 :: u55 :: u56 :: u57 :: u58 :: u59 :: u60 :: u61 :: u62 :: u63 :: u64 :: u65 :: u66 :: u67 :: u68 :: u69 :: u70 :: u71 :: u72 :: u73 :: u74 :: u75 :: u76 :: u77 :: u78 :: u79 :: u80 :: u81 :: u82 :: u83 :: u84 :: u85 :: u86 :: u87 :: u88 :: u89 :: u90 :: u91 :: u92 :: u93 :: u94 :: u95 :: u96 :: u97 :: u98 :: u99 :: u100 :: u101 :: u102 :: u103 :: u104 :: u105 :: u106 :: u107 :: u108 :: u109 :: u110 :: u111 :: u112 :: u113 :: u114 :: u115 :: u116 :: u117 :: u118 :: u119 :: u120 :: u121 :: u122 :: u123 :: u124 :: u125 :: u126 :: u127 :: u128 :: u129 :: u130 :: u131 :: u132 :: u133 :: u134 :: u135 :: u136 :: u137 :: u138 :: u139 :: u140 :: u141 :: u142 :: u143 :: u144 :: u145 :: u146 :: u147 :: u148 :: u149 :: u150 :: u151 :: u152 :: u153 :: u154 :: u155 :: u156 :: u157 :: u158 :: u159 :: u160 :: u161 :: u162 :: u163 :: u164 :: u165 :: u166 :: u167 :: u168 :: u169 :: u170 :: u171 :: u172 :: u173 :: u174 :: u175 :: u176 :: u177 :: u178 :: u179 :: u180 :: u181 :: u182 :: u183 :: u184 :: u185 :: u186 :: u187 :: u188 :: u189 :: u190 :: u191 :: u192 :: u193 :: u194 :: u195 :: u196 :: u197 :: u198 :: u199 :: u200 :: u201 :: u202 :: u203 :: u204 :: u205 :: u206 :: u207 :: u208 :: u209 :: u210 :: u211 :: u212 :: u213 :: u214 :: u215 :: u216 :: u217 :: u218 :: u219 :: u220 :: u221 :: u222 :: u223 :: u224 :: u225 :: u226 :: u227 :: u228 :: u229 :: u230 :: u231 :: u232 :: u233 :: u234 :: u235 :: u236 :: u237 :: u238 :: u239 :: u240 :: u241 :: u242 :: u243 :: u244 :: u245 :: u246 :: u247 :: u248 :: u249 :: u250 :: u251 :: u252 :: u253 :: u254 :: u255 :: u256 :: u257 :: u258 :: u259 :: u260 :: u261 :: u262 :: u263 :: u264 :: u265 :: u266 :: u267 :: u268 :: u269 :: u270 :: u271 :: u272 :: u273 :: u274 :: u275 :: u276 :: u277 :: u278 :: u279 :: u280 :: u281 :: u282 :: u283 :: u284 :: u285 :: u286 :: u287 :: u288 :: u289 :: u290 :: u291 :: u292 :: u293 :: u294 :: u295 :: u296 :: u297 :: u298 :: u299 :: u300 :: u301 :: u302 :: u303 :: u304 :: u305 :: u306 :: u307 :: u308 :: u309 :: u310 :: u311 :: u312 :: u313 :: u314 :: [])) []) wx := by
  let pq : Exit → Act → World → Prop := bodyPost Try.prog Try.f14 (fun _ _ => True)
  conv => enter [2]; whnf
  have i6 := Try.info_vg
  have hmm : maxLen ≤ 9223372036854775807 := by decide
  have q0 := t0.fz hR.L (fun h => by have := t0.lt; omega)
  have q1 := t1.fz hR.L (fun h => by have := t1.lt; omega)
  obtain ⟨e0, e1, e2, e3, e4, e5⟩ := q1.cell6
  have bx := hR.box
  unfold vgA at bx
  obtain ⟨d0, d1, d2, d3, d4, d5⟩ := bx.cell6
  cases hD : D.sf
  · have hwy := hwy hD
    have hsf : E.sf = false := hsf.trans hD
    have HFV : Hid (fiV F G E Nw he le = ⟨rsI F Nw E.tr.length G E.qu != -1, rsI F Nw E.tr.length G E.qu, E.bd, E.tp, E.qu, E.tr⟩) := if_neg (by rw [hsf]; simp)
    rw [HFV.out] at hQ
    have HQ : Hid _ := hQ
    clear hQ HFV
    have HLF : Hid (Nw.length = nn) := by show _ = _; rw [← zys_length]; exact hR.n.len
    have hnn : nn ≤ 100 := by have := HLF.out; omega
    have HTL : Hid (E.tr.length = B.nt) := by show _ = _; have := hR.t.len; exact this
    have hRs : RW w5 wx g B (bkV F Nw E nn) na nn nc Nw none 0 0 [] := by
      have e : bkV F Nw E nn = E := by
        unfold bkV
        rw [← HLF.out, fdK_end]
        show (⟨false, -1, E.bd, E.tp, E.qu, E.tr⟩ : Vi) = E
        rw [← hsf, ← hwy]
      rw [e]; exact hR
    clear hR hsf hwy
    rw [hD] at e0
    go_upto_block 6 with fail
    clear e0 e1 e2 e3 e4 e5 q1 d0 d1 d2 d3 d4 d5 bx
    go_cut [23] from 190 to 209 (fun s wy => RW w5 wy g B (bkV F Nw E 0) na nn nc Nw none 0 0 [])
    case first =>
      go_wp2
      go_loopw [23] (fun iv wr => ∃ k : Nat, iv = .int .i64 ((k : Int) - 1) ∧ k ≤ nn ∧ RW w5 wr g B (bkV F Nw E k) na nn nc Nw none 0 0 []) (fun iv _ => ((intOf iv) + 1).toNat)
      case atStart => exact ⟨nn, by go_num, Nat.le_refl _, hRs⟩
      case round =>
        obtain ⟨k, rfl, hk, hW⟩ := hrel
        clear hRs
        have bx := hW.box
        unfold vgA bkV at bx
        dsimp only at bx
        obtain ⟨d0, d1, d2, d3, d4, d5⟩ := bx.cell6
        have q0 := t0.fz hW.L (fun h => by have := t0.lt; omega)
        obtain ⟨c0, c1, c2, c3, c4⟩ := q0.cell5
        cases k with
        | zero =>
          go_wp2
          go_meet
          exact hW
        | succ k =>
          have ek : ((k + 1 : Nat) : Int) - 1 = (k : Int) := by omega
          rw [ek]
          have hlt : k < nn := by omega
          have hlt' : (k : Int) < (nn : Int) := by omega
          have hk0 : (0 : Int) ≤ (k : Int) := by omega
          obtain ⟨fb, fo, efa, _, hfc⟩ := hW.n.rd.at' (by omega)
          have ck := hfc k _ (zys_at Nw k (by rw [HLF.out]; exact hlt))
          have hmx := hW.n.rd.max
          have hml := hW.n.rd.le
          obtain ⟨j, hj, ej⟩ := hmem _ (nthI_mem Nw k (by rw [HLF.out]; exact hlt))
          have hj' : (j : Int) < (G.n : Int) := by omega
          have hMr := hM.lw hW.L
          obtain ⟨b, off, ema, hbw, _⟩ := hMr.at' (by omega)
          rw [ema] at hMr c0
          obtain ⟨k0, k1, k2, k3, k4, k5⟩ := hMr.six j hj
          have HX : Hid (fdK F Nw k = if (F j).ti = 3 then some (j : Int) else fdK F Nw (k + 1)) := by
            show _ = _
            rw [fdK_step F Nw k (by rw [HLF.out]; exact hlt), ej, Int.toNat_natCast]
          have EJ : Hid (nthI Nw k = (j : Int)) := ej
          rw [ej] at ck
          subst efa
          clear hMr ej hfc ema
          generalize F j = mm at *
          obtain ⟨mof, mlo, mhi, mfr, mti, mth⟩ := mm
          dsimp only at k0 k1 k2 k3 k4 k5 HX
          by_cases h3 : mti = 3
          · subst h3
            have HX : Hid (fdK F Nw k = some (j : Int)) := HX.out
            have HB : Hid (bkV F Nw E k = ⟨true, (j : Int), E.bd, E.tp, E.qu, E.tr⟩) := by show _ = _; unfold bkV; rw [HX.out]; rfl
            go_wp2
            go_quiet (fail)
            have hW2 := hW.keep (grown_drewN wr nq none)
            have bx2 := bx.keep (grown_drewN wr nq none) (by simp)
            have ck2 : (wr.drewN nq).cell? ⟨fb, fo + k, none⟩ = some (.int .i64 (j : Int)) := by simpa using ck
            generalize wr.drewN nq = w2 at *
            clear nq d0 d1 d2 d3 d4 d5 c0 c1 c2 c3 c4 k0 k1 k2 k3 k4 k5 ck
            have ncb := hW2.n.ne_box hW2.box (by decide)
            have s6 : True := trivial
            go_wp2_with (first
              | (have _t := s6; clear s6; refine wpList_stC _ rfl _ _ _ rfl g 0 29 _ #[.bool true, .int .i64 ((fdK F Nw (k + 1)).getD (-1)), .slice B.ab B.nb B.cb, .slice B.ap B.np B.cp, .int .i64 E.qu, .slice B.at' B.nt B.ct] (.bool true) rfl rfl bx2 (stc_bool _ _ _) (by show 0 < 6; decide) rfl ?_; intro x1 y1 z1; have r1 := hW2.setS true ((fdK F Nw (k + 1)).getD (-1)) E.qu y1 z1; obtain ⟨fb3, fo3, e3, _, hc3⟩ := r1.n.rd.at' (by omega); cases e3; have ck3 := hc3 k _ (zys_at Nw k (by rw [HLF.out]; exact hlt)); rw [EJ.out] at ck3; clear hc3; clear ck2; have s7 : True := trivial)
              | (have _t := s7; clear s7; refine wpList_stC _ rfl _ _ _ rfl g 1 29 _ #[.bool true, .int .i64 (j : Int), .slice B.ab B.nb B.cb, .slice B.ap B.np B.cp, .int .i64 E.qu, .slice B.at' B.nt B.ct] (.int .i64 (j : Int)) rfl rfl y1 (stc_int _ _ _) (by show 1 < 6; decide) rfl ?_; intro x2 y2 z2))
            have r2 := r1.setS true (j : Int) E.qu y2 z2
            go_roundw
            case rel => exact ⟨k, by go_num, by omega, by rw [HB.out]; exact r2⟩
            case measure => simp [intOf]
          · have h3' : (mti == 3) = false := beq_false_of_ne h3
            have HX : Hid (fdK F Nw k = fdK F Nw (k + 1)) := by show _ = _; have := HX.out; rw [if_neg h3] at this; exact this
            have HB : Hid (bkV F Nw E k = bkV F Nw E (k + 1)) := by show _ = _; unfold bkV; rw [HX.out]
            go_wp2
            go_quiet (fail)
            go_wp2
            go_roundw
            case rel => exact ⟨k, by go_num, by omega, by rw [HB.out]; exact hW.keep (grown_drewN wr nq none)⟩
            case measure => simp [intOf]
    case rest =>
      clear hRs
      have hR0 := hcut
      generalize wc = wa at *
      apply_assumption
      have q0 := t0.fz hR0.L (fun h => by have := t0.lt; omega)
      have hggl : gg < w5.heap.size := t0.lt
      have hgl := hR0.gl
      obtain ⟨c0, c1, c2, c3, c4⟩ := q0.cell5
      obtain ⟨fs, hfs⟩ : ∃ fs, fdK F Nw 0 = fs := ⟨_, rfl⟩
      have mxt := hR0.t.max
      cases fs with
      | some z =>
        have HRS : Hid (rsI F Nw E.tr.length G E.qu = z) := rs_some F Nw _ G _ z hfs
        have hz : (z != -1) = true := by
          obtain ⟨j, _, e⟩ := hmem z (fdK_mem F Nw 0 z hfs)
          simp; omega
        have HZ : Hid ((z != -1) = true) := hz
        have eb : bkV F Nw E 0 = ⟨true, z, E.bd, E.tp, E.qu, E.tr⟩ := by unfold bkV; rw [hfs]; rfl
        rw [eb] at hR0
        have bx := hR0.box
        unfold vgA at bx
        dsimp only at bx
        obtain ⟨d0, d1, d2, d3, d4, d5⟩ := bx.cell6
        clear hz eb hfs
        go_wp2
        refine HQ.out _ _ _ _ _ _ _ _ _ _ _ _ _ _ _ _ _ _ _ _ _ _ _ _ _ _ _ _ _ _ _ _ _ _ _ _ _ _ _ _ _ _ _ _ _ _ _ _ _ _ _ _ _ _ _ _ _ _ _ _ _ _ _ _ _ _ _ _ _ _ _ _ _ _ _ _ _ _ _ _ _ _ _ _ B ?_
        rw [HRS.out, HZ.out]
        exact hR0
      | none =>
        have HRS := rs_none F Nw E.tr.length G E.qu hfs
        have eb : bkV F Nw E 0 = ⟨false, -1, E.bd, E.tp, E.qu, E.tr⟩ := by unfold bkV; rw [hfs]; rfl
        rw [eb] at hR0
        have bx := hR0.box
        unfold vgA at bx
        dsimp only at bx
        obtain ⟨d0, d1, d2, d3, d4, d5⟩ := bx.cell6
        clear eb hfs
        rw [HTL.out] at HRS
        by_cases h1 : G.mo ≤ (B.nt : Int)
        · rw [if_pos h1] at HRS
          have HRS : Hid (rsI F Nw E.tr.length G E.qu = -3) := by show _ = _; rw [HTL.out]; exact HRS
          have s6 : True := trivial
          go_wp2_with (first
            | (have _t := s6; clear s6; refine wpList_stC _ rfl _ _ _ rfl g 0 29 _ #[.bool true, .int .i64 (-1), .slice B.ab B.nb B.cb, .slice B.ap B.np B.cp, .int .i64 E.qu, .slice B.at' B.nt B.ct] (.bool true) rfl rfl bx (stc_bool _ _ _) (by show 0 < 6; decide) rfl ?_; intro x1 y1 z1; have s7 : True := trivial)
            | (have _t := s7; clear s7; refine wpList_stC _ rfl _ _ _ rfl g 1 29 _ #[.bool true, .int .i64 (-3), .slice B.ab B.nb B.cb, .slice B.ap B.np B.cp, .int .i64 E.qu, .slice B.at' B.nt B.ct] (.int .i64 (-3)) rfl rfl y1 (stc_int _ _ _) (by show 1 < 6; decide) rfl ?_; intro x2 y2 z2; clear d0 d1 d2 d3 d4 d5 c0 c1 c2 c3 c4; obtain ⟨d0, d1, d2, d3, d4, d5⟩ := y2.cell6; have q2 := (q0.keep z1 (fun e => by have := Option.some.inj e; omega)).keep z2 (fun e => by have := Option.some.inj e; omega); obtain ⟨c0, c1, c2, c3, c4⟩ := q2.cell5))
          have r1 := hR0.setS true (-1) E.qu y1 z1
          have r2 := r1.setS true (-3) E.qu y2 z2
          refine HQ.out _ _ _ _ _ _ _ _ _ _ _ _ _ _ _ _ _ _ _ _ _ _ _ _ _ _ _ _ _ _ _ _ _ _ _ _ _ _ _ _ _ _ _ _ _ _ _ _ _ _ _ _ _ _ _ _ _ _ _ _ _ _ _ _ _ _ _ _ _ _ _ _ _ _ _ _ _ _ _ _ _ _ _ _ B ?_
          rw [HRS.out]
          exact r2
        · rw [if_neg h1] at HRS
          by_cases h2 : 0 < G.si
          · by_cases h3 : E.qu = G.si
            · rw [if_pos ⟨h2, h3⟩] at HRS
              have HRS : Hid (rsI F Nw E.tr.length G E.qu = -2) := by show _ = _; rw [HTL.out]; exact HRS
              have h3' : (E.qu == G.si) = true := by rw [h3]; simp
              have s6 : True := trivial
              go_wp2_with (first
                | (have _t := s6; clear s6; refine wpList_stC _ rfl _ _ _ rfl g 0 29 _ #[.bool true, .int .i64 (-1), .slice B.ab B.nb B.cb, .slice B.ap B.np B.cp, .int .i64 E.qu, .slice B.at' B.nt B.ct] (.bool true) rfl rfl bx (stc_bool _ _ _) (by show 0 < 6; decide) rfl ?_; intro x1 y1 z1; have s7 : True := trivial)
                | (have _t := s7; clear s7; refine wpList_stC _ rfl _ _ _ rfl g 1 29 _ #[.bool true, .int .i64 (-2), .slice B.ab B.nb B.cb, .slice B.ap B.np B.cp, .int .i64 E.qu, .slice B.at' B.nt B.ct] (.int .i64 (-2)) rfl rfl y1 (stc_int _ _ _) (by show 1 < 6; decide) rfl ?_; intro x2 y2 z2; clear d0 d1 d2 d3 d4 d5 c0 c1 c2 c3 c4; obtain ⟨d0, d1, d2, d3, d4, d5⟩ := y2.cell6; have q2 := (q0.keep z1 (fun e => by have := Option.some.inj e; omega)).keep z2 (fun e => by have := Option.some.inj e; omega); obtain ⟨c0, c1, c2, c3, c4⟩ := q2.cell5))
              have r1 := hR0.setS true (-1) E.qu y1 z1
              have r2 := r1.setS true (-2) E.qu y2 z2
              refine HQ.out _ _ _ _ _ _ _ _ _ _ _ _ _ _ _ _ _ _ _ _ _ _ _ _ _ _ _ _ _ _ _ _ _ _ _ _ _ _ _ _ _ _ _ _ _ _ _ _ _ _ _ _ _ _ _ _ _ _ _ _ _ _ _ _ _ _ _ _ _ _ _ _ _ _ _ _ _ _ _ _ _ _ _ _ B ?_
              rw [HRS.out]
              exact r2
            · rw [if_neg (fun h => h3 h.2)] at HRS
              have HRS : Hid (rsI F Nw E.tr.length G E.qu = -1) := by show _ = _; rw [HTL.out]; exact HRS
              have h3' : (E.qu == G.si) = false := beq_false_of_ne h3
              go_wp2
              refine HQ.out _ _ _ _ _ _ _ _ _ _ _ _ _ _ _ _ _ _ _ _ _ _ _ _ _ _ _ _ _ _ _ _ _ _ _ _ _ _ _ _ _ _ _ _ _ _ _ _ _ _ _ _ _ _ _ _ _ _ _ _ _ _ _ _ _ _ _ _ _ _ _ _ _ _ _ _ _ _ _ _ _ _ _ _ B ?_
              rw [HRS.out]
              exact hR0
          · rw [if_neg (fun h => h2 h.1)] at HRS
            have HRS : Hid (rsI F Nw E.tr.length G E.qu = -1) := by show _ = _; rw [HTL.out]; exact HRS
            go_wp2
            refine HQ.out _ _ _ _ _ _ _ _ _ _ _ _ _ _ _ _ _ _ _ _ _ _ _ _ _ _ _ _ _ _ _ _ _ _ _ _ _ _ _ _ _ _ _ _ _ _ _ _ _ _ _ _ _ _ _ _ _ _ _ _ _ _ _ _ _ _ _ _ _ _ _ _ _ _ _ _ _ _ _ _ _ _ _ _ B ?_
            rw [HRS.out]
            exact hR0

  · have hsf : E.sf = true := hsf.trans hD
    have HFV : Hid (fiV F G E Nw he le = if (le && he && !anN E.tp E.tp.length) = true then ⟨false, -1, E.bd, E.tp, E.qu, []⟩ else E) := if_pos hsf
    rw [hD] at e0
    cases le
    · go_wp2
      apply hQ
      rw [HFV.out, if_neg (by simp)]; exact hR
    · cases he
      · go_wp2
        apply hQ
        rw [HFV.out, if_neg (by simp)]; exact hR
      · have HNP : Hid (E.tp.length = B.np) := by have := hR.p.len; rw [hls_len] at this; exact this
        have mxp := hR.p.max.2
        have hp0 : AnsX 4 wx w5.heap.size B.ap B.np B.cp (hls E.tp) := hR.p
        have HQ : Hid _ := hQ
        clear hQ
        go_wp2
        go_loopw [24, 25] (fun cv iv wr => ∃ (k : Nat) (c : Bool), iv = .int .i64 k ∧ k ≤ B.np ∧ cv = .bool c ∧ Hid (wr = wx) ∧ Hid (c = !anN E.tp k)) (fun _ iv _ => B.np - (intOf iv).toNat)
        case atStart => exact ⟨0, true, by go_num, Nat.zero_le _, rfl, rfl, rfl⟩
        case round =>
          obtain ⟨k, c, rfl, hk, rfl, HW9, HC⟩ := hrel
          have hw9 := HW9.out.symm
          clear HW9
          subst hw9
          by_cases hlt : k < B.np
          · have hlt' : (k : Int) < (B.np : Int) := by omega
            obtain ⟨gp, ep, _, _⟩ := hp0.some_of (by omega)
            have hp := hp0
            rw [ep] at hp d3
            have cp := hp.cell k _ (hls_at E.tp k (by rw [HNP.out]; exact hlt))
            have HAN : Hid ((!anN E.tp (k + 1)) = (!anN E.tp k && !hat E.tp k)) := by
              show _ = _
              rw [show anN E.tp (k + 1) = (anN E.tp k || hat E.tp k) from rfl]
              cases anN E.tp k <;> simp
            clear ep
            generalize hat E.tp k = tz at *
            cases c
            · go_wp2
              go_roundw
              case rel => exact ⟨k + 1, false, by go_num, by omega, rfl, trivial, by show _ = _; rw [HAN.out, ← HC.out]; rfl⟩
              case measure => simp [intOf]; omega
            · cases tz
              · go_wp2
                go_roundw
                case rel => exact ⟨k + 1, true, by go_num, by omega, rfl, trivial, by show _ = _; rw [HAN.out, ← HC.out]; rfl⟩
                case measure => simp [intOf]; omega
              · go_wp2
                go_roundw
                case rel => exact ⟨k + 1, false, by go_num, by omega, rfl, trivial, by show _ = _; rw [HAN.out, ← HC.out]; rfl⟩
                case measure => simp [intOf]; omega
          · have hlt' : ¬ (k : Int) < (B.np : Int) := by omega
            obtain rfl : k = B.np := by omega
            cases c
            · go_wp2
              refine HQ.out _ _ _ _ _ _ _ _ _ _ _ _ _ _ _ _ _ _ _ _ _ _ _ _ _ _ _ _ _ _ _ _ _ _ _ _ _ _ _ _ _ _ _ _ _ _ _ _ _ _ _ _ _ _ _ _ _ _ _ _ _ _ _ _ _ _ _ _ _ _ _ _ _ _ _ _ _ _ _ _ _ _ _ _ B ?_
              rw [HFV.out, HNP.out, ← HC.out, if_neg (by simp)]; exact hR
            · have s6 : True := trivial
              go_wp2_with (first
                | (have _t := s6; clear s6; refine wpList_stC _ rfl _ _ _ rfl g 0 29 _ #[.bool false, .int .i64 E.wy, .slice B.ab B.nb B.cb, .slice B.ap B.np B.cp, .int .i64 E.qu, .slice B.at' B.nt B.ct] (.bool false) rfl rfl bx (stc_bool _ _ _) (by show 0 < 6; decide) rfl ?_; intro x1 y1 z1; have s7 : True := trivial)
                | (have _t := s7; clear s7; refine wpList_stC _ rfl _ _ _ rfl g 1 29 _ #[.bool false, .int .i64 (-1), .slice B.ab B.nb B.cb, .slice B.ap B.np B.cp, .int .i64 E.qu, .slice B.at' B.nt B.ct] (.int .i64 (-1)) rfl rfl y1 (stc_int _ _ _) (by show 1 < 6; decide) rfl ?_; intro x2 y2 z2; have s8 : True := trivial)
                | (have _t := s8; clear s8; refine wpList_stC _ rfl _ _ _ rfl g 5 29 _ #[.bool false, .int .i64 (-1), .slice B.ab B.nb B.cb, .slice B.ap B.np B.cp, .int .i64 E.qu, .slice none 0 0] (.slice none 0 0) rfl rfl y2 (stc_slI _ _ _ _ _) (by show 5 < 6; decide) rfl ?_; intro x3 y3 z3))
              have r1 := hR.setS false E.wy E.qu y1 z1
              have r2 := r1.setS false (-1) E.qu y2 z2
              have r3 := r2.setN y3 z3
              refine HQ.out _ _ _ _ _ _ _ _ _ _ _ _ _ _ _ _ _ _ _ _ _ _ _ _ _ _ _ _ _ _ _ _ _ _ _ _ _ _ _ _ _ _ _ _ _ _ _ _ _ _ _ _ _ _ _ _ _ _ _ _ _ _ _ _ _ _ _ _ _ _ _ _ _ _ _ _ _ _ _ _ _ _ _ _ (B.t none 0 0) ?_
              rw [HFV.out, HNP.out, ← HC.out, if_pos (by simp)]; exact r3

set_option maxHeartbeats 32000000 in
theorem vs_safe {u0 u1 u2 u7 u8 u9 u11 u12 u13 u14 u15 u18 u20 u21 u22 u23 u24 u25 u26 u27 u28 u29 u30 u31 u32 u33 u34 u35 u36 u37 u38 u39 u40 u41 u42 u43 u44 u45 u46 u47 u48 u49 u50 u51 u52 u53 u54 u55 u56 u57 u58 u59 u60 u61 u62 u63 u64 u65 u66 u67 u68 u69 u70 u71 u72 u73 u74 u75 u76 u77 u78 u79 u80 u81 u82 u83 u84 u85 u86 u87 u88 u89 u90 u91 u92 u93 u94 u95 u96 u97 u98 u99 u100 u101 u102 u103 u104 u105 u106 u107 u108 u109 u110 u111 u112 u113 u114 u115 u116 u117 u118 u119 u120 u121 u122 u123 u124 u125 u126 u127 u128 u129 u130 u131 u132 u133 u134 u135 u136 u137 u138 u139 u140 u141 u142 u143 u144 u145 u146 u147 u148 u149 u150 u151 u152 u153 u154 u155 u156 u157 u158 u159 u160 u161 u162 u163 u164 u165 u166 u167 u168 u169 u170 u171 u172 u173 u174 u175 u176 u177 u178 u179 u180 u181 u182 u183 u184 u185 u186 u187 u188 u189 u190 u191 u192 u193 u194 u195 u196 u197 u198 u199 u200 u201 u202 u203 u204 u205 u206 u207 u208 u209 u210 u211 u212 u213 u214 u215 u216 u217 u218 u219 u220 u221 u222 u223 u224 u225 u226 u227 u228 u229 u230 u231 u232 u233 u234 u235 u236 u237 u238 u239 u240 u241 u242 u243 u244 u245 u246 u247 u248 u249 u250 u251 u252 u253 u254 u255 u256 u257 u258 u259 u260 u261 u262 u263 u264 u265 u266 u267 u268 u269 u270 u271 u272 u273 u274 u275 u276 u277 u278 u279 u280 u281 u282 u283 u284 u285 u286 u287 u288 u289 u290 u291 u292 u293 u294 u295 u296 u297 u298 u299 u300 u301 u302 u303 u304 u305 u306 u307 u308 u309 u310 u311 u312 u313 u314 : Value} (w w5 wx : World) (G : Gd) (F : Nat → Mo) (A : Va) (D : Vi) (B : Va) (E : Vi) (g gg gb gr : Nat) (na : Option Addr) (nn nc : Nat) (Nw : List Int) (t0 : BxS w5 gg 24 #[.slice G.ma G.n G.mc, .int .i64 G.si, .int .i64 G.mo, .int .i64 G.wi, .string G.sa]) (t1 : BxS w5 gb 29 #[.bool D.sf, .int .i64 D.wy, .slice A.ab A.nb A.cb, .slice A.ap A.np A.cp, .int .i64 D.qu, .slice A.at' A.nt A.ct]) (t2 : BxS w5 gr 29 #[.bool false, .int .i64 0, .slice none 0 0, .slice none 0 0, .int .i64 0, .slice none 0 0]) (hgr : w.heap.size ≤ gr) (G5 : w.grownBy w5 none) (hM : RdM w5 G.ma G.n G.mc F) (hn : G.n ≤ 32) (hNl : Nw.length ≤ 100) (hmem : ∀ z, z ∈ Nw → ∃ j : Nat, j < G.n ∧ z = (j : Int)) (ta : Option Addr) (tn tc : Nat) (he le : Bool) (X : List Int) (hsf : E.sf = D.sf) (hwy : D.sf = false → E.wy = -1) (hnp : B.np ≤ 32) (hW : RV w5 wx g B (E.t X) ta tn tc E.tr na nn nc Nw) :
    Code.wp Try.prog (tailR 39 (Try.f14.body.getD .skip)) (bodyPost Try.prog Try.f14 (fun e w' => StR w (fiV F G E Nw he le) (naL F G.sa (fiV F G E Nw he le).sf Nw (!D.sf)) 0 e w')) (Act.mk (List.toArray (u0 :: u1 :: u2 :: (.bool he) :: (.bool le) :: (.pointer (some ⟨gg, 0, none⟩)) :: (.pointer (some ⟨gb, 0, none⟩)) :: u7 :: u8 :: u9 :: (.pointer (some ⟨gr, 0, none⟩)) :: u11 :: u12 :: u13 :: u14 :: u15 :: (.pointer (some ⟨g, 0, none⟩)) :: (.slice ta tn tc) :: u18 :: (.slice na nn nc) :: u20 :: u21 :: u22 :: u23 :: u24 :: u25 :: u26 :: u27 :: u28 :: u29 :: u30 :: u31 :: u32 :: u33 :: u34 :: u35 :: u36 :: u37 :: u38 :: u39 :: u40 :: u41 :: u42 :: u43 :: u44 :: u45 :: u46 :: u47 :: u48 :: u49 :: u50 :: u51 :: u52 :: u53 :: u54 :: u55 :: u56 :: u57 :: u58 :: u59 :: u60 :: u61 :: u62 :: u63 :: u64 :: u65 :: u66 :: u67 :: u68 :: u69 :: u70 :: u71 :: u72 :: u73 :: u74 :: u75 :: u76 :: u77 :: u78 :: u79 :: u80 :: u81 :: u82 :: u83 :: u84 :: u85 :: u86 :: u87 :: u88 :: u89 :: u90 :: u91 :: u92 :: u93 :: u94 :: u95 :: u96 :: u97 :: u98 :: u99 :: u100 :: u101 :: u102 :: u103 :: u104 :: u105 :: u106 :: u107 :: u108 :: u109 :: u110 :: u111 :: u112 :: u113 :: u114 :: u115 :: u116 :: u117 :: u118 :: u119 :: u120 :: u121 :: u122 :: u123 :: u124 :: u125 :: u126 :: u127 :: u128 :: u129 :: u130 :: u131 :: u132 :: u133 :: u134 :: u135 :: u136 :: u137 :: u138 :: u139 :: u140 :: u141 :: u142 :: u143 :: u144 :: u145 :: u146 :: u147 :: u148 :: u149 :: u150 :: u151 :: u152 :: u153 :: u154 :: u155 :: u156 :: u157 :: u158 :: u159 :: u160 :: u161 :: u162 :: u163 :: u164 :: u165 :: u166 :: u167 :: u168 :: u169 :: u170 :: u171 :: u172 :: u173 :: u174 :: u175 :: u176 :: u177 :: u178 :: u179 :: u180 :: u181 :: u182 :: u183 :: u184 :: u185 :: u186 :: u187 :: u188 :: u189 :: u190 :: u191 :: u192 :: u193 :: u194 :: u195 :: u196 :: u197 :: u198 :: u199 :: u200 :: u201 :: u202 :: u203 :: u204 :: u205 :: u206 :: u207 :: u208 :: u209 :: u210 :: u211 :: u212 :: u213 :: u214 :: u215 :: u216 :: u217 :: u218 :: u219 :: u220 :: u221 :: u222 :: u223 :: u224 :: u225 :: u226 :: u227 :: u228 :: u229 :: u230 :: u231 :: u232 :: u233 :: u234 :: u235 :: u236 :: u237 :: u238 :: u239 :: u240 :: u241 :: u242 :: u243 :: u244 :: u245 :: u246 :: u247 :: u248 :: u249 :: u250 :: u251 :: u252 :: u253 :: u254 :: u255 :: u256 :: u257 :: u258 :: u259 :: u260 :: u261 :: u262 :: u263 :: u264 :: u265 :: u266 :: u267 :: u268 :: u269 :: u270 :: u271 :: u272 :: u273 :: u274 :: u275 :: u276 :: u277 :: u278 :: u279 :: u280 :: u281 :: u282 :: u283 :: u284 :: u285 :: u286 :: u287 :: u288 :: u289 :: u290 :: u291 :: u292 :: u293 :: u294 :: u295 :: u296 :: u297 :: u298 :: u299 :: u300 :: u301 :: u302 :: u303 :: u304 :: u305 :: u306 :: u307 :: u308 :: u309 :: u310 :: u311 :: u312 :: u313 :: u314 :: [])) []) wx := by
  let pq : Exit → Act → World → Prop := bodyPost Try.prog Try.f14 (fun _ _ => True)
  conv => enter [2]; whnf
  have i6 := Try.info_vg
  have bx_d := hW.box
  unfold vgA at bx_d
  dsimp only [Vi.t] at bx_d
  obtain ⟨d0, d1, d2, d3, d4, d5⟩ := bx_d.cell6
  have s5 : True := trivial
  go_upto_region 39 with fail
  go_cut [] from 182 to 183 (fun wy => RW w5 wy g (B.t ta tn tc) E na nn nc Nw none 0 0 [])
  case first =>
    go_wp2_with (have _t := s5; clear s5; refine wpList_stC _ rfl _ _ _ rfl g 5 29 _ #[.bool E.sf, .int .i64 E.wy, .slice B.ab B.nb B.cb, .slice B.ap B.np B.cp, .int .i64 E.qu, .slice ta tn tc] (.slice ta tn tc) rfl rfl bx_d (stc_slI _ _ _ _ _) (by show 5 < 6; decide) rfl ?_; intro w9 b9 u9)
    go_meet
    have hR := RW.of hW (by unfold vgA; exact b9) u9
    exact hR
  case rest =>
  have hR := hcut
  generalize wc = w9 at *
  apply_assumption
  refine wp_seq_k fun K hK => ?_
  refine vs_if w w5 w9 G F A D (B.t ta tn tc) E g gg gb gr na nn nc Nw t0 t1 t2 hgr G5 hM hn hNl hmem ta tn tc he le hsf hwy hnp hR _ ?_
  intro z23 z24 z25 z184 z185 z186 z187 z188 z189 z190 z191 z192 z193 z194 z195 z196 z197 z198 z199 z200 z201 z202 z203 z204 z205 z206 z207 z208 z209 z210 z211 z212 z213 z214 z215 z216 z217 z218 z219 z220 z221 z222 z223 z224 z225 z226 z227 z228 z229 z230 z231 z232 z233 z234 z235 z236 z237 z238 z239 z240 z241 z242 z243 z244 z245 z246 z247 z248 z249 z250 z251 z252 z253 z254 z255 z256 z257 z258 z259 z260 z261 z262 z263 wy B' hR'
  apply_assumption
  exact vs_names w w5 wy G F A D B' _ g gg gb gr na nn nc Nw t0 t1 t2 hgr G5 hM hn hNl hmem hR'

theorem nthI_set_self (S : List Int) (k : Nat) : S.set k (nthI S k) = S := by
  apply List.ext_getElem (by simp)
  intro i h1 h2
  rw [List.getElem_set]
  split
  · rename_i h; subst h; unfold nthI; rw [List.getD_eq_getElem?_getD, List.getElem?_eq_getElem h2]; rfl
  · rfl
set_option maxHeartbeats 64000000 in
theorem vs_watch {u0 u1 u7 u8 u9 u11 u12 u13 u14 u15 u18 u19 u20 u21 u22 u23 u24 u25 u26 u27 u28 u29 u30 u31 u32 u33 u34 u35 u36 u37 u38 u39 u40 u41 u42 u43 u44 u45 u46 u47 u48 u49 u50 u51 u52 u53 u54 u55 u56 u57 u58 u59 u60 u61 u62 u63 u64 u65 u66 u67 u68 u69 u70 u71 u72 u73 u74 u75 u76 u77 u78 u79 u80 u81 u82 u83 u84 u85 u86 u87 u88 u89 u90 u91 u92 u93 u94 u95 u96 u97 u98 u99 u100 u101 u102 u103 u104 u105 u106 u107 u108 u109 u110 u111 u112 u113 u114 u115 u116 u117 u118 u119 u120 u121 u122 u123 u124 u125 u126 u127 u128 u129 u130 u131 u132 u133 u134 u135 u136 u137 u138 u139 u140 u141 u142 u143 u144 u145 u146 u147 u148 u149 u150 u151 u152 u153 u154 u155 u156 u157 u158 u159 u160 u161 u162 u163 u164 u165 u166 u167 u168 u169 u170 u171 u172 u173 u174 u175 u176 u177 u178 u179 u180 u181 u182 u183 u184 u185 u186 u187 u188 u189 u190 u191 u192 u193 u194 u195 u196 u197 u198 u199 u200 u201 u202 u203 u204 u205 u206 u207 u208 u209 u210 u211 u212 u213 u214 u215 u216 u217 u218 u219 u220 u221 u222 u223 u224 u225 u226 u227 u228 u229 u230 u231 u232 u233 u234 u235 u236 u237 u238 u239 u240 u241 u242 u243 u244 u245 u246 u247 u248 u249 u250 u251 u252 u253 u254 u255 u256 u257 u258 u259 u260 u261 u262 u263 u264 u265 u266 u267 u268 u269 u270 u271 u272 u273 u274 u275 u276 u277 u278 u279 u280 u281 u282 u283 u284 u285 u286 u287 u288 u289 u290 u291 u292 u293 u294 u295 u296 u297 u298 u299 u300 u301 u302 u303 u304 u305 u306 u307 u308 u309 u310 u311 u312 u313 u314 : Value} (w w5 wx : World) (G : Gd) (F : Nat → Mo) (A : Va) (D : Vi) (A7 : Va) (g gg gb gr : Nat) (t0 : BxS w5 gg 24 #[.slice G.ma G.n G.mc, .int .i64 G.si, .int .i64 G.mo, .int .i64 G.wi, .string G.sa]) (t1 : BxS w5 gb 29 #[.bool D.sf, .int .i64 D.wy, .slice A.ab A.nb A.cb, .slice A.ap A.np A.cp, .int .i64 D.qu, .slice A.at' A.nt A.ct]) (t2 : BxS w5 gr 29 #[.bool false, .int .i64 0, .slice none 0 0, .slice none 0 0, .int .i64 0, .slice none 0 0]) (hgr : w.heap.size ≤ gr) (G5 : w.grownBy w5 none) (hM : RdM w5 G.ma G.n G.mc F) (hn : G.n ≤ 32) (va : Option Addr) (vn vc : Nat) (Vs : List Int) (hX : RdX w5 va vn vc (zys Vs)) (ta : Option Addr) (tn tc : Nat) (he le : Bool) (hbl : D.bd.length = G.n) (hpl : D.tp.length = G.n) (hgl : (grV D G he).tr.length ≤ 100) (hbd : ∀ k, k < G.n → 0 ≤ nthI D.bd k ∧ nthI D.bd k ≤ (F k).fr ∧ (F k).fr ≤ 1000) (hof : ∀ k, k < G.n → 0 ≤ (F k).of' ∧ (F k).of' < (vn : Int)) (hwy : D.sf = false → D.wy = -1) (hW : RV w5 wx g A7 ((grV D G he).t D.tr) ta tn tc (grV D G he).tr none 0 0 []) :
    Code.wp Try.prog (tailR 22 (Try.f14.body.getD .skip)) (bodyPost Try.prog Try.f14 (fun e w' => StR w (tiV F G Vs D he le) (naL F G.sa (tiV F G Vs D he le).sf (tiP F G Vs D he).2 (!D.sf)) 0 e w')) (Act.mk (List.toArray (u0 :: u1 :: (.slice va vn vc) :: (.bool he) :: (.bool le) :: (.pointer (some ⟨gg, 0, none⟩)) :: (.pointer (some ⟨gb, 0, none⟩)) :: u7 :: u8 :: u9 :: (.pointer (some ⟨gr, 0, none⟩)) :: u11 :: u12 :: u13 :: u14 :: u15 :: (.pointer (some ⟨g, 0, none⟩)) :: (.slice ta tn tc) :: u18 :: u19 :: u20 :: u21 :: u22 :: u23 :: u24 :: u25 :: u26 :: u27 :: u28 :: u29 :: u30 :: u31 :: u32 :: u33 :: u34 :: u35 :: u36 :: u37 :: u38 :: u39 :: u40 :: u41 :: u42 :: u43 :: u44 :: u45 :: u46 :: u47 :: u48 :: u49 :: u50 :: u51 :: u52 :: u53 :: u54 :: u55 :: u56 :: u57 :: u58 :: u59 :: u60 :: u61 :: u62 :: u63 :: u64 :: u65 :: u66 :: u67 :: u68 :: u69 :: u70 :: u71 :: u72 :: u73 :: u74 :: u75 :: u76 :: u77 :: u78 :: u79 :: u80 :: u81 :: u82 :: u83 :: u84 :: u85 :: u86 :: u87 :: u88 :: u89 :: u90 :: u91 :: u92 :: u93 :: u94 :: u95 :: u96 :: u97 :: u98 :: u99 :: u100 :: u101 :: u102 :: u103 :: u104 :: u105 :: u106 :: u107 :: u108 :: u109 :: u110 :: u111 :: u112 :: u113 :: u114 :: u115 :: u116 :: u117 :: u118 :: u119 :: u120 :: u121 :: u122 :: u123 :: u124 :: u125 :: u126 :: u127 :: u128 :: u129 :: u130 :: u131 :: u132 :: u133 :: u134 :: u135 :: u136 :: u137 :: u138 :: u139 :: u140 :: u141 :: u142 :: u143 :: u144 :: u145 :: u146 :: u147 :: u148 :: u149 :: u150 :: u151 :: u152 :: u153 :: u154 :: u155 :: u156 :: u157 :: u158 :: u159 :: u160 :: u161 :: u162 :: u163 :: u164 :: u165 :: u166 :: u167 :: u168 :: u169 :: u170 :: u171 :: u172 :: u173 :: u174 :: u175 :: u176 :: u177 :: u178 :: u179 :: u180 :: u181 :: u182 :: u183 :: u184 :: u185 :: u186 :: u187 :: u188 :: u189 :: u190 :: u191 :: u192 :: u193 :: u194 :: u195 :: u196 :: u197 :: u198 :: u199 :: u200 :: u201 :: u202 :: u203 :: u204 :: u205 :: u206 :: u207 :: u208 :: u209 :: u210 :: u211 :: u212 :: u213 :: u214 :: u215 :: u216 :: u217 :: u218 :: u219 :: u220 :: u221 :: u222 :: u223 :: u224 :: u225 :: u226 :: u227 :: u228 :: u229 :: u230 :: u231 :: u232 :: u233 :: u234 :: u235 :: u236 :: u237 :: u238 :: u239 :: u240 :: u241 :: u242 :: u243 :: u244 :: u245 :: u246 :: u247 :: u248 :: u249 :: u250 :: u251 :: u252 :: u253 :: u254 :: u255 :: u256 :: u257 :: u258 :: u259 :: u260 :: u261 :: u262 :: u263 :: u264 :: u265 :: u266 :: u267 :: u268 :: u269 :: u270 :: u271 :: u272 :: u273 :: u274 :: u275 :: u276 :: u277 :: u278 :: u279 :: u280 :: u281 :: u282 :: u283 :: u284 :: u285 :: u286 :: u287 :: u288 :: u289 :: u290 :: u291 :: u292 :: u293 :: u294 :: u295 :: u296 :: u297 :: u298 :: u299 :: u300 :: u301 :: u302 :: u303 :: u304 :: u305 :: u306 :: u307 :: u308 :: u309 :: u310 :: u311 :: u312 :: u313 :: u314 :: [])) []) wx := by
  let pq : Exit → Act → World → Prop := bodyPost Try.prog Try.f14 (fun _ _ => True)
  conv => enter [2]; whnf
  have i6 := Try.info_vg
  have hmm : maxLen ≤ 9223372036854775807 := by decide
  have hvx := hX.max
  have hvl := hX.le
  have hI := tkP_inv F Vs (grV D G he) hgl
  have hgb : (grV D G he).bd = D.bd := rfl
  have hgp : (grV D G he).tp = D.tp := rfl
  have hgs : (grV D G he).sf = D.sf := rfl
  have hgw : (grV D G he).wy = D.wy := rfl
  rw [hgb, hgp, hgs, hgw] at hI
  have hW : RV w5 wx g A7 ((tkP F Vs (grV D G he) 0).1.t D.tr) ta tn tc (tkP F Vs (grV D G he) 0).1.tr none 0 0 (tkP F Vs (grV D G he) 0).2 := hW
  have HNP : Hid (D.tp.length = A7.np) := by have := hW.v.p.len; rw [hls_len] at this; exact this
  clear hgb hgp hgs hgw
  go_upto_block 4 with fail
  go_cut [17, 19, 20, 21, 22] from 100 to 181 (fun s17 s19 s20 s21 s22 wy => ∃ (ta : Option Addr) (tn tc : Nat) (na : Option Addr) (nn nc : Nat), s17 = .slice ta tn tc ∧ s19 = .slice na nn nc ∧ RV w5 wy g A7 ((tkP F Vs (grV D G he) G.n).1.t D.tr) ta tn tc (tkP F Vs (grV D G he) G.n).1.tr na nn nc (tkP F Vs (grV D G he) G.n).2)
  case first =>
    go_wp2
    go_loopw [17, 19, 20] (fun sv sn iv wr => ∃ (k : Nat) (ta : Option Addr) (tn tc : Nat) (na : Option Addr) (nn nc : Nat), iv = .int .i64 k ∧ k ≤ G.n ∧ sv = .slice ta tn tc ∧ sn = .slice na nn nc ∧ RV w5 wr g A7 ((tkP F Vs (grV D G he) k).1.t D.tr) ta tn tc (tkP F Vs (grV D G he) k).1.tr na nn nc (tkP F Vs (grV D G he) k).2) (fun _ _ iv _ => G.n - (intOf iv).toNat)
    case atStart => exact ⟨0, ta, tn, tc, none, 0, 0, by go_num, Nat.zero_le _, rfl, rfl, hW⟩
    case round =>
      clear hW
      obtain ⟨k, ta, tn, tc, na, nn, nc, rfl, hk, rfl, rfl, hW⟩ := hrel
      obtain ⟨i1, i2, i3, i4, i5, i6', i7, i8, i9⟩ := hI k
      have bxr := hW.box
      unfold vgA at bxr
      obtain ⟨d0, d1, d2, d3, d4, d5⟩ := bxr.cell6
      have qr := t0.fz hW.L (fun h => by have := t0.lt; omega)
      obtain ⟨c0, c1, c2, c3, c4⟩ := qr.cell5
      by_cases hlt : k < G.n
      · have hlt' : (k : Int) < (G.n : Int) := by omega
        have hMr := hM.lw hW.L
        obtain ⟨b, off, ema, hbw, _⟩ := hMr.at' (by omega)
        rw [ema] at hMr c0
        obtain ⟨k0, k1, k2, k3, k4, k5⟩ := hMr.six k hlt
        obtain ⟨of0, of1⟩ := hof k hlt
        obtain ⟨o, eo⟩ : ∃ o : Nat, (F k).of' = (o : Int) := ⟨(F k).of'.toNat, by omega⟩
        have ho : o < vn := by omega
        have ho' : (o : Int) < (vn : Int) := by omega
        have hV2 := hX.lw hW.L
        obtain ⟨vb, vo, rfl, hvw, _⟩ := hV2.at' (by omega)
        obtain ⟨q0, q1, q2⟩ := hbd k hlt
        have HX : Hid (tkP F Vs (grV D G he) (k + 1) = (wtV (F k) (nthI Vs o) k (tkP F Vs (grV D G he) k).1, wtF (F k) (nthI Vs o) k (tkP F Vs (grV D G he) k).1 (tkP F Vs (grV D G he) k).2)) := by
          show _ = _
          simp only [tkP]
          rw [eo, Int.toNat_natCast]
        rw [eo] at k0
        have bm := BxS.new wr 51 #[.int .i64 (o : Int), .int .i64 (F k).lo, .int .i64 (F k).hi, .int .i64 (F k).fr, .int .i64 (F k).ti, .string (F k).th]
        have gm := World.grownBy_alloc wr (.cells #[.int .i64 (o : Int), .int .i64 (F k).lo, .int .i64 (F k).hi, .int .i64 (F k).fr, .int .i64 (F k).ti, .string (F k).th] 51) none
        have cx := (hV2.keep gm).atI o ho
        have hWm := hW.keep gm
        have hb8 := i8 k (Nat.le_refl _)
        have hlb : k < (tkP F Vs (grV D G he) k).1.bd.length := by rw [i1]; omega
        have hlp : k < (tkP F Vs (grV D G he) k).1.tp.length := by rw [i2]; omega
        rw [← hb8] at q0 q1
        clear hI i1 i2 i4 i5 i7 i8 i9 hof hbd hMr hV2 hb8 of0 of1
        generalize tkP F Vs (grV D G he) k = p at *
        obtain ⟨D2, Nw⟩ := p
        dsimp only at hW hWm bxr d0 d1 d2 d3 d4 d5 HX q0 q1 hlb hlp i3 i6'
        generalize nthI Vs o = xx at *
        generalize F k = mm at *
        generalize hwm : wr.alloc (.cells #[.int .i64 (o : Int), .int .i64 mm.lo, .int .i64 mm.hi, .int .i64 mm.fr, .int .i64 mm.ti, .string mm.th] 51) = wm at *
        have lb2 : D2.bd.length = A7.nb := by have := hWm.v.b.len; rw [zys_length] at this; exact this
        have lp2 : D2.tp.length = A7.np := by have := hWm.v.p.len; rw [hls_len] at this; exact this
        obtain ⟨gb, eb, _, _⟩ := hWm.v.b.some_of (by omega)
        obtain ⟨gp, ep, _, _⟩ := hWm.v.p.some_of (by omega)
        have hkb : k < A7.nb := by omega
        have hkb' : (k : Int) < (A7.nb : Int) := by omega
        have hkp : k < A7.np := by omega
        have hkp' : (k : Int) < (A7.np : Int) := by omega
        have mxb := hWm.v.b.max
        have mxp := hWm.v.p.max
        have nmb : gb ≠ wr.heap.size := fun e => by
          have e1 := hWm.v.b.ne_box bm (by decide)
          rw [eb] at e1
          exact e1 (by rw [e]; rfl)
        have nmp : gp ≠ wr.heap.size := fun e => by
          have e1 := hWm.v.p.ne_box bm (by decide)
          rw [ep] at e1
          exact e1 (by rw [e]; rfl)
        have cbf : ∀ (wz : World) (Dz : Vi) (ta : Option Addr) (tn tc : Nat) (Tr : List Int) (na : Option Addr) (nn nc : Nat) (Nw : List Int), RV w5 wz g A7 Dz ta tn tc Tr na nn nc Nw → k < Dz.bd.length → wz.cell? ⟨gb, k, none⟩ = some (.int .i64 (nthI Dz.bd k)) ∧ wz.frozen? ⟨gb, k, none⟩ = false := fun wz Dz _ _ _ _ _ _ _ _ hz hl => by
          have hv := hz.v.b
          rw [eb] at hv
          exact ⟨hv.cell k _ (zys_at _ k hl), hv.free k⟩
        have cpf : ∀ (wz : World) (Dz : Vi) (ta : Option Addr) (tn tc : Nat) (Tr : List Int) (na : Option Addr) (nn nc : Nat) (Nw : List Int), RV w5 wz g A7 Dz ta tn tc Tr na nn nc Nw → k < Dz.tp.length → wz.cell? ⟨gp, k, none⟩ = some (.bool (hat Dz.tp k)) ∧ wz.frozen? ⟨gp, k, none⟩ = false := fun wz Dz _ _ _ _ _ _ _ _ hz hl => by
          have hv := hz.v.p
          rw [ep] at hv
          exact ⟨hv.cell k _ (hls_at _ k hl), hv.free k⟩
        have CBF : Hid (∀ (wz : World) (Dz : Vi) (ta : Option Addr) (tn tc : Nat) (Tr : List Int) (na : Option Addr) (nn nc : Nat) (Nw : List Int), RV w5 wz g A7 Dz ta tn tc Tr na nn nc Nw → k < Dz.bd.length → wz.cell? ⟨gb, k, none⟩ = some (.int .i64 (nthI Dz.bd k)) ∧ wz.frozen? ⟨gb, k, none⟩ = false) := cbf
        have CPF : Hid (∀ (wz : World) (Dz : Vi) (ta : Option Addr) (tn tc : Nat) (Tr : List Int) (na : Option Addr) (nn nc : Nat) (Nw : List Int), RV w5 wz g A7 Dz ta tn tc Tr na nn nc Nw → k < Dz.tp.length → wz.cell? ⟨gp, k, none⟩ = some (.bool (hat Dz.tp k)) ∧ wz.frozen? ⟨gp, k, none⟩ = false) := cpf
        clear cbf cpf lb2 lp2
        clear d0 d1 d2 d3 d4 d5 bxr
        have bx_d := hWm.box
        unfold vgA at bx_d
        rw [ep, eb] at bx_d
        dsimp only [Vi.t, Vi.b, Vi.p] at bx_d
        obtain ⟨d0, d1, d2, d3, d4, d5⟩ := bx_d.cell6
        obtain ⟨m0, m1, m2, m3, m4, m5⟩ := bm.cell6
        obtain ⟨cb, fb⟩ := CBF.out _ _ _ _ _ _ _ _ _ _ hWm hlb
        obtain ⟨cp, fp⟩ := CPF.out _ _ _ _ _ _ _ _ _ _ hWm hlp
        dsimp only [Vi.t] at cb cp
        have hEB : Hid (A7.ab = some ⟨gb, 0, none⟩) := eb
        have hEP : Hid (A7.ap = some ⟨gp, 0, none⟩) := ep
        clear eb ep ema
        by_cases hin : mm.lo ≤ xx ∧ xx ≤ mm.hi
        · obtain ⟨hlo, hhi⟩ := hin
          have eb := hEB.out
          have ep := hEP.out
          have HWV : Hid (wtV mm xx k D2 = (D2.b (D2.bd.set k 0)).p (D2.tp.set k false)) := if_pos (kwB_t ⟨hlo, hhi⟩)
          have HWF : Hid (wtF mm xx k D2 Nw = Nw) := if_pos (kwB_t ⟨hlo, hhi⟩)
          have hWa := hWm.setB eb k 0
          generalize hw1 : wm.setCell ⟨gb, k, none⟩ (.int .i64 0) = w1' at *
          have hWb := hWa.setP ep k false
          obtain ⟨cp1, fp1⟩ := CPF.out _ _ _ _ _ _ _ _ _ _ hWa hlp
          dsimp only [Vi.t, Vi.b] at cp1
          have bx_f := hWa.box
          unfold vgA at bx_f
          rw [ep, eb] at bx_f
          dsimp only [Vi.t, Vi.b, Vi.p] at bx_f
          obtain ⟨f0, f1, f2, f3, f4, f5⟩ := bx_f.cell6
          clear eb ep
          go_wp2
          go_roundw
          case rel => exact ⟨k + 1, ta, tn, tc, na, nn, nc, by go_num, by omega, rfl, rfl, by rw [HX.out]; dsimp only; rw [HWV.out, HWF.out]; exact hWb⟩
          case measure => simp [intOf]; omega
        · -- OUT
          have HNI : Hid (¬ kwB xx mm.lo mm.hi = true) := fun h => hin (kwB_ok h)
          go_upto_region 28 with fail
          go_cut [126] from 117 to 125 (fun s wx => s = .bool false ∧ wx = wm)
          case first =>
            by_cases hlo : mm.lo ≤ xx
            · have hhi : ¬ xx ≤ mm.hi := fun h => hin ⟨hlo, h⟩
              clear hin
              go_wp2
              go_meet
              exact ⟨rfl, rfl⟩
            · clear hin
              go_wp2
              go_meet
              exact ⟨rfl, rfl⟩
          case rest =>
            rename_i hKK
            obtain ⟨hc1, hR9⟩ := hcut
            have hR9 := hR9.symm
            subst hR9
            subst hc1
            refine hKK _ _ ?_
            clear hKK hin
            obtain ⟨bz, HBZ⟩ : ∃ bz : Int, Hid (nthI D2.bd k = bz) := ⟨_, rfl⟩
            rw [HBZ.out] at cb q0 q1
            obtain ⟨y, hy⟩ : ∃ y : Int, mnI (bz + 1) mm.fr = y := ⟨_, rfl⟩
            have HY : Hid (mnI (nthI D2.bd k + 1) mm.fr = y) := by show _ = _; rw [HBZ.out]; exact hy
            have hyv : y = if bz < mm.fr then bz + 1 else bz := by
              rw [← hy]; unfold mnI; split <;> split <;> omega
            have HYV : Hid (y = if bz < mm.fr then bz + 1 else bz) := hyv
            have hyb : 0 ≤ y ∧ y ≤ 1000 := by rw [hyv]; split <;> omega
            clear hy hyv
            have hwz : IntKind.i64.wrap (bz + 1) = bz + 1 := i64_in (by omega) (by omega)
            go_wp2
            go_quiet (fail)
            have hWq := hWm.keep (grown_drewN wm nq none)
            have bmq := bm.keep (grown_drewN wm nq none) (by simp)
            generalize wm.drewN nq = wq at *
            clear nq d0 d1 d2 d3 d4 d5 m0 m1 m2 m3 m4 m5 cb fb cp fp c0 c1 c2 c3 c4 k0 k1 k2 k3 k4 k5 cx
            go_upto_if 142 with fail
            go_cut [] from 143 to 149 (fun wx => RV w5 wx g A7 ((D2.b (D2.bd.set k y)).t D.tr) ta tn tc D2.tr na nn nc Nw ∧ BxS wx wr.heap.size 51 #[.int .i64 (o : Int), .int .i64 mm.lo, .int .i64 mm.hi, .int .i64 mm.fr, .int .i64 mm.ti, .string mm.th])
            case first =>
              have eb := hEB.out
              have ep := hEP.out
              have bx_d := hWq.box
              unfold vgA at bx_d
              rw [ep, eb] at bx_d
              dsimp only [Vi.t, Vi.b, Vi.p] at bx_d
              obtain ⟨d0, d1, d2, d3, d4, d5⟩ := bx_d.cell6
              obtain ⟨cb, fb⟩ := CBF.out _ _ _ _ _ _ _ _ _ _ hWq hlb
              dsimp only [Vi.t] at cb
              rw [HBZ.out] at cb
              by_cases hbf : bz < mm.fr
              · have HY2 : Hid (y = bz + 1) := by show _ = _; rw [HYV.out, if_pos hbf]
                have hWa := hWq.setB eb k (bz + 1)
                have bma := bmq.keep (grown_set wq gb k (.int .i64 (bz + 1))) (fun e => nmb (Option.some.inj e).symm)
                clear eb ep
                go_wp2
                go_meet
                exact ⟨by rw [HY2.out]; exact hWa, bma⟩
              · have HY2 : Hid (y = bz) := by show _ = _; rw [HYV.out, if_neg hbf]
                clear eb ep
                go_wp2
                go_meet
                refine ⟨?_, bmq⟩
                rw [HY2.out, ← HBZ.out, nthI_set_self]
                exact hWq
            case rest =>
              rename_i hKK
              obtain ⟨hWr, bmr⟩ := hcut
              refine hKK _ _ ?_
              clear hKK hWq bmq
              -- R33
              have hlb2 : k < (D2.bd.set k y).length := by rw [List.length_set]; exact hlb
              have eb := hEB.out
              have ep := hEP.out
              have bx_d := hWr.box
              unfold vgA at bx_d
              rw [ep, eb] at bx_d
              dsimp only [Vi.t, Vi.b, Vi.p] at bx_d
              obtain ⟨d0, d1, d2, d3, d4, d5⟩ := bx_d.cell6
              obtain ⟨m0, m1, m2, m3, m4, m5⟩ := bmr.cell6
              obtain ⟨cb, fb⟩ := CBF.out _ _ _ _ _ _ _ _ _ _ hWr hlb2
              dsimp only [Vi.t, Vi.b] at cb
              rw [set_at D2.bd k y hlb] at cb
              obtain ⟨cp, fp⟩ := CPF.out _ _ _ _ _ _ _ _ _ _ hWr hlp
              dsimp only [Vi.t, Vi.b] at cp
              obtain ⟨tz, HTZ⟩ : ∃ tz : Bool, Hid (hat D2.tp k = tz) := ⟨_, rfl⟩
              rw [HTZ.out] at cp
              have HWV : Hid (wtV mm xx k D2 = if (y == mm.fr && !tz) = true then vfT (D2.b (D2.bd.set k y)) k else D2.b (D2.bd.set k y)) := by
                show _ = _
                unfold wtV
                rw [if_neg HNI.out, HY.out, HTZ.out]
              have HWF : Hid (wtF mm xx k D2 Nw = if (y == mm.fr && !tz) = true then Nw ++ [(k : Int)] else Nw) := by
                show _ = _
                unfold wtF
                rw [if_neg HNI.out, HY.out, HTZ.out]
              have htn : tn ≤ 100 := by have := hWr.t.len; omega
              have hnn : nn ≤ 100 := by have := hWr.n.len; rw [zys_length] at this; omega
              clear eb ep
              generalize wc = w33 at *
              by_cases hyf : y = mm.fr
              · have HE : Hid ((y == mm.fr) = true) := by show _ = _; simp [hyf]
                cases tz
                · -- TRIP
                  have HC : Hid ((y == mm.fr && !false) = true) := by show _ = _; rw [HE.out]; rfl
                  rw [← hyf] at m3
                  clear hyf
                  go_wp2
                  go_quiet (fail)
                  have hWs := hWr.keep (grown_drewN w33 nq none)
                  generalize w33.drewN nq = w34 at *
                  clear nq d0 d1 d2 d3 d4 d5 m0 m1 m2 m3 m4 m5 cb fb cp fp hWr bmr
                  have eb := hEB.out
                  have ep := hEP.out
                  have bx_d := hWs.box
                  unfold vgA at bx_d
                  rw [ep, eb] at bx_d
                  dsimp only [Vi.t, Vi.b, Vi.p] at bx_d
                  obtain ⟨d0, d1, d2, d3, d4, d5⟩ := bx_d.cell6
                  obtain ⟨cp, fp⟩ := CPF.out _ _ _ _ _ _ _ _ _ _ hWs hlp
                  dsimp only [Vi.t, Vi.b] at cp
                  have hWa := hWs.setP ep k true
                  clear eb ep
                  generalize hw35 : w34.setCell ⟨gp, k, none⟩ (.bool true) = w35 at *
                  have vn5 := hWa.n
                  have lw5 := hWa.L.size
                  have s0 : True := trivial
                  have HL : Hid (D2.tr.length = tn) := hWs.t.len
                  by_cases h100 : tn = 100
                  · have HT : Hid (tpF D2.tr = (D2.tr ++ [0]).drop 1) := if_pos (by have := HL.out; omega)
                    subst h100
                    go_wp2_with (first
                      | (at_builtin; have _t := s0; clear s0; refine wpList_psX Try.elI w35 (.int .i64 (k : Int)) rfl rfl _ _ rfl na nn nc w5.heap.size (zys Nw) rfl vn5 lw5 rfl (by omega) ?_; intro gn cn w36 vn6 u6 hx6; have hWb := hWa.newN (Nw' := Nw ++ [(k : Int)]) (by rw [show zys (Nw ++ [(k : Int)]) = zys Nw ++ [.int .i64 (k : Int)] from by simp [zys]]; exact vn6) u6 hx6; have vt6 := hWb.t; have lw6 := hWb.L.size; have s1 : True := trivial)
                      | (at_builtin; have _t := s1; clear s1; refine wpList_psO w36 0 rfl _ _ rfl ta 100 tc w5.heap.size D2.tr rfl vt6 lw6 rfl (by omega) ?_; intro a7 c7 w37 r7 vt7 u7 hr7 hk7; have hWc := hWb.newT vt7 u7 hr7 hk7; obtain ⟨gT, oT, eT⟩ : ∃ gT oT, a7 = some ⟨gT, oT, none⟩ := (by rcases vt7.at' with ⟨_, h0, _⟩ | ⟨gT, oT, _, h1, _⟩; exact absurd h0 (by omega); exact ⟨gT, oT, h1⟩); subst eT; have c7m := vt7.max))
                    have hWd := hWc.newT (vt7.tail (by omega)) (World.grownBy.refl w37 none) (fun y e => by cases e) (by rintro y ⟨o', s', e'⟩; cases e'; exact .inl ⟨_, _, rfl⟩)
                    have hfin : RV w5 w37 g A7 ((vfT (D2.b (D2.bd.set k y)) k).t D.tr) (some ⟨gT, oT + 1, none⟩) 100 (c7 - 1) (vfT (D2.b (D2.bd.set k y)) k).tr (some ⟨gn, 0, none⟩) (nn + 1) cn (Nw ++ [(k : Int)]) := by
                      show RV _ _ _ _ _ _ _ _ (tpF D2.tr) _ _ _ _
                      rw [HT.out]
                      exact hWd
                    clear hWc hWd hWb hWa hWs
                    refine ⟨⟨k + 1, _, 100, c7 - 1, _, nn + 1, cn, by go_num, by omega, rfl, rfl, ?_⟩, by simp [intOf]; omega⟩
                    rw [HX.out]
                    dsimp only
                    rw [HWV.out, HWF.out, if_pos HC.out, if_pos HC.out]
                    exact hfin
                  · have HT : Hid (tpF D2.tr = D2.tr ++ [0]) := if_neg (by have := HL.out; omega)
                    have h101 : ¬ (100 : Int) < (tn : Int) + 1 := by omega
                    have h102 : ¬ 100 < tn + 1 := by omega
                    have h103 : ((tn + 1 : Nat) : Int) = (tn : Int) + 1 := by omega
                    go_wp2_with (first
                      | (at_builtin; have _t := s0; clear s0; refine wpList_psX Try.elI w35 (.int .i64 (k : Int)) rfl rfl _ _ rfl na nn nc w5.heap.size (zys Nw) rfl vn5 lw5 rfl (by omega) ?_; intro gn cn w36 vn6 u6 hx6; have hWb := hWa.newN (Nw' := Nw ++ [(k : Int)]) (by rw [show zys (Nw ++ [(k : Int)]) = zys Nw ++ [.int .i64 (k : Int)] from by simp [zys]]; exact vn6) u6 hx6; have vt6 := hWb.t; have lw6 := hWb.L.size; have s1 : True := trivial)
                      | (at_builtin; have _t := s1; clear s1; refine wpList_psO w36 0 rfl _ _ rfl ta tn tc w5.heap.size D2.tr rfl vt6 lw6 rfl (by omega) ?_; intro a7 c7 w37 r7 vt7 u7 hr7 hk7; have hWc := hWb.newT vt7 u7 hr7 hk7; obtain ⟨gT, oT, eT⟩ : ∃ gT oT, a7 = some ⟨gT, oT, none⟩ := (by rcases vt7.at' with ⟨_, h0, _⟩ | ⟨gT, oT, _, h1, _⟩; exact absurd h0 (by omega); exact ⟨gT, oT, h1⟩); subst eT; have c7m := vt7.max))
                    have hfin : RV w5 w37 g A7 ((vfT (D2.b (D2.bd.set k y)) k).t D.tr) (some ⟨gT, oT, none⟩) (tn + 1) c7 (vfT (D2.b (D2.bd.set k y)) k).tr (some ⟨gn, 0, none⟩) (nn + 1) cn (Nw ++ [(k : Int)]) := by
                      show RV _ _ _ _ _ _ _ _ (tpF D2.tr) _ _ _ _
                      rw [HT.out]
                      exact hWc
                    clear hWc hWb hWa hWs
                    refine ⟨⟨k + 1, _, tn + 1, c7, _, nn + 1, cn, by go_num, by omega, rfl, rfl, ?_⟩, by simp [intOf]; omega⟩
                    rw [HX.out]
                    dsimp only
                    rw [HWV.out, HWF.out, if_pos HC.out, if_pos HC.out]
                    exact hfin
                · rw [if_neg (by simp)] at HWV HWF
                  rw [← hyf] at m3
                  clear hyf
                  go_wp2
                  go_quiet (fail)
                  go_wp2
                  go_roundw
                  case rel => exact ⟨k + 1, ta, tn, tc, na, nn, nc, by go_num, by omega, rfl, rfl, by rw [HX.out]; dsimp only; rw [HWV.out, HWF.out]; exact hWr.keep (grown_drewN w33 nq none)⟩
                  case measure => simp [intOf]; omega
              · have HE : Hid ((y == mm.fr) = false) := by show _ = _; simp [hyf]
                rw [HE.out, if_neg (by simp)] at HWV HWF
                go_wp2
                go_quiet (fail)
                go_wp2
                go_roundw
                case rel => exact ⟨k + 1, ta, tn, tc, na, nn, nc, by go_num, by omega, rfl, rfl, by rw [HX.out]; dsimp only; rw [HWV.out, HWF.out]; exact hWr.keep (grown_drewN w33 nq none)⟩
                case measure => simp [intOf]; omega
      · -- EXIT
        have hlt' : ¬ (k : Int) < (G.n : Int) := by omega
        obtain rfl : k = G.n := by omega
        go_wp2
        go_meet
        exact ⟨ta, tn, tc, na, nn, nc, rfl, rfl, hW⟩
  case rest =>
    obtain ⟨ta2, tn2, tc2, na2, nn2, nc2, h17, h19, hW2⟩ := hcut
    subst h17
    subst h19
    generalize wc = w9 at *
    apply_assumption
    obtain ⟨i1, i2, i3, i4, i5, i6', i7, i8, i9⟩ := hI G.n
    refine vs_safe w w5 w9 G F A D A7 (tkP F Vs (grV D G he) G.n).1 g gg gb gr na2 nn2 nc2 (tkP F Vs (grV D G he) G.n).2 t0 t1 t2 hgr G5 hM hn (by omega) i7 ta2 tn2 tc2 he le D.tr i4 (fun h => i9.trans (hwy h)) (by rw [← HNP.out]; omega) hW2

/-- the trips, as the document lets them grow older -/
def reN (tr : List Int) (wi : Int) : Nat → List Int
  | 0 => []
  | k + 1 => reN tr wi k ++ (if nthI tr k + 1 < wi then [nthI tr k + 1] else [])
theorem reN_len (tr : List Int) (wi : Int) (k : Nat) : (reN tr wi k).length ≤ k := by
  induction k with
  | zero => exact Nat.le_refl _
  | succ k ih => simp only [reN, List.length_append]; split <;> simp <;> omega
theorem reN_gr (tr : List Int) (wi : Int) (k : Nat) (hk : k ≤ tr.length) (h : ∀ j, j < tr.length → nthI tr j ≤ wi - 1) : reN tr wi k = fkL (fun z => z == wi) (olL tr) k := by
  induction k with
  | zero => rfl
  | succ k ih =>
    simp only [reN, fkL]
    rw [ih (by omega), olL_nth tr k (by omega)]
    have := h k (by omega)
    by_cases e : nthI tr k + 1 < wi
    · rw [if_pos e, if_neg (by simp; omega)]
    · rw [if_neg e, if_pos (by simp; omega)]
theorem quF_of (qu si : Int) (he : Bool) (h : qu ≤ si) : quF qu si he = if he = true then 0 else if qu < si then qu + 1 else qu := by
  unfold quF mnI
  cases he
  · simp only [Bool.false_eq_true, if_false]
    by_cases h1 : qu < si
    · rw [if_neg (by omega), if_pos h1]
    · rw [if_pos (by omega), if_neg h1]; omega
  · rfl
set_option maxHeartbeats 64000000 in
theorem rstep_any (G : Gd) (A : Va) (D : Vi) (F : Nat → Mo) (va : Option Addr) (vn vc : Nat) (Vs : List Int) (he le : Bool) (w : World) (hM : RdM w G.ma G.n G.mc F) (hV : RdVg w A D) (hX : RdX w va vn vc (zys Vs)) :
    Calls Try.prog 14 #[.agg #[.slice G.ma G.n G.mc, .int .i64 G.si, .int .i64 G.mo, .int .i64 G.wi, .string G.sa], .agg (vgA D A), .slice va vn vc, .bool he, .bool le] w fun e w' => StR w (stV F G D Vs he le (stE F G D vn)) (stL F G D Vs he le (stE F G D vn)) (stE F G D vn) e w' := by
  have b0 := BxS.new w 24 #[.slice G.ma G.n G.mc, .int .i64 G.si, .int .i64 G.mo, .int .i64 G.wi, .string G.sa]
  have g0 := World.grownBy_alloc w (.cells #[.slice G.ma G.n G.mc, .int .i64 G.si, .int .i64 G.mo, .int .i64 G.wi, .string G.sa] 24) none
  generalize hw0 : w.alloc (.cells #[.slice G.ma G.n G.mc, .int .i64 G.si, .int .i64 G.mo, .int .i64 G.wi, .string G.sa] 24) = w0 at b0 g0
  have hz0 : w0.heap.size = w.heap.size + 1 := by rw [← hw0]; simp
  have b1 := BxS.new w0 29 #[.bool D.sf, .int .i64 D.wy, .slice A.ab A.nb A.cb, .slice A.ap A.np A.cp, .int .i64 D.qu, .slice A.at' A.nt A.ct]
  have g1 := World.grownBy_alloc w0 (.cells #[.bool D.sf, .int .i64 D.wy, .slice A.ab A.nb A.cb, .slice A.ap A.np A.cp, .int .i64 D.qu, .slice A.at' A.nt A.ct] 29) none
  generalize hw1 : w0.alloc (.cells #[.bool D.sf, .int .i64 D.wy, .slice A.ab A.nb A.cb, .slice A.ap A.np A.cp, .int .i64 D.qu, .slice A.at' A.nt A.ct] 29) = w1 at b1 g1
  have hz1 : w1.heap.size = w.heap.size + 1 + 1 := by rw [← hw1]; simp [hz0]
  have b2 := BxS.new w1 29 #[.bool false, .int .i64 0, .slice none 0 0, .slice none 0 0, .int .i64 0, .slice none 0 0]
  have g2 := World.grownBy_alloc w1 (.cells #[.bool false, .int .i64 0, .slice none 0 0, .slice none 0 0, .int .i64 0, .slice none 0 0] 29) none
  generalize hw2 : w1.alloc (.cells #[.bool false, .int .i64 0, .slice none 0 0, .slice none 0 0, .int .i64 0, .slice none 0 0] 29) = w2 at b2 g2
  rw [hz0] at b1
  rw [hz1] at b2
  have hz2 : w2.heap.size = w.heap.size + 3 := by rw [← hw2]; simp [hz1]
  have p0 := (b0.keep g1 (by simp)).keep g2 (by simp)
  have p1 := b1.keep g2 (by simp)
  have G2 := grown_trans (grown_trans g0 g1) g2
  have hM2 := hM.keep G2
  have hV2 := hV.keep G2
  have hX2 := hX.keep G2
  have hC := rfault_any G.ma G.n G.mc G.si G.mo G.wi G.sa F w2 hM2
  have i6 := Try.info_vg
  unfold ftV at hC
  obtain ⟨c0, c1, c2, c3, c4⟩ := p0.cell5
  unfold vgA
  by_cases hE : (gfP F G.n G.si G.mo G.wi G.sa).1 = 0
  · obtain ⟨hn, ⟨hs0, hs1⟩, hwi, hmo⟩ := gfP_ok hE
    rw [hE, show ((0 : Nat) : Int) = 0 from rfl] at hC
    generalize (gfP F G.n G.si G.mo G.wi G.sa).2 = At at hC
    have kV := fun wz (h1 : RdM wz G.ma G.n G.mc F) (h2 : RdVg wz A D) => rvigilMay_any G A D F wz h1 h2 hn hwi
    unfold vgA at kV
    have hEE : stE F G D vn = if (vmB F G.n D G.si G.wi && amN F vn G.n) = true then 0 else 11 := if_pos hE
    have s1 : True := trivial
    obtain ⟨RE, HRE0⟩ : ∃ RE, stE F G D vn = RE := ⟨_, rfl⟩
    rw [HRE0]
    have HRE : Hid (RE = if (vmB F G.n D G.si G.wi && amN F vn G.n) = true then 0 else 11) := by rw [← HRE0]; exact hEE
    clear HRE0 hEE hE
    obtain ⟨qm, hqm⟩ : ∃ qm, vmB F G.n D G.si G.wi = qm := ⟨_, rfl⟩
    rw [hqm] at kV HRE
    have HQM : Hid (vmB F G.n D G.si G.wi = qm) := hqm
    clear hqm
    have hvx := hX.max
    have hvl := hX.le
    have hmm : maxLen ≤ 9223372036854775807 := by decide
    go_enter Try.func14, Try.ntmps14
    go_wp2_with (first
      | (go_at_call 10; refine hC.mono ?_; rintro e w3 ⟨rfl, g3⟩; clear c0 c1 c2 c3 c4; have gf := World.grownBy_alloc w3 (.cells #[.int .i64 0, .int .i64 (At : Int)] 34) none; have g4 := grown_trans g3 gf; have r0 := p0.keep g4 (by simp); have r1 := p1.keep g4 (by simp); have r2 := b2.keep g4 (by simp); obtain ⟨c0, c1, c2, c3, c4⟩ := r0.cell5; obtain ⟨d0, d1, d2, d3, d4, d5⟩ := r1.cell6; have G4 := grown_trans G2 g4; have hM4 := hM.keep G4; have hV4 := hV.keep G4; have hX4 := hX.keep G4; clear s1; have s2 : True := trivial)
      | (go_at_call 29; refine (kV _ hM4 hV4).mono ?_; rintro e w5 ⟨rfl, g5⟩; clear c0 c1 c2 c3 c4 d0 d1 d2 d3 d4 d5; have t0 := r0.keep g5 (by simp); have t1 := r1.keep g5 (by simp); have t2 := r2.keep g5 (by simp); have G5 := grown_trans G4 g5))
    clear hC kV p0 p1 b0 b1 b2 g0 g1 g2 r0 r1 r2
    go_loopw [14, 15] (fun sk iv wr => ∃ k : Nat, iv = .int .i64 k ∧ k ≤ G.n ∧ sk = .bool (qm && amN F vn k) ∧ wr = w5) (fun _ iv _ => G.n - (intOf iv).toNat)
    case atStart => exact ⟨0, by go_num, Nat.zero_le _, by simp [amN], rfl⟩
    case round =>
      obtain ⟨k, rfl, hk, rfl, hwr⟩ := hrel
      have hwr := hwr.symm
      subst hwr
      obtain ⟨c0, c1, c2, c3, c4⟩ := t0.cell5
      obtain ⟨d0, d1, d2, d3, d4, d5⟩ := t1.cell6
      by_cases hlt : k < G.n
      · have hlt' : (k : Int) < (G.n : Int) := by omega
        have hMr := hM.keep G5
        obtain ⟨b, off, ema, hbw, _⟩ := hMr.at' (by omega)
        rw [ema] at hMr c0
        obtain ⟨k0, k1, k2, k3, k4, k5⟩ := hMr.six k hlt
        have HX : Hid ((qm && amN F vn (k + 1)) = (qm && amN F vn k && decide ((F k).of' < (vn : Int)))) := by show _ = _; simp only [amN]; rw [Bool.and_assoc]
        clear hMr ema
        generalize F k = m at *
        generalize (qm && amN F vn k) = qk at *
        cases qk
        · go_wp2
          go_roundw
          case rel => exact ⟨k + 1, by go_num, by omega, by rw [HX.out]; simp, by trivial⟩
          case measure => simp [intOf]; omega
        · go_wp2
          go_roundw
          case rel => exact ⟨k + 1, by go_num, by omega, by rw [HX.out]; simp, by trivial⟩
          case measure => simp [intOf]; omega
      · have hlt' : ¬ (k : Int) < (G.n : Int) := by omega
        obtain rfl : k = G.n := by omega
        cases hq : (qm && amN F vn G.n)
        · rw [hq] at HRE
          have hRE : RE = 11 := HRE.out
          subst hRE
          have s3 : True := trivial
          go_wp2_with (have _t := s3; clear s3; refine wpList_stX _ rfl _ (.tmp 10) (.tmp 61) rfl (w.heap.size + 1 + 1) _ _ rfl rfl t2 i6 rfl (by simp [Value.oneCell']) ?_; intro w9 b9 g9)
          refine bodyPost_ret (results_cell3s rfl _ _ _ ⟨w.heap.size + 1 + 1, 0, none⟩ _ (.slice none 0 0) (.int .i64 11) rfl (BxS.load (t := 29) b9 Try.underlying29 i6) rfl rfl) rfl ?_
          exact (stA_zero w w9 11 (grown_far G5 g9 (fun q e => by have e : w.heap.size + 1 + 1 = q := Option.some.inj e; omega))).r
        · rw [hq] at HRE
          have hRE : RE = 0 := HRE.out
          subst hRE
          obtain ⟨hq1, hq2⟩ : qm = true ∧ amN F vn G.n = true := by simpa using hq
          subst hq1
          have hvm := HQM.out
          unfold vmB mmB tmB at hvm
          simp only [Bool.and_eq_true, decide_eq_true_eq] at hvm
          obtain ⟨⟨⟨⟨⟨hbl, hpl⟩, hms⟩, hqk⟩, htl, htn⟩, hlast⟩ := hvm
          have hqk := kwB_ok hqk
          have hV5 := hV.keep G5
          have kO := vigilOf_any A D w5 hV5 (by have := hV.b.lenI; omega) (by have := hV.p.lenH; omega) (by have := hV.t.lenI; omega)
          unfold vgA at kO
          go_upto_if 64 with (first
            | (go_at_call 15; refine kO.mono ?_; rintro e w7 ⟨A7, rfl, hO7, g7⟩; have y7 := World.grownBy_alloc w7 (.cells #[.bool D.sf, .int .i64 (D.wy), .slice A7.ab A7.nb A7.cb, .slice A7.ap A7.np A7.cp, .int .i64 (D.qu), .slice A7.at' A7.nt A7.ct] 29) none; have v7 := BxS.new w7 29 #[.bool D.sf, .int .i64 (D.wy), .slice A7.ab A7.nb A7.cb, .slice A7.ap A7.np A7.cp, .int .i64 (D.qu), .slice A7.at' A7.nt A7.ct]; clear c0 c1 c2 c3 c4 d0 d1 d2 d3 d4 d5))
          have hB7 : RV w5 (w7.alloc (.cells #[.bool D.sf, .int .i64 (D.wy), .slice A7.ab A7.nb A7.cb, .slice A7.ap A7.np A7.cp, .int .i64 (D.qu), .slice A7.at' A7.nt A7.ct] 29)) w7.heap.size A7 D none 0 0 [] none 0 0 [] := ⟨v7, g7.size, hO7.keep y7, ⟨rfl, ⟨Nat.le_refl _, Nat.zero_le _⟩, .inl ⟨rfl, rfl, rfl⟩⟩, AnsX.nil0 _ _ _, ((Fz.refl _ w5).step g7 (fun k e _ => by cases e)).step y7 (fun k e _ => by cases e), (fun y h => by obtain ⟨_, _, e⟩ := h; cases e), fun y e => by cases e⟩
          have q0 := (t0.keep g7 (by simp)).keep y7 (by simp)
          generalize hg : w7.heap.size = g at *
          have glt : w5.heap.size ≤ g := by rw [← hg]; exact g7.size
          generalize w7.alloc (.cells #[.bool D.sf, .int .i64 (D.wy), .slice A7.ab A7.nb A7.cb, .slice A7.ap A7.np A7.cp, .int .i64 (D.qu), .slice A7.at' A7.nt A7.ct] 29) = w8 at *
          clear hg y7 v7 hO7 g7 kO
          have s4 : True := trivial
          go_cut [] from 65 to 74 (fun wx => RV w5 wx g A7 ⟨D.sf, D.wy, D.bd, D.tp, quF D.qu G.si he, D.tr⟩ none 0 0 [] none 0 0 [])
          case first =>
            obtain ⟨c0, c1, c2, c3, c4⟩ := q0.cell5
            have bx := hB7.box
            unfold vgA at bx
            obtain ⟨d0, d1, d2, d3, d4, d5⟩ := bx.cell6
            have hqf := quF_of D.qu G.si he hqk.2
            have HQF : Hid (quF D.qu G.si he = if he = true then 0 else if D.qu < G.si then D.qu + 1 else D.qu) := hqf
            clear hqf
            cases he
            · by_cases hlq : D.qu < G.si
              · have HQ : Hid (quF D.qu G.si false = D.qu + 1) := by show _ = _; rw [HQF.out]; simp [hlq]
                have hb1 : D.qu + 1 ≤ 9223372036854775807 := by omega
                have hb0 : 0 ≤ D.qu := hqk.1
                go_wp2_with (have _t := s4; clear s4; refine wpList_stC _ rfl _ _ _ rfl g 4 29 _ #[.bool D.sf, .int .i64 (D.wy), .slice A7.ab A7.nb A7.cb, .slice A7.ap A7.np A7.cp, .int .i64 (D.qu + 1), .slice A7.at' A7.nt A7.ct] (.int .i64 (D.qu + 1)) rfl rfl bx (stc_int _ _ _) (by show 4 < 6; decide) rfl ?_; intro w9 b9 u9)
                go_meet
                rw [HQ.out]
                exact hB7.setS D.sf D.wy (D.qu + 1) b9 u9
              · have HQ : Hid (quF D.qu G.si false = D.qu) := by show _ = _; rw [HQF.out]; simp [hlq]
                go_wp2
                go_meet
                rw [HQ.out]
                exact hB7
            · go_wp2_with (have _t := s4; clear s4; refine wpList_stC _ rfl _ _ _ rfl g 4 29 _ #[.bool D.sf, .int .i64 (D.wy), .slice A7.ab A7.nb A7.cb, .slice A7.ap A7.np A7.cp, .int .i64 0, .slice A7.at' A7.nt A7.ct] (.int .i64 0) rfl rfl bx (stc_int _ _ _) (by show 4 < 6; decide) rfl ?_; intro w9 b9 u9)
              go_meet
              exact hB7.setS D.sf D.wy 0 b9 u9
          case rest =>
            have hR9 := hcut
            clear hcut
            rename_i hKK
            refine hKK _ _ ?_
            clear hKK
            generalize wc = w9 at *
            have HNT : Hid (D.tr.length = A7.nt) := by have := hR9.v.t.len; rw [zys_length] at this; exact this
            have htb : ∀ k, k < A7.nt → 0 ≤ nthI D.tr k ∧ nthI D.tr k ≤ G.wi - 1 := fun k hk => trN_at D.tr G.wi _ htn k (by rw [HNT.out]; exact hk)
            have hnt100 : A7.nt ≤ 100 := by rw [← HNT.out]; exact htl
            have hw2 := hwi.2
            clear hB7 q0
            have bx9 := hR9.box
            unfold vgA at bx9
            obtain ⟨d0, d1, d2, d3, d4, d5⟩ := bx9.cell6
            go_upto_block 2 with fail
            clear d0 d1 d2 d3 d4 d5 bx9
            go_cut [17, 18] from 75 to 99 (fun s17 s18 wx => ∃ (ta : Option Addr) (tn tc : Nat), s17 = .slice ta tn tc ∧ RV w5 wx g A7 ⟨D.sf, D.wy, D.bd, D.tp, quF D.qu G.si he, D.tr⟩ ta tn tc (reN D.tr G.wi A7.nt) none 0 0 [])
            case first =>
              go_wp2
              go_loopw [17, 18] (fun sv iv wr => ∃ (k : Nat) (ta : Option Addr) (tn tc : Nat), iv = .int .i64 k ∧ k ≤ A7.nt ∧ sv = .slice ta tn tc ∧ RV w5 wr g A7 ⟨D.sf, D.wy, D.bd, D.tp, quF D.qu G.si he, D.tr⟩ ta tn tc (reN D.tr G.wi k) none 0 0 []) (fun _ iv _ => A7.nt - (intOf iv).toNat)
              case atStart => exact ⟨0, none, 0, 0, by go_num, Nat.zero_le _, rfl, hR9⟩
              case round =>
                obtain ⟨k, ta, tn, tc, rfl, hk, rfl, hW⟩ := hrel
                clear hR9
                have bxr := hW.box
                unfold vgA at bxr
                obtain ⟨d0, d1, d2, d3, d4, d5⟩ := bxr.cell6
                have qr := t0.fz hW.L (fun h => by have := t0.lt; omega)
                obtain ⟨c0, c1, c2, c3, c4⟩ := qr.cell5
                by_cases hlt : k < A7.nt
                · have hlt' : (k : Int) < (A7.nt : Int) := by omega
                  obtain ⟨gt, et, _, _⟩ := hW.v.t.some_of (by omega)
                  have hvt := hW.v.t
                  have hmt := hvt.max
                  rw [et] at hvt d5
                  have ck := hvt.cell k _ (zys_at D.tr k (by rw [HNT.out]; exact hlt))
                  obtain ⟨z0, z1⟩ := htb k hlt
                  have htl2 : tn ≤ 100 := by
                    have h1 := hW.t.len
                    have h2 := reN_len D.tr G.wi k
                    omega
                  have HRN : Hid (reN D.tr G.wi (k + 1) = reN D.tr G.wi k ++ (if nthI D.tr k + 1 < G.wi then [nthI D.tr k + 1] else [])) := rfl
                  have ckf : ∀ wz, RV w5 wz g A7 ⟨D.sf, D.wy, D.bd, D.tp, quF D.qu G.si he, D.tr⟩ ta tn tc (reN D.tr G.wi k) none 0 0 [] → wz.cell? ⟨gt, k, none⟩ = some (.int .i64 (nthI D.tr k)) := fun wz hz => by
                    have hv := hz.v.t
                    rw [et] at hv
                    exact hv.cell k _ (zys_at D.tr k (by rw [HNT.out]; exact hlt))
                  have HET : Hid (A7.at' = some ⟨gt, 0, none⟩) := et
                  clear htb hvt et
                  generalize nthI D.tr k = z at *
                  have hwz : IntKind.i64.wrap (z + 1) = z + 1 := i64_in (by omega) (by omega)
                  by_cases hz : z + 1 < G.wi
                  · rw [if_pos hz] at HRN
                    go_wp2
                    go_quiet (fail)
                    have hW2 := hW.keep (grown_drewN wr nq none)
                    generalize wr.drewN nq = w2' at *
                    clear nq
                    have bx2 := hW2.box
                    unfold vgA at bx2
                    rw [HET.out] at bx2
                    clear d0 d1 d2 d3 d4 d5 ck c0 c1 c2 c3 c4
                    obtain ⟨d0, d1, d2, d3, d4, d5⟩ := bx2.cell6
                    have ck2 := ckf _ hW2
                    clear ckf
                    have lw2 := hW2.L.size
                    have vt2 := hW2.t
                    go_wp2_with (at_builtin; refine wpList_psO w2' (z + 1) rfl _ _ rfl ta tn tc w5.heap.size (reN D.tr G.wi k) rfl vt2 lw2 rfl (by omega) ?_; intro a3 c3 w3' r3 vt3 u3 hr3 hk3)
                    go_roundw
                    case rel => exact ⟨k + 1, a3, tn + 1, c3, by go_num, by omega, rfl, by rw [HRN.out]; exact hW2.newT vt3 u3 hr3 hk3⟩
                    case measure => simp [intOf]; omega
                  · rw [if_neg hz, List.append_nil] at HRN
                    go_wp2
                    go_quiet (fail)
                    go_wp2
                    go_roundw
                    case rel => exact ⟨k + 1, ta, tn, tc, by go_num, by omega, rfl, by rw [HRN.out]; exact hW.keep (grown_drewN wr nq none)⟩
                    case measure => simp [intOf]; omega
                · have hlt' : ¬ (k : Int) < (A7.nt : Int) := by omega
                  obtain rfl : k = A7.nt := by omega
                  go_wp2
                  go_meet
                  exact ⟨ta, tn, tc, rfl, hW⟩
            case rest =>
              obtain ⟨ta, tn, tc, h17, hW⟩ := hcut
              subst h17
              clear hR9
              generalize wc = wr at *
              apply_assumption
              have hre : reN D.tr G.wi A7.nt = (grV D G he).tr := by
                show _ = grL D.tr G.wi
                unfold grL
                rw [← HNT.out]
                exact reN_gr D.tr G.wi _ (Nat.le_refl _) (fun j hj => (htb j (by rw [← HNT.out]; exact hj)).2)
              rw [hre] at hW
              have hgl : (grV D G he).tr.length ≤ 100 := by
                unfold grV grL
                exact Nat.le_trans (fkL_len _ _ _) htl
              have hbd : ∀ k, k < G.n → 0 ≤ nthI D.bd k ∧ nthI D.bd k ≤ (F k).fr ∧ (F k).fr ≤ 1000 := fun k hk => by
                have := msN_at F D.bd D.tp G.n hms k hk
                have := hmo k hk
                omega
              have hof : ∀ k, k < G.n → 0 ≤ (F k).of' ∧ (F k).of' < (vn : Int) := fun k hk => ⟨(hmo k hk).1.1, amN_at F vn G.n hq2 k hk⟩
              have hgr : w.heap.size ≤ w.heap.size + 1 + 1 := by omega
              have hM5 := hM.keep G5
              have hX5 := hX.keep G5
              have hwy : D.sf = false → D.wy = -1 := by
                intro hs
                have h1 := hlast
                unfold wyB at h1
                rw [hs] at h1
                simpa using h1
              exact vs_watch w w5 wr G F A D A7 g w.heap.size (w.heap.size + 1) (w.heap.size + 1 + 1) t0 t1 t2 hgr G5 hM5 hn va vn vc Vs hX5 ta tn tc he le hbl hpl hgl hbd hof hwy hW
  · have hEE : stE F G D vn = (gfP F G.n G.si G.mo G.wi G.sa).1 := if_neg hE
    generalize gfP F G.n G.si G.mo G.wi G.sa = p at *
    obtain ⟨E, At⟩ := p
    dsimp only at hE hEE hC
    rw [hEE, show stV F G D Vs he le E = vi0 from if_neg hE, show stL F G D Vs he le E = [] from if_neg hE]
    have hE' : ((E : Int) != 0) = true := by simp; omega
    clear hEE
    have s1 : True := trivial
    go_enter Try.func14, Try.ntmps14
    go_wp2_with (first | (go_at_call 10; refine hC.mono ?_; rintro e w3 ⟨rfl, g3⟩; clear c0 c1 c2 c3 c4; have gf := World.grownBy_alloc w3 (.cells #[.int .i64 (E : Int), .int .i64 (At : Int)] 34) none; have g4 := grown_trans g3 gf; have r0 := p0.keep g4 (by simp); have r1 := p1.keep g4 (by simp); have r2 := b2.keep g4 (by simp); obtain ⟨c0, c1, c2, c3, c4⟩ := r0.cell5; obtain ⟨d0, d1, d2, d3, d4, d5⟩ := r1.cell6; have G4 := grown_trans G2 g4; have hM4 := hM.keep G4; have hV4 := hV.keep G4; have hX4 := hX.keep G4; clear s1; have s2 : True := trivial))
    have bf := BxS.new w3 34 #[.int .i64 (E : Int), .int .i64 (At : Int)]
    have cf := bf.cell 0 (by show 0 < 2; decide)
    have hlt3 := g3.size
    generalize w3.alloc (.cells #[.int .i64 (E : Int), .int .i64 (At : Int)] 34) = w4 at *
    change w4.cell? ⟨w3.heap.size, 0, none⟩ = some (.int .i64 (E : Int)) at cf
    refine wp_regionL (fun wz => wz.cell? ⟨w3.heap.size, 0, none⟩ = some (.int .i64 (E : Int)) ∧ BxS wz (w.heap.size + 1 + 1) 29 #[.bool false, .int .i64 0, .slice none 0 0, .slice none 0 0, .int .i64 0, .slice none 0 0]) [] #[false, false, false, false, false, false] rfl (by kernel_rfl) ?_
    refine wpAnyZ_take [] 0 (.agg #[.bool false, .int .i64 0, .slice none 0 0, .slice none 0 0, .int .i64 0, .slice none 0 0]) rfl (by kernel_rfl) (fun _ _ _ h => h) ⟨cf, r2⟩ rfl (by rintro wz ⟨z0, z1⟩; go_simp) ?_
    try simp only [List.getElem_toArray, List.getElem_cons_succ, List.getElem_cons_zero, Act.put, List.setIfInBounds_toArray, List.set_cons_zero, List.set_cons_succ]
    refine wpAnyZ_take [] 1 (.pointer (some ⟨w3.heap.size, 0, none⟩)) rfl (by kernel_rfl) (fun _ _ _ h => h) ⟨cf, r2⟩ rfl (by rintro wz ⟨z0, z1⟩; go_simp) ?_
    try simp only [List.getElem_toArray, List.getElem_cons_succ, List.getElem_cons_zero, Act.put, List.setIfInBounds_toArray, List.set_cons_zero, List.set_cons_succ]
    refine wpAnyZ_take [] 2 (.int .i64 (E : Int)) rfl (by kernel_rfl) (fun _ _ _ h => h) ⟨cf, r2⟩ rfl (by rintro wz ⟨z0, z1⟩; go_simp) ?_
    try simp only [List.getElem_toArray, List.getElem_cons_succ, List.getElem_cons_zero, Act.put, List.setIfInBounds_toArray, List.set_cons_zero, List.set_cons_succ]
    refine wpAnyZ_oneB 3 rfl (by kernel_rfl) (fun K hK => ?_)
    refine step_stX _ rfl 29 (.tmp 10) (.tmp 34) rfl (w.heap.size + 1 + 1) _ _ rfl rfl r2 i6 rfl (by simp [Value.oneCell']) ?_
    intro w9 b9 g9
    have cf9 : w9.cell? ⟨w3.heap.size, 0, none⟩ = some (.int .i64 (E : Int)) := ((bf.keep (grown_drew w4 none) (by simp)).keep g9 (fun e => by have := Option.some.inj e; omega)).cell 0 (by show 0 < 2; decide)
    refine hK _ _ (fun _ => ⟨cf9, b9⟩) ?_
    try simp only [List.getElem_toArray, List.getElem_cons_succ, List.getElem_cons_zero, Act.put, List.setIfInBounds_toArray, List.set_cons_zero, List.set_cons_succ]
    refine wpAnyZ_take [] 4 (.slice none 0 0) rfl (by kernel_rfl) (fun _ _ _ h => h) ⟨cf9, b9⟩ rfl (by rintro wz ⟨z0, z1⟩; go_simp) ?_
    try simp only [List.getElem_toArray, List.getElem_cons_succ, List.getElem_cons_zero, Act.put, List.setIfInBounds_toArray, List.set_cons_zero, List.set_cons_succ]
    refine wpAnyZ_take [] 5 (.int .i64 (E : Int)) rfl (by kernel_rfl) (fun _ _ _ h => h) ⟨cf9, b9⟩ rfl (by rintro wz ⟨z0, z1⟩; go_simp) ?_
    try simp only [List.getElem_toArray, List.getElem_cons_succ, List.getElem_cons_zero, Act.put, List.setIfInBounds_toArray, List.set_cons_zero, List.set_cons_succ]
    refine wpAnyZ_doneB (by kernel_rfl) ?_ _
    go_wp2
    refine bodyPost_ret (results_cell3s rfl _ _ _ ⟨w.heap.size + 1 + 1, 0, none⟩ _ (.slice none 0 0) (.int .i64 (E : Int)) rfl (BxS.load (t := 29) b9 Try.underlying29 i6) rfl rfl) rfl ?_
    exact StA.r (stA_zero w w9 E (grown_far (grown_trans G4 (grown_drew w4 none)) g9 (fun q e => by have e : w.heap.size + 1 + 1 = q := Option.some.inj e; omega)))
end Go.Proofs.Ytnpkmjdlohdieaa
