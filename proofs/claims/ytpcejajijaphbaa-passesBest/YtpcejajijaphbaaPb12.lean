import Derived.Test.YtpcejajijaphbaaPb11
namespace Go.Proofs.Ytpcejajijaphbaa
open Go.RowKit
set_option maxRecDepth 100000
set_option linter.unusedVariables false
set_option linter.unusedSimpArgs false

section
theorem okD : paD.ok := ⟨⟨by decide, by decide⟩, ⟨by decide, by decide⟩, ⟨by decide, by decide⟩, ⟨by decide, by decide⟩⟩
theorem ok_getD (Ps : List Pa) (h : ∀ p, p ∈ Ps → p.ok) (i : Nat) : (Ps.getD i paD).ok := by
  rw [List.getD_eq_getElem?_getD]
  cases e : Ps[i]? with
  | none => exact okD
  | some p => exact h p (List.mem_of_getElem? e)
theorem one_best (O : List Nat) (hl : O.length = 1) (hm : ∀ p, p ∈ O ↔ p < 1) : bestV (fun i => [(⟨0, 1, 2, 5⟩ : Pa)].getD i paD) 0 O = ([0], 5) := by
  match O with
  | [] => cases hl
  | [x] =>
    have := (hm x).1 (List.mem_cons_self ..)
    have e : x = 0 := by omega
    subst e
    decide +kernel
  | x :: y :: r => simp at hl
set_option maxHeartbeats 32000000 in
theorem pb_end {u0 u1 u3 u4 u5 u6 u8 u9 u10 u11 u12 u13 u14 u15 u16 u17 u18 u19 u20 u21 u22 u23 u24 u25 u26 u27 u28 u29 u30 u31 u32 u33 u34 u35 u36 u37 u38 u39 u40 u41 u42 u43 u44 u45 u46 u47 u48 u49 u50 u51 u52 u53 u54 u55 u56 u57 u58 u59 u60 u61 u62 u63 u64 u65 u66 u67 u68 u69 u70 u71 u72 u73 u74 u75 u76 u77 u78 u79 u80 u81 u82 u83 u84 u85 u86 u87 u88 u89 u90 u91 u92 u93 u94 u95 u96 u97 u98 u99 u100 u101 u102 u103 u104 u105 u106 u107 u108 u109 u110 u111 u112 u113 u114 u115 u116 u117 u118 u119 u120 u121 u122 u123 u124 u125 u126 u127 u128 u129 u130 u131 u132 u133 u134 u135 u136 u137 u138 u139 u140 u141 u142 u143 u144 u145 u146 u147 u148 u149 u150 u151 u152 u153 u154 u155 u156 u157 u158 u159 u160 u161 u162 u163 u164 u165 u166 u167 u168 u169 u170 u171 u172 u173 u174 u175 u176 u177 u178 u179 u180 u181 u182 u183 u184 u185 u186 u187 u188 u189 u190 u191 u192 u193 u194 u195 u196 u197 u198 u199 u200 u201 u202 u203 u204 u205 u206 u207 u208 u209 u210 u211 u212 u213 u214 u215 u216 u217 u218 u219 u220 u221 u222 u223 u224 u225 u226 u227 u228 u229 u230 u231 u232 u233 u234 u235 : Value} (w wr : World) (GR : w.grownBy wr none) (la : Option Addr) (n lc : Nat) (Ps : List Pa) (hO : OwPa wr w.heap.size la n lc Ps) (hok : ∀ p, p ∈ Ps → p.ok) (h9 : n ≤ 9) (g8 : Nat) (hg8 : g8 < 8) (gp : Int) (HP8 : ∀ wz, Calls Try.prog 9 #[.int .i64 gp, .int .i64 8] wz fun e w' => e = .returned (.int .i64 (g8 : Int)) ∧ w' = wz) :
    Code.wp Try.prog (tailR 10 (Try.f4.body.getD .skip)) (bodyPost Try.prog Try.f4 fun e w' => e = .returned (.bool true) ∧ w.grownBy w' none) (Act.mk (List.toArray (u0 :: u1 :: (.int .i64 gp) :: u3 :: u4 :: u5 :: u6 :: (.slice la n lc) :: u8 :: u9 :: u10 :: u11 :: u12 :: u13 :: u14 :: u15 :: u16 :: u17 :: u18 :: u19 :: u20 :: u21 :: u22 :: u23 :: u24 :: u25 :: u26 :: u27 :: u28 :: u29 :: u30 :: u31 :: u32 :: u33 :: u34 :: u35 :: u36 :: u37 :: u38 :: u39 :: u40 :: u41 :: u42 :: u43 :: u44 :: u45 :: u46 :: u47 :: u48 :: u49 :: u50 :: u51 :: u52 :: u53 :: u54 :: u55 :: u56 :: u57 :: u58 :: u59 :: u60 :: u61 :: u62 :: u63 :: u64 :: u65 :: u66 :: u67 :: u68 :: u69 :: u70 :: u71 :: u72 :: u73 :: u74 :: u75 :: u76 :: u77 :: u78 :: u79 :: u80 :: u81 :: u82 :: u83 :: u84 :: u85 :: u86 :: u87 :: u88 :: u89 :: u90 :: u91 :: u92 :: u93 :: u94 :: u95 :: u96 :: u97 :: u98 :: u99 :: u100 :: u101 :: u102 :: u103 :: u104 :: u105 :: u106 :: u107 :: u108 :: u109 :: u110 :: u111 :: u112 :: u113 :: u114 :: u115 :: u116 :: u117 :: u118 :: u119 :: u120 :: u121 :: u122 :: u123 :: u124 :: u125 :: u126 :: u127 :: u128 :: u129 :: u130 :: u131 :: u132 :: u133 :: u134 :: u135 :: u136 :: u137 :: u138 :: u139 :: u140 :: u141 :: u142 :: u143 :: u144 :: u145 :: u146 :: u147 :: u148 :: u149 :: u150 :: u151 :: u152 :: u153 :: u154 :: u155 :: u156 :: u157 :: u158 :: u159 :: u160 :: u161 :: u162 :: u163 :: u164 :: u165 :: u166 :: u167 :: u168 :: u169 :: u170 :: u171 :: u172 :: u173 :: u174 :: u175 :: u176 :: u177 :: u178 :: u179 :: u180 :: u181 :: u182 :: u183 :: u184 :: u185 :: u186 :: u187 :: u188 :: u189 :: u190 :: u191 :: u192 :: u193 :: u194 :: u195 :: u196 :: u197 :: u198 :: u199 :: u200 :: u201 :: u202 :: u203 :: u204 :: u205 :: u206 :: u207 :: u208 :: u209 :: u210 :: u211 :: u212 :: u213 :: u214 :: u215 :: u216 :: u217 :: u218 :: u219 :: u220 :: u221 :: u222 :: u223 :: u224 :: u225 :: u226 :: u227 :: u228 :: u229 :: u230 :: u231 :: u232 :: u233 :: u234 :: u235 :: [])) []) wr := by
  conv => enter [2]; whnf
  have hF : ∀ i, ((fun i => Ps.getD i paD) i).ok := fun i => ok_getD Ps hok i
  have hP := hO.rd
  obtain ⟨F, hFe⟩ : ∃ F : Nat → Pa, F = fun i => Ps.getD i paD := ⟨_, rfl⟩
  rw [← hFe] at hF hP
  clear hFe
  have HC1 := choose_ok wr la n lc F (g8 : Int) hP hF (by omega) ⟨by omega, by omega⟩
  refine wp_seq_k fun K0 hK0 => ?_
  have HK0 : Hid _ := hK0
  clear hK0
  go_wp2_with (go_at_call 9; refine (HP8 _).mono ?_; rintro e wx ⟨rfl, hwx⟩; rw [hwx]; clear hwx)
  refine HK0.out _ _ ?_
  clear HK0
  refine wp_seq_k fun K1 hK1 => ?_
  have HK1 : Hid _ := hK1
  clear hK1
  go_wp2_with (go_at_call 6; refine HC1.mono ?_; rintro e w1 ⟨O, ga, gc, rfl, hA1, hOl, hOm, hOp, G1⟩)
  refine HK1.out _ _ ?_
  clear HK1
  have HOL : Hid _ := hOl
  have HOM : Hid _ := hOm
  have HOP : Hid _ := hOp
  clear hOl hOm hOp HC1
  have bO := BxS.new w1 29 #[.int .i64 0, .int .i64 1, .int .i64 2, .int .i64 5]
  have GO := World.grownBy_alloc w1 (.cells #[.int .i64 0, .int .i64 1, .int .i64 2, .int .i64 5] 29) none
  have hP1 : RdPa (w1.alloc (.cells #[.int .i64 0, .int .i64 1, .int .i64 2, .int .i64 5] 29)) (some ⟨w1.heap.size, 0, none⟩) 1 1 (fun i => [(⟨0, 1, 2, 5⟩ : Pa)].getD i paD) := ⟨Nat.le_refl _, by decide, fun _ => ⟨w1.heap.size, 0, rfl, bO.lt, fun i hi => by
    have e : i = 0 := by omega
    subst e
    exact bO.rangeR 0 _ rfl⟩⟩
  have hF1 : ∀ i, ((fun i => [(⟨0, 1, 2, 5⟩ : Pa)].getD i paD) i).ok := fun i => ok_getD _ (fun p hp => by rw [List.mem_singleton.1 hp]; exact ⟨⟨by decide, by decide⟩, ⟨by decide, by decide⟩, ⟨by decide, by decide⟩, ⟨by decide, by decide⟩⟩) i
  have HC2 := (choose_ok _ _ 1 1 (fun i => [(⟨0, 1, 2, 5⟩ : Pa)].getD i paD) 0 hP1 hF1 (by decide) ⟨by decide, by decide⟩).mono (R' := fun e w' => ∃ a c, e = .returned (.tuple #[.slice a 1 c, .int .i64 5, .int .i64 0]) ∧ (w1.alloc (.cells #[.int .i64 0, .int .i64 1, .int .i64 2, .int .i64 5] 29)).grownBy w' none) (fun e w' h => by
    obtain ⟨O2, a2, c2, e1, _, e3, e4, _, e6⟩ := h
    have hb := one_best O2 e3 e4
    rw [hb] at e1
    exact ⟨a2, c2, e1, e6⟩)
  refine wp_seq_k fun K2 hK2 => ?_
  have HK2 : Hid _ := hK2
  clear hK2
  go_wp2_with (go_at_call 6; refine HC2.mono ?_; rintro e w3 ⟨a2, c2, rfl, G3⟩)
  refine HK2.out _ _ ?_
  clear HK2
  have G13 := grown_trans GO G3
  have hV := hA1.keep G13
  have hOw := best_ok F (g8 : Int) O
  have hbd := top_bd F (g8 : Int) hF (fun _ => true) O
  have hbd : (bestV F (g8 : Int) O).1.length ≤ O.length := hbd.1
  have hfr : ∀ i, (F i).fr < (F i).to' := fun i => by have := (hF i).to'.1; omega
  have htop : ∀ X, Ch F (g8 : Int) X → (∀ p, p ∈ X → p < n) → sumW F X ≤ (bestV F (g8 : Int) O).2 := fun X hc hin => best_top F (g8 : Int) hfr (by omega) O HOP.out X hc (fun p hp => (HOM.out p).2 (hin p hp))
  obtain ⟨V, hVe⟩ : ∃ V, bestV F (g8 : Int) O = V := ⟨_, rfl⟩
  rw [hVe] at hV hOw hbd htop ⊢
  have hP3 := (hP.keep G1).keep G13
  have hmx := hP3.max
  unfold maxLen at hmx
  have hrng : ∃ lb lf, (0 < n → la = some ⟨lb, lf, none⟩) ∧ ∀ j, j < n → w3.rangeAt lb (lf + j * 4) (F j).cells := by
    by_cases h0 : 0 < n
    · obtain ⟨lb, lf, e, _, h⟩ := hP3.at' h0
      exact ⟨lb, lf, fun _ => e, h⟩
    · exact ⟨0, 0, fun h => absurd h h0, fun j hj => absurd hj (by omega)⟩
  obtain ⟨lb, lf, hla, hrg⟩ := hrng
  have hnd := ch_nodup F (g8 : Int) hfr (by omega) V.1 hOw.ch
  have hol := HOL.out
  have hVm : ∀ p, p ∈ V.1 → p < n := fun p hp => (HOM.out p).1 (hOw.ins p hp)
  have hVl : V.1.length ≤ 9 := by omega
  have hple := hP3.le
  clear hVe hbd hol hfr
  refine wp_seq_k fun K3 hK3 => ?_
  have HK3 : Hid _ := hK3
  clear hK3
  go_wp2
  refine HK3.out _ _ ?_
  clear HK3
  exact pb_t15 w w3 (grown_trans (grown_trans GR G1) G13) lb lf n lc F hrg ⟨hple, hmx⟩ la hla hF (g8 : Int) ⟨by omega, by omega⟩ V.2 htop h9 V.1 ga gc _ hV hVm hnd hOw.su hOw.ch hVl
set_option maxHeartbeats 32000000 in
theorem best_walk (ra : Option Addr) (rn rc : Nat) (K : Nat → Int × Int) (sa : Option Addr) (sn sc : Nat) (L : Nat → Int) (gp : Int) (w : World) (hR : RdTu w ra rn rc K) (hS : RdIn w sa sn sc L) (hgp : -9223372036854775808 ≤ gp ∧ gp ≤ 9223372036854775807) :
    Calls Try.prog 4 #[.slice ra rn rc, .slice sa sn sc, .int .i64 gp] w fun e w' => e = .returned (.bool true) ∧ w.grownBy w' none := by
  have HP8 := fun wz => pickL_any gp 8 wz hgp (by decide) (by decide)
  have hg8 := pkL_lt gp 8 (by decide)
  generalize pkL gp 8 = g8 at *
  have hrm := hR.max
  have hrl := hR.le
  have hsm := hS.max
  have hsl := hS.le
  unfold maxLen at hrm hsm
  go_enter Try.func4, Try.ntmps4
  refine wp_seq_k fun K0 hK0 => ?_
  have HK0 : Hid _ := hK0
  clear hK0
  go_wp2
  refine HK0.out _ _ ?_
  clear HK0
  refine wp_seq_k fun K1 hK1 => ?_
  have HK1 : Hid _ := hK1
  clear hK1
  go_wp2
  refine HK1.out _ _ ?_
  clear HK1
  refine wp_seq_k fun K2 hK2 => ?_
  have HK2 : Hid _ := hK2
  clear hK2
  go_wp2
  go_loopw [8, 7, 9, 10] (fun v8 v7 v9 v10 wr => ∃ (i : Nat) (Ps : List Pa) (la : Option Addr) (lc : Nat), i ≤ rn ∧ i ≤ 9 ∧ v8 = .int .i64 i ∧ v7 = .slice la i lc ∧ OwPa wr w.heap.size la i lc Ps ∧ Hid (∀ p, p ∈ Ps → p.ok) ∧ w.grownBy wr none) (fun v8 v7 v9 v10 _ => 9 - (intOf v8).toNat)
  case atStart => exact ⟨0, [], none, 0, Nat.zero_le _, Nat.zero_le _, rfl, rfl, OwPa.nil _ _, (fun p h => by cases h), World.grownBy.refl _ _⟩
  case round =>
    obtain ⟨i, Ps, la, lc, hi, hi9, rfl, rfl, hO, HOK, GR⟩ := hrel
    by_cases h1 : i < rn
    · by_cases h2 : i < 9
      · have l1 : (i : Int) < (rn : Int) := by omega
        have l2 : (i : Int) < 9 := by omega
        obtain ⟨rb, ro, hra, hrb, hrc⟩ := hR.at' (by omega)
        obtain ⟨At, hAt⟩ : ∃ At, (K i).1 = At := ⟨_, rfl⟩
        obtain ⟨By, hBy⟩ : ∃ By, (K i).2 = By := ⟨_, rfl⟩
        have cat0 : w.cell? ⟨rb, ro + i * 2, none⟩ = some (.int .i64 At) := by have h := hrc i h1 0 (by decide); rw [← hAt]; exact h
        have cby0 : w.cell? ⟨rb, ro + i * 2 + 1, none⟩ = some (.int .i64 By) := by have h := hrc i h1 1 (by decide); rw [← hBy]; exact h
        have cat := cell_grR cat0 GR
        have cby := cell_grR cby0 GR
        have hok := hR.ok i h1
        rw [hAt, hBy] at hok
        have hbt : -9223372036854775808 ≤ By.tdiv 3 ∧ By.tdiv 3 ≤ 9223372036854775807 := by
          have hb := hok.2
          unfold ok64 at hb
          by_cases h : 0 ≤ By
          · rw [Int.tdiv_eq_ediv_of_nonneg h]
            omega
          · have e : By.tdiv 3 = -((-By).tdiv 3) := by rw [Int.neg_tdiv, Int.neg_neg]
            rw [e, Int.tdiv_eq_ediv_of_nonneg (by omega)]
            omega
        have HP60 := fun wz => pickL_any At 60 wz hok.1 (by decide) (by decide)
        have HP3 := fun wz => pickL_any By 3 wz hok.2 (by decide) (by decide)
        have HP20 := fun wz => pickL_any (By.tdiv 3) 20 wz hbt (by decide) (by decide)
        have k1 := pkL_lt At 60 (by decide)
        have k2 := pkL_lt By 3 (by decide)
        have k3 := pkL_lt (By.tdiv 3) 20 (by decide)
        have hb1 : -9223372036854775808 ≤ By := hok.2.1
        have hb2 : By ≤ 9223372036854775807 := hok.2.2
        generalize pkL At 60 = f at *
        generalize pkL By 3 = st at *
        generalize pkL (By.tdiv 3) 20 = wo at *
        subst hra
        clear hrc hAt hBy cat0 cby0 hok
        refine wp_seq_k fun K3 hK3 => ?_
        have HK3 : Hid _ := hK3
        clear hK3
        go_wp2
        refine HK3.out _ _ ?_
        clear HK3
        refine wp_seq_k fun K4 hK4 => ?_
        have HK4 : Hid _ := hK4
        clear hK4
        refine wp_block ?_
        refine wp_seq_k fun K5 hK5 => ?_
        have HK5 : Hid _ := hK5
        clear hK5
        go_wp2_with (go_at_call 9; refine (HP60 _).mono ?_; rintro e wx ⟨rfl, hwx⟩; rw [hwx]; clear hwx)
        refine HK5.out _ _ ?_
        clear HK5
        refine wp_seq_k fun K6 hK6 => ?_
        have HK6 : Hid _ := hK6
        clear hK6
        go_wp2
        refine HK6.out _ _ ?_
        clear HK6
        by_cases h3 : i < sn
        · have l3 : (i : Int) < (sn : Int) := by omega
          obtain ⟨sb, so, hsa, hsb, hsc⟩ := hS.at' (by omega)
          have cl0 : w.cell? ⟨sb, so + i, none⟩ = some (.int .i64 (L i)) := by
            have h := hsc i h3 0 (by decide)
            rw [Nat.mul_one, Nat.add_zero] at h
            exact h
          have cl := cell_grR cl0 GR
          have HP25 := fun wz => pickL_any (L i) 25 wz (hS.ok i h3) (by decide) (by decide)
          have k4 := pkL_lt (L i) 25 (by decide)
          generalize pkL (L i) 25 = n25 at *
          subst hsa
          clear hsc cl0
          refine wp_seq_k fun K7 hK7 => ?_
          have HK7 : Hid _ := hK7
          clear hK7
          go_wp2_with (go_at_call 9; refine (HP25 _).mono ?_; rintro e wx ⟨rfl, hwx⟩; rw [hwx]; clear hwx)
          refine HK7.out _ _ ?_
          clear HK7
          have Gd := grown_drew wr none
          have SS : wr.drew.cell? ⟨rb, ro + i * 2 + 1, none⟩ = some (.int .i64 By) := cell_grR cby Gd
          refine wp_regionM (fun wz => wz.cell? ⟨rb, ro + i * 2 + 1, none⟩ = some (.int .i64 By)) [20, 21] #[false, false, false, false, false, false, false, false, false, false, false, false, false, false, false, false, false, false, false, false, false, false] rfl (by kernel_rfl) ?_
          have hOd := hO.keep Gd
          have GRd := grown_trans GR Gd
          generalize wr.drew = wd at *
          refine wpAnyY_takeF 0 (.slice la i lc) rfl (by kernel_rfl) (fun _ _ _ h => h) rfl (by intro wz; go_simp; try rfl) ?_
          try simp only [List.getElem_toArray, List.getElem_cons_succ, List.getElem_cons_zero, Act.put, List.setIfInBounds_toArray, List.set_cons_zero, List.set_cons_succ]
          refine wpAnyY_takeF 1 (.slice (some ⟨rb, ro, none⟩) rn rc) rfl (by kernel_rfl) (fun _ _ _ h => h) rfl (by intro wz; go_simp; try rfl) ?_
          try simp only [List.getElem_toArray, List.getElem_cons_succ, List.getElem_cons_zero, Act.put, List.setIfInBounds_toArray, List.set_cons_zero, List.set_cons_succ]
          refine wpAnyY_takeF 2 (.int .i64 (i : Int)) rfl (by kernel_rfl) (fun _ _ _ h => h) rfl (by intro wz; go_simp; try rfl) ?_
          try simp only [List.getElem_toArray, List.getElem_cons_succ, List.getElem_cons_zero, Act.put, List.setIfInBounds_toArray, List.set_cons_zero, List.set_cons_succ]
          refine wpAnyY_takeF 3 (.pointer (some ⟨rb, ro + i * 2, none⟩)) rfl (by kernel_rfl) (fun _ _ _ h => h) rfl (by intro wz; go_simp; try rfl) ?_
          try simp only [List.getElem_toArray, List.getElem_cons_succ, List.getElem_cons_zero, Act.put, List.setIfInBounds_toArray, List.set_cons_zero, List.set_cons_succ]
          refine wpAnyY_takeF 4 (.pointer (some ⟨rb, ro + i * 2 + 1, none⟩)) rfl (by kernel_rfl) (fun _ _ _ h => h) rfl (by intro wz; go_simp; try rfl) ?_
          try simp only [List.getElem_toArray, List.getElem_cons_succ, List.getElem_cons_zero, Act.put, List.setIfInBounds_toArray, List.set_cons_zero, List.set_cons_succ]
          refine wpAnyY_take [6, 18, 19, 20, 21] 5 (.int .i64 By) rfl (by kernel_rfl) (fun _ _ _ h => h) SS rfl (by intro wz z1; go_simp) ?_
          try simp only [List.getElem_toArray, List.getElem_cons_succ, List.getElem_cons_zero, Act.put, List.setIfInBounds_toArray, List.set_cons_zero, List.set_cons_succ]
          refine wpAnyY_takeF 7 (.int .i64 (f : Int)) rfl (by kernel_rfl) (fun _ _ _ h => h) rfl (by intro wz; go_simp; try rfl) ?_
          try simp only [List.getElem_toArray, List.getElem_cons_succ, List.getElem_cons_zero, Act.put, List.setIfInBounds_toArray, List.set_cons_zero, List.set_cons_succ]
          refine wpAnyY_takeF 8 (.int .i64 (f : Int)) rfl (by kernel_rfl) (fun _ _ _ h => h) rfl (by intro wz; go_simp; try rfl) ?_
          try simp only [List.getElem_toArray, List.getElem_cons_succ, List.getElem_cons_zero, Act.put, List.setIfInBounds_toArray, List.set_cons_zero, List.set_cons_succ]
          refine wpAnyY_takeF 9 (.int .i64 ((1 + (n25 : Int)))) rfl (by kernel_rfl) (fun _ _ _ h => h) rfl (by intro wz; go_simp; try rfl) ?_
          try simp only [List.getElem_toArray, List.getElem_cons_succ, List.getElem_cons_zero, Act.put, List.setIfInBounds_toArray, List.set_cons_zero, List.set_cons_succ]
          refine wpAnyY_takeF 10 (.int .i64 ((f : Int) + (1 + (n25 : Int)))) rfl (by kernel_rfl) (fun _ _ _ h => h) rfl (by intro wz; go_simp; rw [IntKind.wrap_i64]; omega) ?_
          try simp only [List.getElem_toArray, List.getElem_cons_succ, List.getElem_cons_zero, Act.put, List.setIfInBounds_toArray, List.set_cons_zero, List.set_cons_succ]
          refine wpAnyY_takeF 11 (.slice (some ⟨rb, ro, none⟩) rn rc) rfl (by kernel_rfl) (fun _ _ _ h => h) rfl (by intro wz; go_simp; try rfl) ?_
          try simp only [List.getElem_toArray, List.getElem_cons_succ, List.getElem_cons_zero, Act.put, List.setIfInBounds_toArray, List.set_cons_zero, List.set_cons_succ]
          refine wpAnyY_takeF 12 (.int .i64 (i : Int)) rfl (by kernel_rfl) (fun _ _ _ h => h) rfl (by intro wz; go_simp; try rfl) ?_
          try simp only [List.getElem_toArray, List.getElem_cons_succ, List.getElem_cons_zero, Act.put, List.setIfInBounds_toArray, List.set_cons_zero, List.set_cons_succ]
          refine wpAnyY_takeF 13 (.pointer (some ⟨rb, ro + i * 2, none⟩)) rfl (by kernel_rfl) (fun _ _ _ h => h) rfl (by intro wz; go_simp; try rfl) ?_
          try simp only [List.getElem_toArray, List.getElem_cons_succ, List.getElem_cons_zero, Act.put, List.setIfInBounds_toArray, List.set_cons_zero, List.set_cons_succ]
          refine wpAnyY_takeF 14 (.pointer (some ⟨rb, ro + i * 2 + 1, none⟩)) rfl (by kernel_rfl) (fun _ _ _ h => h) rfl (by intro wz; go_simp; try rfl) ?_
          try simp only [List.getElem_toArray, List.getElem_cons_succ, List.getElem_cons_zero, Act.put, List.setIfInBounds_toArray, List.set_cons_zero, List.set_cons_succ]
          refine wpAnyY_take [16, 17, 18, 19, 20, 21] 15 (.int .i64 By) rfl (by kernel_rfl) (fun _ _ _ h => h) SS rfl (by intro wz z1; go_simp) ?_
          try simp only [List.getElem_toArray, List.getElem_cons_succ, List.getElem_cons_zero, Act.put, List.setIfInBounds_toArray, List.set_cons_zero, List.set_cons_succ]
          refine wpAnyY_takeF 16 (.int .i64 (By.tdiv 3)) rfl (by kernel_rfl) (fun _ _ _ h => h) rfl (by intro wz; go_simp; first | done | rfl | (rw [IntKind.wrap_i64]; omega)) ?_
          try simp only [List.getElem_toArray, List.getElem_cons_succ, List.getElem_cons_zero, Act.put, List.setIfInBounds_toArray, List.set_cons_zero, List.set_cons_succ]
          refine wpAnyY_oneB 6 rfl (by kernel_rfl) (fun KK hKK => ?_)
          go_simp
          go_at_call 9
          refine (HP3 _).mono ?_
          rintro e wx ⟨rfl, hwx⟩
          dsimp only
          rw [hwx]
          clear hwx
          refine hKK _ _ (fun h _ => h) ?_
          try simp only [List.getElem_toArray, List.getElem_cons_succ, List.getElem_cons_zero, Act.put, List.setIfInBounds_toArray, List.set_cons_zero, List.set_cons_succ]
          refine wpAnyY_oneB 17 rfl (by kernel_rfl) (fun KK hKK => ?_)
          go_simp
          go_at_call 9
          refine (HP20 _).mono ?_
          rintro e wx ⟨rfl, hwx⟩
          dsimp only
          rw [hwx]
          clear hwx
          refine hKK _ _ (fun h _ => h) ?_
          try simp only [List.getElem_toArray, List.getElem_cons_succ, List.getElem_cons_zero, Act.put, List.setIfInBounds_toArray, List.set_cons_zero, List.set_cons_succ]
          refine wpAnyY_takeF 18 (.agg #[.int .i64 (st : Int), .int .i64 (f : Int), .int .i64 ((f : Int) + (1 + (n25 : Int))), .int .i64 (wo : Int)]) rfl (by kernel_rfl) (fun _ _ _ h => h) rfl (by intro wz; go_simp; try rfl) ?_
          try simp only [List.getElem_toArray, List.getElem_cons_succ, List.getElem_cons_zero, Act.put, List.setIfInBounds_toArray, List.set_cons_zero, List.set_cons_succ]
          refine wpAnyY_oneB 19 rfl (by kernel_rfl) (fun KK hKK => ?_)
          go_simp
          have Gn := World.grownBy_alloc wd (.cells #[.int .i64 (st : Int), .int .i64 (f : Int), .int .i64 ((f : Int) + (1 + (n25 : Int))), .int .i64 (wo : Int)] 29) none
          have bn := BxS.new wd 29 #[.int .i64 (st : Int), .int .i64 (f : Int), .int .i64 ((f : Int) + (1 + (n25 : Int))), .int .i64 (wo : Int)]
          have hOn := hOd.keep Gn
          generalize wd.alloc (.cells #[.int .i64 (st : Int), .int .i64 (f : Int), .int .i64 ((f : Int) + (1 + (n25 : Int))), .int .i64 (wo : Int)] 29) = wn at *
          refine hKK _ _ (fun h _ => cell_grR h Gn) ?_
          try simp only [List.getElem_toArray, List.getElem_cons_succ, List.getElem_cons_zero, Act.put, List.setIfInBounds_toArray, List.set_cons_zero, List.set_cons_succ]
          refine wpAnyY_oneB 20 rfl (by kernel_rfl) (fun KK hKK => ?_)
          refine step_of_listR rfl ?_
          refine wpList_psA rfl _ _ rfl la i lc w.heap.size Ps rfl hOn (Nat.le_trans GRd.size Gn.size) wd.heap.size ⟨(st : Int), (f : Int), (f : Int) + (1 + (n25 : Int)), (wo : Int)⟩ rfl bn (by omega) ?_
          intro a8 c8 w8 hO8 u8
          show KK _ w8
          refine hKK _ _ (fun _ h => absurd (by decide) h) ?_
          try simp only [List.getElem_toArray, List.getElem_cons_succ, List.getElem_cons_zero, Act.put, List.setIfInBounds_toArray, List.set_cons_zero, List.set_cons_succ]
          refine wpAnyY_oneB 21 rfl (by kernel_rfl) (fun KK hKK => ?_)
          go_simp
          refine hKK _ _ (fun _ h => absurd (by decide) h) ?_
          try simp only [List.getElem_toArray, List.getElem_cons_succ, List.getElem_cons_zero, Act.put, List.setIfInBounds_toArray, List.set_cons_zero, List.set_cons_succ]
          refine wpAnyY_doneB (by kernel_rfl) ?_ _
          (try simp only [Exit.inBlock, Exit.then])
          refine HK4.out _ _ ?_
          clear HK4
          go_wp2
          go_roundw
          case rel =>
            refine ⟨i + 1, Ps ++ [⟨(st : Int), (f : Int), (f : Int) + (1 + (n25 : Int)), (wo : Int)⟩], a8, c8, by omega, by omega, by go_num, rfl, hO8, fun p hp => ?_, grown_far (grown_trans GRd Gn) u8 (fun z e => hOn.new z e)⟩
            rcases List.mem_append.1 hp with h | h
            · exact HOK.out p h
            · rw [List.mem_singleton.1 h]
              exact ⟨⟨by show (0 : Int) ≤ (st : Int); omega, by show (st : Int) ≤ 31; omega⟩, ⟨by show (0 : Int) ≤ (f : Int); omega, by show (f : Int) ≤ 1000000; omega⟩, ⟨by show (f : Int) + 1 ≤ (f : Int) + (1 + (n25 : Int)); omega, by show (f : Int) + (1 + (n25 : Int)) ≤ 1000000; omega⟩, ⟨by show (0 : Int) ≤ (wo : Int); omega, by show (wo : Int) ≤ 1000000; omega⟩⟩
          case measure => simp [intOf] <;> omega
        · have l3 : ¬ (i : Int) < (sn : Int) := by omega
          refine wp_seq_k fun K7 hK7 => ?_
          have HK7 : Hid _ := hK7
          clear hK7
          go_wp2
          refine HK7.out _ _ ?_
          clear HK7
          have Gd := grown_drew wr none
          have SS : wr.drew.cell? ⟨rb, ro + i * 2 + 1, none⟩ = some (.int .i64 By) := cell_grR cby Gd
          refine wp_regionM (fun wz => wz.cell? ⟨rb, ro + i * 2 + 1, none⟩ = some (.int .i64 By)) [20, 21] #[false, false, false, false, false, false, false, false, false, false, false, false, false, false, false, false, false, false, false, false, false, false] rfl (by kernel_rfl) ?_
          have hOd := hO.keep Gd
          have GRd := grown_trans GR Gd
          generalize wr.drew = wd at *
          refine wpAnyY_takeF 0 (.slice la i lc) rfl (by kernel_rfl) (fun _ _ _ h => h) rfl (by intro wz; go_simp; try rfl) ?_
          try simp only [List.getElem_toArray, List.getElem_cons_succ, List.getElem_cons_zero, Act.put, List.setIfInBounds_toArray, List.set_cons_zero, List.set_cons_succ]
          refine wpAnyY_takeF 1 (.slice (some ⟨rb, ro, none⟩) rn rc) rfl (by kernel_rfl) (fun _ _ _ h => h) rfl (by intro wz; go_simp; try rfl) ?_
          try simp only [List.getElem_toArray, List.getElem_cons_succ, List.getElem_cons_zero, Act.put, List.setIfInBounds_toArray, List.set_cons_zero, List.set_cons_succ]
          refine wpAnyY_takeF 2 (.int .i64 (i : Int)) rfl (by kernel_rfl) (fun _ _ _ h => h) rfl (by intro wz; go_simp; try rfl) ?_
          try simp only [List.getElem_toArray, List.getElem_cons_succ, List.getElem_cons_zero, Act.put, List.setIfInBounds_toArray, List.set_cons_zero, List.set_cons_succ]
          refine wpAnyY_takeF 3 (.pointer (some ⟨rb, ro + i * 2, none⟩)) rfl (by kernel_rfl) (fun _ _ _ h => h) rfl (by intro wz; go_simp; try rfl) ?_
          try simp only [List.getElem_toArray, List.getElem_cons_succ, List.getElem_cons_zero, Act.put, List.setIfInBounds_toArray, List.set_cons_zero, List.set_cons_succ]
          refine wpAnyY_takeF 4 (.pointer (some ⟨rb, ro + i * 2 + 1, none⟩)) rfl (by kernel_rfl) (fun _ _ _ h => h) rfl (by intro wz; go_simp; try rfl) ?_
          try simp only [List.getElem_toArray, List.getElem_cons_succ, List.getElem_cons_zero, Act.put, List.setIfInBounds_toArray, List.set_cons_zero, List.set_cons_succ]
          refine wpAnyY_take [6, 18, 19, 20, 21] 5 (.int .i64 By) rfl (by kernel_rfl) (fun _ _ _ h => h) SS rfl (by intro wz z1; go_simp) ?_
          try simp only [List.getElem_toArray, List.getElem_cons_succ, List.getElem_cons_zero, Act.put, List.setIfInBounds_toArray, List.set_cons_zero, List.set_cons_succ]
          refine wpAnyY_takeF 7 (.int .i64 (f : Int)) rfl (by kernel_rfl) (fun _ _ _ h => h) rfl (by intro wz; go_simp; try rfl) ?_
          try simp only [List.getElem_toArray, List.getElem_cons_succ, List.getElem_cons_zero, Act.put, List.setIfInBounds_toArray, List.set_cons_zero, List.set_cons_succ]
          refine wpAnyY_takeF 8 (.int .i64 (f : Int)) rfl (by kernel_rfl) (fun _ _ _ h => h) rfl (by intro wz; go_simp; try rfl) ?_
          try simp only [List.getElem_toArray, List.getElem_cons_succ, List.getElem_cons_zero, Act.put, List.setIfInBounds_toArray, List.set_cons_zero, List.set_cons_succ]
          refine wpAnyY_takeF 9 (.int .i64 (1)) rfl (by kernel_rfl) (fun _ _ _ h => h) rfl (by intro wz; go_simp; try rfl) ?_
          try simp only [List.getElem_toArray, List.getElem_cons_succ, List.getElem_cons_zero, Act.put, List.setIfInBounds_toArray, List.set_cons_zero, List.set_cons_succ]
          refine wpAnyY_takeF 10 (.int .i64 ((f : Int) + 1)) rfl (by kernel_rfl) (fun _ _ _ h => h) rfl (by intro wz; go_simp; rw [IntKind.wrap_i64]; omega) ?_
          try simp only [List.getElem_toArray, List.getElem_cons_succ, List.getElem_cons_zero, Act.put, List.setIfInBounds_toArray, List.set_cons_zero, List.set_cons_succ]
          refine wpAnyY_takeF 11 (.slice (some ⟨rb, ro, none⟩) rn rc) rfl (by kernel_rfl) (fun _ _ _ h => h) rfl (by intro wz; go_simp; try rfl) ?_
          try simp only [List.getElem_toArray, List.getElem_cons_succ, List.getElem_cons_zero, Act.put, List.setIfInBounds_toArray, List.set_cons_zero, List.set_cons_succ]
          refine wpAnyY_takeF 12 (.int .i64 (i : Int)) rfl (by kernel_rfl) (fun _ _ _ h => h) rfl (by intro wz; go_simp; try rfl) ?_
          try simp only [List.getElem_toArray, List.getElem_cons_succ, List.getElem_cons_zero, Act.put, List.setIfInBounds_toArray, List.set_cons_zero, List.set_cons_succ]
          refine wpAnyY_takeF 13 (.pointer (some ⟨rb, ro + i * 2, none⟩)) rfl (by kernel_rfl) (fun _ _ _ h => h) rfl (by intro wz; go_simp; try rfl) ?_
          try simp only [List.getElem_toArray, List.getElem_cons_succ, List.getElem_cons_zero, Act.put, List.setIfInBounds_toArray, List.set_cons_zero, List.set_cons_succ]
          refine wpAnyY_takeF 14 (.pointer (some ⟨rb, ro + i * 2 + 1, none⟩)) rfl (by kernel_rfl) (fun _ _ _ h => h) rfl (by intro wz; go_simp; try rfl) ?_
          try simp only [List.getElem_toArray, List.getElem_cons_succ, List.getElem_cons_zero, Act.put, List.setIfInBounds_toArray, List.set_cons_zero, List.set_cons_succ]
          refine wpAnyY_take [16, 17, 18, 19, 20, 21] 15 (.int .i64 By) rfl (by kernel_rfl) (fun _ _ _ h => h) SS rfl (by intro wz z1; go_simp) ?_
          try simp only [List.getElem_toArray, List.getElem_cons_succ, List.getElem_cons_zero, Act.put, List.setIfInBounds_toArray, List.set_cons_zero, List.set_cons_succ]
          refine wpAnyY_takeF 16 (.int .i64 (By.tdiv 3)) rfl (by kernel_rfl) (fun _ _ _ h => h) rfl (by intro wz; go_simp; first | done | rfl | (rw [IntKind.wrap_i64]; omega)) ?_
          try simp only [List.getElem_toArray, List.getElem_cons_succ, List.getElem_cons_zero, Act.put, List.setIfInBounds_toArray, List.set_cons_zero, List.set_cons_succ]
          refine wpAnyY_oneB 6 rfl (by kernel_rfl) (fun KK hKK => ?_)
          go_simp
          go_at_call 9
          refine (HP3 _).mono ?_
          rintro e wx ⟨rfl, hwx⟩
          dsimp only
          rw [hwx]
          clear hwx
          refine hKK _ _ (fun h _ => h) ?_
          try simp only [List.getElem_toArray, List.getElem_cons_succ, List.getElem_cons_zero, Act.put, List.setIfInBounds_toArray, List.set_cons_zero, List.set_cons_succ]
          refine wpAnyY_oneB 17 rfl (by kernel_rfl) (fun KK hKK => ?_)
          go_simp
          go_at_call 9
          refine (HP20 _).mono ?_
          rintro e wx ⟨rfl, hwx⟩
          dsimp only
          rw [hwx]
          clear hwx
          refine hKK _ _ (fun h _ => h) ?_
          try simp only [List.getElem_toArray, List.getElem_cons_succ, List.getElem_cons_zero, Act.put, List.setIfInBounds_toArray, List.set_cons_zero, List.set_cons_succ]
          refine wpAnyY_takeF 18 (.agg #[.int .i64 (st : Int), .int .i64 (f : Int), .int .i64 ((f : Int) + 1), .int .i64 (wo : Int)]) rfl (by kernel_rfl) (fun _ _ _ h => h) rfl (by intro wz; go_simp; try rfl) ?_
          try simp only [List.getElem_toArray, List.getElem_cons_succ, List.getElem_cons_zero, Act.put, List.setIfInBounds_toArray, List.set_cons_zero, List.set_cons_succ]
          refine wpAnyY_oneB 19 rfl (by kernel_rfl) (fun KK hKK => ?_)
          go_simp
          have Gn := World.grownBy_alloc wd (.cells #[.int .i64 (st : Int), .int .i64 (f : Int), .int .i64 ((f : Int) + 1), .int .i64 (wo : Int)] 29) none
          have bn := BxS.new wd 29 #[.int .i64 (st : Int), .int .i64 (f : Int), .int .i64 ((f : Int) + 1), .int .i64 (wo : Int)]
          have hOn := hOd.keep Gn
          generalize wd.alloc (.cells #[.int .i64 (st : Int), .int .i64 (f : Int), .int .i64 ((f : Int) + 1), .int .i64 (wo : Int)] 29) = wn at *
          refine hKK _ _ (fun h _ => cell_grR h Gn) ?_
          try simp only [List.getElem_toArray, List.getElem_cons_succ, List.getElem_cons_zero, Act.put, List.setIfInBounds_toArray, List.set_cons_zero, List.set_cons_succ]
          refine wpAnyY_oneB 20 rfl (by kernel_rfl) (fun KK hKK => ?_)
          refine step_of_listR rfl ?_
          refine wpList_psA rfl _ _ rfl la i lc w.heap.size Ps rfl hOn (Nat.le_trans GRd.size Gn.size) wd.heap.size ⟨(st : Int), (f : Int), (f : Int) + 1, (wo : Int)⟩ rfl bn (by omega) ?_
          intro a8 c8 w8 hO8 u8
          show KK _ w8
          refine hKK _ _ (fun _ h => absurd (by decide) h) ?_
          try simp only [List.getElem_toArray, List.getElem_cons_succ, List.getElem_cons_zero, Act.put, List.setIfInBounds_toArray, List.set_cons_zero, List.set_cons_succ]
          refine wpAnyY_oneB 21 rfl (by kernel_rfl) (fun KK hKK => ?_)
          go_simp
          refine hKK _ _ (fun _ h => absurd (by decide) h) ?_
          try simp only [List.getElem_toArray, List.getElem_cons_succ, List.getElem_cons_zero, Act.put, List.setIfInBounds_toArray, List.set_cons_zero, List.set_cons_succ]
          refine wpAnyY_doneB (by kernel_rfl) ?_ _
          (try simp only [Exit.inBlock, Exit.then])
          refine HK4.out _ _ ?_
          clear HK4
          go_wp2
          go_roundw
          case rel =>
            refine ⟨i + 1, Ps ++ [⟨(st : Int), (f : Int), (f : Int) + 1, (wo : Int)⟩], a8, c8, by omega, by omega, by go_num, rfl, hO8, fun p hp => ?_, grown_far (grown_trans GRd Gn) u8 (fun z e => hOn.new z e)⟩
            rcases List.mem_append.1 hp with h | h
            · exact HOK.out p h
            · rw [List.mem_singleton.1 h]
              exact ⟨⟨by show (0 : Int) ≤ (st : Int); omega, by show (st : Int) ≤ 31; omega⟩, ⟨by show (0 : Int) ≤ (f : Int); omega, by show (f : Int) ≤ 1000000; omega⟩, ⟨by show (f : Int) + 1 ≤ (f : Int) + 1; omega, by show (f : Int) + 1 ≤ 1000000; omega⟩, ⟨by show (0 : Int) ≤ (wo : Int); omega, by show (wo : Int) ≤ 1000000; omega⟩⟩
          case measure => simp [intOf] <;> omega
      · have l1 : (i : Int) < (rn : Int) := by omega
        have l2 : ¬ (i : Int) < 9 := by omega
        go_wp2
        refine HK2.out _ _ ?_
        clear HK2
        exact pb_end w wr GR la i lc Ps hO HOK.out hi9 g8 hg8 gp HP8
    · have l1 : ¬ (i : Int) < (rn : Int) := by omega
      go_wp2
      refine HK2.out _ _ ?_
      clear HK2
      exact pb_end w wr GR la i lc Ps hO HOK.out hi9 g8 hg8 gp HP8
end
end Go.Proofs.Ytpcejajijaphbaa
