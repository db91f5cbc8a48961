import Derived.Test.YtnimehkfnpepfaaWh46
import Derived.Test.YtnimehkfnpepfaaWh0
import Derived.Test.YtnimehkfnpepfaaWh47
namespace Go.Proofs.Ytnimehkfnpepfaa
open Go.RowKit
set_option maxRecDepth 100000
set_option linter.unusedVariables false
set_option linter.unusedSimpArgs false

section
theorem stc_slY (g i : Nat) (p : Option Addr) (l c : Nat) (w : World) (hc : ∃ u, w.cell? ⟨g, i, none⟩ = some u) (hf : w.frozen? ⟨g, i, none⟩ = false) : (Instr.storeAt 73 (.pointer (some ⟨g, i, none⟩)) (.slice p l c)).run Try.prog w = .ok () (w.setCell ⟨g, i, none⟩ (.slice p l c)) := by
  obtain ⟨u, hc⟩ := hc
  simp [go_sem, hc, hf]
set_option maxHeartbeats 16000000 in
/-- the notes that came up, one by one, and the verdict -/
theorem tk_t22 {u1 u2 u3 u4 u5 u6 u7 u8 u9 u10 u13 u14 u15 u16 u18 u19 u20 u21 u22 u23 u24 u25 u26 u27 u28 u29 u30 u31 u32 u33 u34 u35 u36 u37 u38 u39 u40 u41 u42 u43 u44 u45 u46 u47 u48 u49 u50 u51 u52 u53 u54 u55 u56 u57 u58 u59 u60 u61 u62 u63 u64 u65 u66 u67 u68 u69 u70 u71 u72 u73 u74 u75 u76 u77 u78 u79 u80 u81 u82 u83 u84 u85 u86 u87 u88 u89 u90 u91 u92 u93 u94 u95 u96 u97 u98 u99 u100 u101 u102 u103 u104 u105 u106 u107 u108 u109 u110 u111 u112 u113 u114 u115 u116 u117 u118 u119 u120 u121 u122 u123 u124 u125 u126 u127 u128 u129 u130 u131 u132 u133 u134 u135 u136 u137 u138 u139 u140 u141 u142 u143 u144 u145 u146 u147 u148 u149 u150 u151 u152 u153 u154 u155 u156 u157 u158 u159 u160 u161 u162 u163 u164 u165 u166 u167 u168 u169 u170 u171 u172 u173 u174 u175 u176 u177 u178 u179 u180 u181 u182 u183 u184 u185 u186 u187 u188 u189 u190 u191 u192 u193 u194 u195 u196 u197 u198 u199 u200 u201 u202 u203 u204 u205 u206 u207 u208 u209 u210 : Value} (P : Ending → World → Prop) {K : Kc} (hK : K.ok) (wB w : World) (gc : Nat) (c : Cr) (X0 : Cx) (hC0 : CM wB w gc c X0) (M : List Nt) (ml : Option Addr) (mc lo2 : Nat) (xs : List Nx) (hM : xs.map Nx.dt = M) (hN0 : OwN w lo2 ml xs.length mc xs) (hM2 : M.length ≤ 1000) (hup : ∀ n, n ∈ M → UpK K n)
    (hre : ∀ j, GS K (reF c.g c.dn (M.take j)).1 ∧ (∀ n, n ∈ (reF c.g c.dn (M.take j)).2 → DnK K n) ∧ (reF c.g c.dn (M.take j)).2.length ≤ 20000) (h5 : (reF c.g c.dn M).2.length < 5000)
    (hP : ∀ w', CMx wB w' gc ⟨(reF c.g c.dn M).1, c.t, (reF c.g c.dn M).2, c.up⟩ → P (.returned (.bool true)) w') :
    Code.wp Try.prog (tailR 22 (Try.f46.body.getD .skip)) (bodyPost Try.prog Try.f46 P) (Act.mk (List.toArray ((.pointer (some ⟨gc, 0, none⟩)) :: u1 :: u2 :: u3 :: u4 :: u5 :: u6 :: u7 :: u8 :: u9 :: u10 :: (.bool true) :: (.bool true) :: u13 :: u14 :: u15 :: u16 :: (.slice ml xs.length mc) :: u18 :: u19 :: u20 :: u21 :: u22 :: u23 :: u24 :: u25 :: u26 :: u27 :: u28 :: u29 :: u30 :: u31 :: u32 :: u33 :: u34 :: u35 :: u36 :: u37 :: u38 :: u39 :: u40 :: u41 :: u42 :: u43 :: u44 :: u45 :: u46 :: u47 :: u48 :: u49 :: u50 :: u51 :: u52 :: u53 :: u54 :: u55 :: u56 :: u57 :: u58 :: u59 :: u60 :: u61 :: u62 :: u63 :: u64 :: u65 :: u66 :: u67 :: u68 :: u69 :: u70 :: u71 :: u72 :: u73 :: u74 :: u75 :: u76 :: u77 :: u78 :: u79 :: u80 :: u81 :: u82 :: u83 :: u84 :: u85 :: u86 :: u87 :: u88 :: u89 :: u90 :: u91 :: u92 :: u93 :: u94 :: u95 :: u96 :: u97 :: u98 :: u99 :: u100 :: u101 :: u102 :: u103 :: u104 :: u105 :: u106 :: u107 :: u108 :: u109 :: u110 :: u111 :: u112 :: u113 :: u114 :: u115 :: u116 :: u117 :: u118 :: u119 :: u120 :: u121 :: u122 :: u123 :: u124 :: u125 :: u126 :: u127 :: u128 :: u129 :: u130 :: u131 :: u132 :: u133 :: u134 :: u135 :: u136 :: u137 :: u138 :: u139 :: u140 :: u141 :: u142 :: u143 :: u144 :: u145 :: u146 :: u147 :: u148 :: u149 :: u150 :: u151 :: u152 :: u153 :: u154 :: u155 :: u156 :: u157 :: u158 :: u159 :: u160 :: u161 :: u162 :: u163 :: u164 :: u165 :: u166 :: u167 :: u168 :: u169 :: u170 :: u171 :: u172 :: u173 :: u174 :: u175 :: u176 :: u177 :: u178 :: u179 :: u180 :: u181 :: u182 :: u183 :: u184 :: u185 :: u186 :: u187 :: u188 :: u189 :: u190 :: u191 :: u192 :: u193 :: u194 :: u195 :: u196 :: u197 :: u198 :: u199 :: u200 :: u201 :: u202 :: u203 :: u204 :: u205 :: u206 :: u207 :: u208 :: u209 :: u210 :: [])) []) w := by
  conv => enter [2]; whnf
  have HP : Hid _ := hP
  have HRE : Hid _ := hre
  have HUP : Hid _ := hup
  have HM : Hid _ := hM
  have H5 : Hid _ := h5
  have hml : M.length = xs.length := by rw [← hM, List.length_map]
  have HML : Hid _ := hml
  clear hP hre hup hM h5
  go_wp2
  go_loopw [19, 12] (fun v19 v12 wr => ∃ (j : Nat) (X : Cx), j ≤ xs.length ∧ v19 = .int .i64 j ∧ v12 = .bool true ∧ CM wB wr gc ⟨(reF c.g c.dn (M.take j)).1, c.t, (reF c.g c.dn (M.take j)).2, c.up⟩ X ∧ OwN wr lo2 ml xs.length mc xs) (fun v19 v12 _ => xs.length - (intOf v19).toNat)
  case atStart => exact ⟨0, X0, Nat.zero_le _, rfl, rfl, hC0, hN0⟩
  case round =>
    obtain ⟨j, X, hj, rfl, rfl, hC, hN⟩ := hrel
    have hR := HRE.out j
    by_cases hlt : j < xs.length
    · have lj : (j : Int) < (xs.length : Int) := by omega
      obtain ⟨x, hxj⟩ : ∃ x, xs[j]? = some x := ⟨xs[j]'hlt, List.getElem?_eq_getElem _⟩
      have hxm := List.mem_of_getElem? hxj
      have hMj : M[j]? = some x.dt := by rw [← HM.out, List.getElem?_map, hxj]; rfl
      have HMJ : Hid _ := hMj
      have hxU := HUP.out x.dt (List.mem_of_getElem? hMj)
      obtain ⟨gj, dj, hgj⟩ : ∃ gj dj, reF c.g c.dn (M.take j) = (gj, dj) := ⟨_, _, rfl⟩
      have hR1 := HRE.out (j + 1)
      rw [reF_take hMj, hgj] at hR1
      rw [hgj] at hC hR
      dsimp only at hC hR hR1
      have HGJ : Hid _ := hgj
      clear hgj hMj
      have HQ2 : Hid (∀ (V2 : Gv) (T2 : List Nt), V2 = (reN gj x.dt).1 → T2 = (reN gj x.dt).2 → ∀ n, n ∈ T2 → DnK K n) := fun V2 T2 e1 e2 n hn => hR1.2.1 n (List.mem_append_right _ (by rw [← e2]; exact hn))
      have HL2 : Hid (∀ T2 : List Nt, T2 = (reN gj x.dt).2 → dj.length + T2.length ≤ 20000) := fun T2 e => by
        have h9 := hR1.2.2
        rw [List.length_append, ← e] at h9
        exact h9
      have HCA : ∀ wz, Rd wz X.a gj.L.length X.ac gj.L → RdG wz X.q gj.G.length X.qc (giF gj.G) → RdG wz x.q x.ga.length x.d (giF x.ga) → Calls Try.prog 35 #[.agg (gvC gj X.a X.ac X.q X.qc).toArray, .agg x.arr] wz fun e w' => ∃ V2 T2, Hid (V2 = (reN gj x.dt).1) ∧ Hid (T2 = (reN gj x.dt).2) ∧ RT wz V2 T2 0 e w' := fun wz k1 k2 k3 => (repQ_any hK gj hR.1 x hxU X.a X.q X.ac X.qc wz k1 k2 k3).mono (fun e w' h => ⟨_, _, rfl, rfl, h⟩)
      clear hR hR1 hxU
      obtain ⟨gm, hgm⟩ := hN.someN (by omega)
      subst hgm
      refine wp_seq_k fun K1 hK1 => ?_
      have HK1 : Hid _ := hK1
      clear hK1
      go_wp2
      refine HK1.out _ _ ?_
      clear HK1
      refine wp_seq_k fun K2 hK2 => ?_
      have HK2 : Hid _ := hK2
      clear hK2
      refine wp_block ?_
      refine wp_seq_k fun K3 hK3 => ?_
      have HK3 : Hid _ := hK3
      clear hK3
      go_wp2
      refine HK3.out _ _ ?_
      clear HK3
      refine wp_seq_k fun K4 hK4 => ?_
      have HK4 : Hid _ := hK4
      clear hK4
      have Gd := grown_drew wr none
      have hCd := hC.keep Gd
      have SS : BxS wr.drew gc 75 (crA gj X.a X.ac X.q X.qc c.t X.ta X.tc X.tq X.td (.slice X.da X.dn X.dc) (.slice X.ua X.un X.uc)) ∧ OwN wr.drew lo2 (some ⟨gm, 0, none⟩) xs.length mc xs := ⟨hCd.bx, hN.keep Gd⟩
      refine wp_regionM (fun wz => BxS wz gc 75 (crA gj X.a X.ac X.q X.qc c.t X.ta X.tc X.tq X.td (.slice X.da X.dn X.dc) (.slice X.ua X.un X.uc)) ∧ OwN wz lo2 (some ⟨gm, 0, none⟩) xs.length mc xs) [16] #[false, false, false, false, false, false, false, false, false, false, false, false, false, false, false, false, false, false, false] rfl (by kernel_rfl) ?_
      generalize wr.drew = wd at *
      refine wpAnyY_take [16] 0 (.pointer (some ⟨gc, 0, none⟩)) rfl (by kernel_rfl) (fun _ _ _ h => h) SS rfl (by rintro wz ⟨hz, hm⟩; go_simp) ?_
      try simp only [zc1, zc2, zc3, Act.put, zc4, zc5, zc6]
      refine wpAnyY_take [16] 1 (.pointer (some ⟨gc, 0, none⟩)) rfl (by kernel_rfl) (fun _ _ _ h => h) SS rfl (by rintro wz ⟨hz, hm⟩; go_simp) ?_
      try simp only [zc1, zc2, zc3, Act.put, zc4, zc5, zc6]
      refine wpAnyY_take [16] 2 (.pointer (some ⟨gc, 0, none⟩)) rfl (by kernel_rfl) (fun _ _ _ h => h) SS rfl (by rintro wz ⟨hz, hm⟩; go_simp) ?_
      try simp only [zc1, zc2, zc3, Act.put, zc4, zc5, zc6]
      refine wpAnyY_take [16] 3 (.pointer (some ⟨gc, 0, none⟩)) rfl (by kernel_rfl) (fun _ _ _ h => h) SS rfl (by rintro wz ⟨hz, hm⟩; go_simp) ?_
      try simp only [zc1, zc2, zc3, Act.put, zc4, zc5, zc6]
      refine wpAnyY_take [16] 4 (.agg #[.int .i64 gj.id, .string gj.nm, .slice X.a gj.L.length X.ac, .int .i64 gj.mo, .int .i64 gj.bu, .int .i64 gj.st, .bool gj.fi, .int .i64 gj.at', .slice X.q gj.G.length X.qc, .int .i64 gj.ti, .int .i64 gj.pa, .int .i64 gj.tr, .int .i64 gj.li]) rfl (by kernel_rfl) (fun _ _ _ h => h) SS rfl (by rintro wz ⟨hz, hm⟩; exact ldM rfl rfl (hz.range 0 [.int .i64 gj.id, .string gj.nm, .slice X.a gj.L.length X.ac, .int .i64 gj.mo, .int .i64 gj.bu, .int .i64 gj.st, .bool gj.fi, .int .i64 gj.at', .slice X.q gj.G.length X.qc, .int .i64 gj.ti, .int .i64 gj.pa, .int .i64 gj.tr, .int .i64 gj.li] rfl) Try.underlying44 rfl Try.info_gv) ?_
      try simp only [zc1, zc2, zc3, Act.put, zc4, zc5, zc6]
      refine wpAnyY_take [16] 5 (.slice (some ⟨gm, 0, none⟩) xs.length mc) rfl (by kernel_rfl) (fun _ _ _ h => h) SS rfl (by rintro wz ⟨hz, hm⟩; go_simp) ?_
      try simp only [zc1, zc2, zc3, Act.put, zc4, zc5, zc6]
      refine wpAnyY_take [16] 6 (.int .i64 (j : Int)) rfl (by kernel_rfl) (fun _ _ _ h => h) SS rfl (by rintro wz ⟨hz, hm⟩; go_simp) ?_
      try simp only [zc1, zc2, zc3, Act.put, zc4, zc5, zc6]
      refine wpAnyY_take [16] 7 (.pointer (some ⟨gm, j * 10, none⟩)) rfl (by kernel_rfl) (fun _ _ _ h => h) SS rfl (by rintro wz ⟨hz, hm⟩; go_simp) ?_
      try simp only [zc1, zc2, zc3, Act.put, zc4, zc5, zc6]
      refine wpAnyY_take [16] 8 (.agg #[.int .i64 x.kd, .int .i64 x.id, .string x.nm, .int .i64 x.si, .int .i64 x.su, .int .i64 x.at', .slice x.a x.da.length x.c, .slice x.q x.ga.length x.d, .int .i64 x.o, .int .i64 x.co]) rfl (by kernel_rfl) (fun _ _ _ h => h) SS rfl (by rintro wz ⟨hz, hm⟩; exact ldM rfl rfl (hm.ten hxj) Try.underlying27 rfl Try.info_nt) ?_
      try simp only [zc1, zc2, zc3, Act.put, zc4, zc5, zc6]
      refine wpAnyY_oneB 9 rfl (by kernel_rfl) (fun KK hKK => ?_)
      go_simp
      go_at_call 35
      refine (HCA wd hCd.gA.rd hCd.gO.rd (SS.2.eO x hxm).rd).mono ?_
      rintro e w3 ⟨V2, T2, HV, HT, a3, c3, q3, d3, na3, nc3, xs3, rfl, hx3, hA3, hO3, hN3, _, _, y3⟩
      dsimp only
      have hC3 := hCd.keep y3
      have hN3x := SS.2.keep y3
      have HX3 : Hid _ := hx3
      clear hx3
      refine hKK _ _ (fun _ _ => ⟨hC3.bx, hN3x⟩) ?_
      try simp only [zc1, zc2, zc3, Act.put, zc4, zc5, zc6]
      refine wpAnyY_oneB 10 rfl (by kernel_rfl) (fun KK hKK => ?_)
      go_simp
      refine hKK _ _ (fun h _ => h) ?_
      try simp only [zc1, zc2, zc3, Act.put, zc4, zc5, zc6]
      refine wpAnyY_takeF 11 (.agg #[.int .i64 V2.id, .string V2.nm, .slice a3 V2.L.length c3, .int .i64 V2.mo, .int .i64 V2.bu, .int .i64 V2.st, .bool V2.fi, .int .i64 V2.at', .slice q3 V2.G.length d3, .int .i64 V2.ti, .int .i64 V2.pa, .int .i64 V2.tr, .int .i64 V2.li]) rfl (by kernel_rfl) (fun _ _ _ h => h) rfl (by intro wz; go_simp; try rfl) ?_
      try simp only [zc1, zc2, zc3, Act.put, zc4, zc5, zc6]
      refine wpAnyY_takeF 12 (.slice na3 T2.length nc3) rfl (by kernel_rfl) (fun _ _ _ h => h) rfl (by intro wz; go_simp; try rfl) ?_
      try simp only [zc1, zc2, zc3, Act.put, zc4, zc5, zc6]
      refine wpAnyY_takeF 13 (.int .i64 0) rfl (by kernel_rfl) (fun _ _ _ h => h) rfl (by intro wz; go_simp; try rfl) ?_
      try simp only [zc1, zc2, zc3, Act.put, zc4, zc5, zc6]
      refine wpAnyY_oneB 14 rfl (by kernel_rfl) (fun KK hKK => ?_)
      go_simp
      refine hKK _ _ (fun h _ => h) ?_
      try simp only [zc1, zc2, zc3, Act.put, zc4, zc5, zc6]
      refine wpAnyY_oneB 15 rfl (by kernel_rfl) (fun KK hKK => ?_)
      go_simp
      refine hKK _ _ (fun h _ => h) ?_
      try simp only [zc1, zc2, zc3, Act.put, zc4, zc5, zc6]
      refine wpAnyY_oneB 16 rfl (by kernel_rfl) (fun KK hKK => ?_)
      refine step_of_listQ rfl ?_
      refine wpList_stP rfl _ _ _ rfl gc 0 75 _ (crA V2 a3 c3 q3 d3 c.t X.ta X.tc X.tq X.td (.slice X.da X.dn X.dc) (.slice X.ua X.un X.uc)) (gvC V2 a3 c3 q3 d3).toArray rfl rfl hC3.bx Try.info_gv (by show 0 + 13 ≤ 29; decide) (by simp [gvC, Value.oneCell']) (setA_g _ _ _ _ _ _ _ _ _ _ _ _ _ _ _ _ _) ?_
      intro w4 b4 u4
      show KK _ w4
      refine hKK _ _ (fun _ h => absurd (by decide) h) ?_
      try simp only [zc1, zc2, zc3, Act.put, zc4, zc5, zc6]
      refine wpAnyY_oneB 17 rfl (by kernel_rfl) (fun KK hKK => ?_)
      go_simp
      refine hKK _ _ (fun h _ => h) ?_
      try simp only [zc1, zc2, zc3, Act.put, zc4, zc5, zc6]
      refine wpAnyY_oneB 18 rfl (by kernel_rfl) (fun KK hKK => ?_)
      go_simp
      refine hKK _ _ (fun h _ => h) ?_
      try simp only [zc1, zc2, zc3, Act.put, zc4, zc5, zc6]
      refine wpAnyY_doneB (by kernel_rfl) ?_ _
      have hloB := hCd.gr.size
      have hC4 := hC3.putG (World.grownBy.refl w3 none) (hA3.wide hloB) (hO3.wide hloB) b4 u4
      have hN4 := hN3x.bx hC3.bx (by decide) (by decide) (by decide) u4
      have hN34 := hN3.bx hC3.bx (by decide) (by decide) (by decide) u4
      clear b4 u4 hC3 hN3x hCd SS hA3 hO3 hN3
      refine HK4.out _ _ ?_
      clear HK4
      refine wp_seq_k fun K5 hK5 => ?_
      have HK5 : Hid _ := hK5
      clear hK5
      have hCl : X.dn = dj.length := hC4.dl
      have c27 : w4.cell? ⟨gc, 27, none⟩ = some (.slice X.da X.dn X.dc) := hC4.bx.cell 27 (by show 27 < 29; decide)
      have hW4 : WyM w4 wB.heap.size X.da X.dn X.dc X.dr := hC4.dW
      have hlo4 := hC4.gr.size
      have hall : ∀ y, y ∈ xs3 → NtQ y.dt := fun y hy => dn_q hK (HQ2.out V2 T2 HV.out HT.out y.dt (by rw [← HX3.out]; exact List.mem_map_of_mem hy))
      have hlen : X.dn + T2.length ≤ 100000 := by have := HL2.out T2 HT.out; omega
      clear hCl
      have HS := sends_any wB.heap.size wd.heap.size X.da X.dn X.dc X.dr na3 T2.length nc3 xs3 w4 hW4 hN34 hlo4 hall hlen
      go_wp2_with (first
        | (go_at_call 81; refine HS.mono ?_; rintro e w5 ⟨a5, c5, qs5, rfl, hW5, hm5, u5, z5⟩; have b5 := hW4.box u5 hC4.bx (by decide); have s1 : True := trivial)
        | (have _t := s1; clear s1; refine wpList_stC _ rfl _ (.tmp 193) (.tmp 190) rfl gc 27 75 _ (crA V2 a3 c3 q3 d3 c.t X.ta X.tc X.tq X.td (.slice a5 (X.dn + T2.length) c5) (.slice X.ua X.un X.uc)) (.slice a5 (X.dn + T2.length) c5) rfl rfl b5 (stc_slY _ _ _ _ _) (by show 27 < 29; decide) rfl ?_; intro w6 b6 u6))
      refine HK5.out _ _ ?_
      clear HK5
      have hN6 := (hW4.own' u5 hN4).bx b5 (by decide) (by decide) (by decide) u6
      have hD6 : (X.dr ++ qs5).map Rw.D = (dj ++ T2).map enT := by
        rw [List.map_append, List.map_append, hC4.dD.out, hm5, ← HX3.out, List.map_map]
        rfl
      obtain ⟨X9, hC6⟩ : ∃ X9, CM wB w6 gc ⟨V2, c.t, dj ++ T2, c.up⟩ X9 := ⟨_, hC4.putD u5 hW5 hD6 z5 b6 u6⟩
      go_wp2
      refine HK2.out _ _ ?_
      clear HK2
      go_wp2
      go_roundw
      case rel =>
        refine ⟨j + 1, X9, by omega, by go_num, rfl, ?_, hN6⟩
        rw [reF_take HMJ.out, HGJ.out, ← HV.out, ← HT.out]
        exact hC6
      case measure => simp [intOf] <;> omega
    · obtain rfl : j = xs.length := by omega
      have lj : ¬ (xs.length : Int) < (xs.length : Int) := by omega
      have hMt : M.take xs.length = M := List.take_of_length_le (by have := HML.out; omega)
      rw [hMt] at hC
      have hd : X.dn = (reF c.g c.dn M).2.length := hC.dl
      have h5 := H5.out
      have l5 : (X.dn : Int) < 5000 := by omega
      have c27 : wr.cell? ⟨gc, 27, none⟩ = some (.slice X.da X.dn X.dc) := hC.bx.cell 27 (by show 27 < 29; decide)
      clear hd h5
      go_wp2
      first | go_ret | skip
      exact HP.out _ ⟨X, hC⟩
end
end Go.Proofs.Ytnimehkfnpepfaa
