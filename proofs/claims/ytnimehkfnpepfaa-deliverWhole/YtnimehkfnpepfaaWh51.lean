import Derived.Test.YtnimehkfnpepfaaWh50
import Derived.Test.YtnimehkfnpepfaaWh49
namespace Go.Proofs.Ytnimehkfnpepfaa
open Go.RowKit
set_option maxRecDepth 100000
set_option linter.unusedVariables false
set_option linter.unusedSimpArgs false

section
theorem Try.info_wy : (Try.prog.info? 77).map (·.size) = some 5 := by kernel_rfl
set_option maxHeartbeats 16000000 in
/-- the notes that came down, one by one, and what comes behind -/
theorem tk_t13 {u1 u2 u4 u5 u6 u7 u8 u9 u10 u14 u15 u16 u17 u18 u19 u20 u21 u22 u23 u24 u25 u26 u27 u28 u29 u30 u31 u32 u33 u34 u35 u36 u37 u38 u39 u40 u41 u42 u43 u44 u45 u46 u47 u48 u49 u50 u51 u52 u53 u54 u55 u56 u57 u58 u59 u60 u61 u62 u63 u64 u65 u66 u67 u68 u69 u70 u71 u72 u73 u74 u75 u76 u77 u78 u79 u80 u81 u82 u83 u84 u85 u86 u87 u88 u89 u90 u91 u92 u93 u94 u95 u96 u97 u98 u99 u100 u101 u102 u103 u104 u105 u106 u107 u108 u109 u110 u111 u112 u113 u114 u115 u116 u117 u118 u119 u120 u121 u122 u123 u124 u125 u126 u127 u128 u129 u130 u131 u132 u133 u134 u135 u136 u137 u138 u139 u140 u141 u142 u143 u144 u145 u146 u147 u148 u149 u150 u151 u152 u153 u154 u155 u156 u157 u158 u159 u160 u161 u162 u163 u164 u165 u166 u167 u168 u169 u170 u171 u172 u173 u174 u175 u176 u177 u178 u179 u180 u181 u182 u183 u184 u185 u186 u187 u188 u189 u190 u191 u192 u193 u194 u195 u196 u197 u198 u199 u200 u201 u202 u203 u204 u205 u206 u207 u208 u209 u210 : Value} (R : Ending → World → Prop) {K : Kc} (hK : K.ok) (wB w : World) (gc g3 : Nat) (c : Cr) (X0 : Cx) (hC0 : CM wB w gc c X0) (M : List Nt) (ml : Option Addr) (mc lo2 : Nat) (xs : List Nx) (hM : xs.map Nx.dt = M) (hN0 : OwN w lo2 ml xs.length mc xs) (hM2 : M.length ≤ 1000) (hdn : ∀ n, n ∈ M → DnK K n) (Dn P Lo Co : Int) (Nu : Nat) (b3 : BxS w g3 77 #[.int .i64 Dn, .int .i64 (Nu : Int), .int .i64 P, .int .i64 Lo, .int .i64 Co]) (hNu : Nu ≤ 1000)
    (hta : ∀ j, TS K (taF c.t c.up (M.take j)).1 ∧ (∀ n, n ∈ (taF c.t c.up (M.take j)).2 → UpK K n) ∧ (taF c.t c.up (M.take j)).2.length ≤ 20000)
    (U : List Nt × List Nt) (hU : U = coF P Co Lo Nu (taF c.t c.up M).2) (hU1 : ∀ n, n ∈ U.1 → UpK K n) (hU2 : U.1.length ≤ 1000)
    (hre : ∀ j, GS K (reF c.g c.dn (U.1.take j)).1 ∧ (∀ n, n ∈ (reF c.g c.dn (U.1.take j)).2 → DnK K n) ∧ (reF c.g c.dn (U.1.take j)).2.length ≤ 20000) (h5 : (reF c.g c.dn U.1).2.length < 5000)
    (hR : ∀ w', CMx wB w' gc ⟨(reF c.g c.dn U.1).1, (taF c.t c.up M).1, (reF c.g c.dn U.1).2, U.2⟩ → R (.returned (.bool true)) w') :
    Code.wp Try.prog (tailR 13 (Try.f46.body.getD .skip)) (bodyPost Try.prog Try.f46 R) (Act.mk (List.toArray ((.pointer (some ⟨gc, 0, none⟩)) :: u1 :: u2 :: (.pointer (some ⟨g3, 0, none⟩)) :: u4 :: u5 :: u6 :: u7 :: u8 :: u9 :: u10 :: (.bool true) :: (.bool true) :: (.slice ml xs.length mc) :: u14 :: u15 :: u16 :: u17 :: u18 :: u19 :: u20 :: u21 :: u22 :: u23 :: u24 :: u25 :: u26 :: u27 :: u28 :: u29 :: u30 :: u31 :: u32 :: u33 :: u34 :: u35 :: u36 :: u37 :: u38 :: u39 :: u40 :: u41 :: u42 :: u43 :: u44 :: u45 :: u46 :: u47 :: u48 :: u49 :: u50 :: u51 :: u52 :: u53 :: u54 :: u55 :: u56 :: u57 :: u58 :: u59 :: u60 :: u61 :: u62 :: u63 :: u64 :: u65 :: u66 :: u67 :: u68 :: u69 :: u70 :: u71 :: u72 :: u73 :: u74 :: u75 :: u76 :: u77 :: u78 :: u79 :: u80 :: u81 :: u82 :: u83 :: u84 :: u85 :: u86 :: u87 :: u88 :: u89 :: u90 :: u91 :: u92 :: u93 :: u94 :: u95 :: u96 :: u97 :: u98 :: u99 :: u100 :: u101 :: u102 :: u103 :: u104 :: u105 :: u106 :: u107 :: u108 :: u109 :: u110 :: u111 :: u112 :: u113 :: u114 :: u115 :: u116 :: u117 :: u118 :: u119 :: u120 :: u121 :: u122 :: u123 :: u124 :: u125 :: u126 :: u127 :: u128 :: u129 :: u130 :: u131 :: u132 :: u133 :: u134 :: u135 :: u136 :: u137 :: u138 :: u139 :: u140 :: u141 :: u142 :: u143 :: u144 :: u145 :: u146 :: u147 :: u148 :: u149 :: u150 :: u151 :: u152 :: u153 :: u154 :: u155 :: u156 :: u157 :: u158 :: u159 :: u160 :: u161 :: u162 :: u163 :: u164 :: u165 :: u166 :: u167 :: u168 :: u169 :: u170 :: u171 :: u172 :: u173 :: u174 :: u175 :: u176 :: u177 :: u178 :: u179 :: u180 :: u181 :: u182 :: u183 :: u184 :: u185 :: u186 :: u187 :: u188 :: u189 :: u190 :: u191 :: u192 :: u193 :: u194 :: u195 :: u196 :: u197 :: u198 :: u199 :: u200 :: u201 :: u202 :: u203 :: u204 :: u205 :: u206 :: u207 :: u208 :: u209 :: u210 :: [])) []) w := by
  conv => enter [2]; whnf
  have HR : Hid _ := hR
  have HTA : Hid _ := hta
  have HDN : Hid _ := hdn
  have HM : Hid _ := hM
  have H5 : Hid _ := h5
  have HU : Hid _ := hU
  have HRE : Hid _ := hre
  have hml : M.length = xs.length := by rw [← hM, List.length_map]
  have HML : Hid _ := hml
  obtain ⟨Up, hUp⟩ : ∃ Up : Int, Up = (Nu : Int) := ⟨_, rfl⟩
  rw [← hUp] at b3
  have HUP : Hid _ := hUp
  have hxl : xs.length ≤ 1000 := by omega
  clear hR hta hdn hM h5 hU hre hUp hml
  go_wp2
  go_loopw [15, 11] (fun v15 v11 wr => ∃ (j : Nat) (X : Cx), j ≤ xs.length ∧ v15 = .int .i64 j ∧ v11 = .bool true ∧ CM wB wr gc ⟨c.g, (taF c.t c.up (M.take j)).1, c.dn, (taF c.t c.up (M.take j)).2⟩ X ∧ OwN wr lo2 ml xs.length mc xs ∧ BxS wr g3 77 #[.int .i64 Dn, .int .i64 Up, .int .i64 P, .int .i64 Lo, .int .i64 Co]) (fun v15 v11 _ => xs.length - (intOf v15).toNat)
  case atStart => exact ⟨0, X0, Nat.zero_le _, rfl, rfl, hC0, hN0, b3⟩
  case round =>
    obtain ⟨j, X, hj, rfl, rfl, hC, hN, b3r⟩ := hrel
    have hR := HTA.out j
    by_cases hlt : j < xs.length
    · have lj : (j : Int) < (xs.length : Int) := by omega
      obtain ⟨x, hxj⟩ : ∃ x, xs[j]? = some x := ⟨xs[j]'hlt, List.getElem?_eq_getElem _⟩
      have hxm := List.mem_of_getElem? hxj
      have hMj : M[j]? = some x.dt := by rw [← HM.out, List.getElem?_map, hxj]; rfl
      have HMJ : Hid _ := hMj
      have hxU := HDN.out x.dt (List.mem_of_getElem? hMj)
      obtain ⟨tj, uj, hgj⟩ : ∃ tj uj, taF c.t c.up (M.take j) = (tj, uj) := ⟨_, _, rfl⟩
      have hR1 := HTA.out (j + 1)
      rw [taF_take hMj, hgj] at hR1
      rw [hgj] at hC hR
      dsimp only at hC hR hR1
      have HGJ : Hid _ := hgj
      clear hgj hMj
      have HQ2 : Hid (∀ (V2 : Tv) (T2 : List Nt), V2 = (taN tj x.dt).1 → T2 = (taN tj x.dt).2 → ∀ n, n ∈ T2 → UpK K n) := fun V2 T2 e1 e2 n hn => hR1.2.1 n (List.mem_append_right _ (by rw [← e2]; exact hn))
      have HL2 : Hid (∀ T2 : List Nt, T2 = (taN tj x.dt).2 → uj.length + T2.length ≤ 20000) := fun T2 e => by
        have h9 := hR1.2.2
        rw [List.length_append, ← e] at h9
        exact h9
      have HCA : ∀ wz, Rd wz X.ta tj.L.length X.tc tj.L → RdG wz X.tq tj.G.length X.td (giF tj.G) → Rd wz x.a x.da.length x.c x.da → RdG wz x.q x.ga.length x.d (giF x.ga) → Calls Try.prog 38 #[.agg (tkC tj X.ta X.tc X.tq X.td).toArray, .agg x.arr] wz fun e w' => ∃ V2 T2, Hid (V2 = (taN tj x.dt).1) ∧ Hid (T2 = (taN tj x.dt).2) ∧ RK wz V2 T2 0 e w' := fun wz k1 k2 k3 k4 => (takQ_any hK tj hR.1 x hxU X.ta X.tq X.tc X.td wz k1 k2 k3 k4).mono (fun e w' h => ⟨_, _, rfl, rfl, h⟩)
      clear hR hR1 hxU
      obtain ⟨gm, hgm⟩ := hN.someN (by omega)
      subst hgm
      refine wp_seq_k fun K1 hK1 => ?_
      have HK1 : Hid _ := hK1
      clear hK1
      go_wp2
      refine HK1.out _ _ ?_
      clear HK1
      refine wp_seq_k fun K2 hK2 => ?_
      have HK2 : Hid _ := hK2
      clear hK2
      refine wp_block ?_
      refine wp_seq_k fun K3 hK3 => ?_
      have HK3 : Hid _ := hK3
      clear hK3
      go_wp2
      refine HK3.out _ _ ?_
      clear HK3
      refine wp_seq_k fun K4 hK4 => ?_
      have HK4 : Hid _ := hK4
      clear hK4
      have Gd := grown_drew wr none
      have hCd := hC.keep Gd
      have SS : BxS wr.drew gc 75 (crA c.g X.a X.ac X.q X.qc tj X.ta X.tc X.tq X.td (.slice X.da X.dn X.dc) (.slice X.ua X.un X.uc)) ∧ OwN wr.drew lo2 (some ⟨gm, 0, none⟩) xs.length mc xs := ⟨hCd.bx, hN.keep Gd⟩
      refine wp_regionM (fun wz => BxS wz gc 75 (crA c.g X.a X.ac X.q X.qc tj X.ta X.tc X.tq X.td (.slice X.da X.dn X.dc) (.slice X.ua X.un X.uc)) ∧ OwN wz lo2 (some ⟨gm, 0, none⟩) xs.length mc xs) [16] #[false, false, false, false, false, false, false, false, false, false, false, false, false, false, false, false, false, false, false] rfl (by kernel_rfl) ?_
      generalize wr.drew = wd at *
      refine wpAnyY_take [16] 0 (.pointer (some ⟨gc, 0, none⟩)) rfl (by kernel_rfl) (fun _ _ _ h => h) SS rfl (by rintro wz ⟨hz, hm⟩; go_simp) ?_
      try simp only [zc1, zc2, zc3, Act.put, zc4, zc5, zc6]
      refine wpAnyY_take [16] 1 (.pointer (some ⟨gc, 0, none⟩)) rfl (by kernel_rfl) (fun _ _ _ h => h) SS rfl (by rintro wz ⟨hz, hm⟩; go_simp) ?_
      try simp only [zc1, zc2, zc3, Act.put, zc4, zc5, zc6]
      refine wpAnyY_take [16] 2 (.pointer (some ⟨gc, 0, none⟩)) rfl (by kernel_rfl) (fun _ _ _ h => h) SS rfl (by rintro wz ⟨hz, hm⟩; go_simp) ?_
      try simp only [zc1, zc2, zc3, Act.put, zc4, zc5, zc6]
      refine wpAnyY_take [16] 3 (.pointer (some ⟨gc, 13, none⟩)) rfl (by kernel_rfl) (fun _ _ _ h => h) SS rfl (by rintro wz ⟨hz, hm⟩; go_simp) ?_
      try simp only [zc1, zc2, zc3, Act.put, zc4, zc5, zc6]
      refine wpAnyY_take [16] 4 (.agg #[.int .i64 tj.id, .bool tj.kn, .string tj.nm, .int .i64 tj.si, .bool tj.en, .int .i64 tj.la, .int .i64 tj.su, .slice X.tq tj.G.length X.td, .slice X.ta tj.L.length X.tc, .int .i64 tj.st, .int .i64 tj.ti, .int .i64 tj.pa, .int .i64 tj.tr, .int .i64 tj.li]) rfl (by kernel_rfl) (fun _ _ _ h => h) SS rfl (by rintro wz ⟨hz, hm⟩; exact ldM rfl rfl (hz.range 13 [.int .i64 tj.id, .bool tj.kn, .string tj.nm, .int .i64 tj.si, .bool tj.en, .int .i64 tj.la, .int .i64 tj.su, .slice X.tq tj.G.length X.td, .slice X.ta tj.L.length X.tc, .int .i64 tj.st, .int .i64 tj.ti, .int .i64 tj.pa, .int .i64 tj.tr, .int .i64 tj.li] rfl) Try.underlying48 rfl Try.info_tk) ?_
      try simp only [zc1, zc2, zc3, Act.put, zc4, zc5, zc6]
      refine wpAnyY_take [16] 5 (.slice (some ⟨gm, 0, none⟩) xs.length mc) rfl (by kernel_rfl) (fun _ _ _ h => h) SS rfl (by rintro wz ⟨hz, hm⟩; go_simp) ?_
      try simp only [zc1, zc2, zc3, Act.put, zc4, zc5, zc6]
      refine wpAnyY_take [16] 6 (.int .i64 (j : Int)) rfl (by kernel_rfl) (fun _ _ _ h => h) SS rfl (by rintro wz ⟨hz, hm⟩; go_simp) ?_
      try simp only [zc1, zc2, zc3, Act.put, zc4, zc5, zc6]
      refine wpAnyY_take [16] 7 (.pointer (some ⟨gm, j * 10, none⟩)) rfl (by kernel_rfl) (fun _ _ _ h => h) SS rfl (by rintro wz ⟨hz, hm⟩; go_simp) ?_
      try simp only [zc1, zc2, zc3, Act.put, zc4, zc5, zc6]
      refine wpAnyY_take [16] 8 (.agg #[.int .i64 x.kd, .int .i64 x.id, .string x.nm, .int .i64 x.si, .int .i64 x.su, .int .i64 x.at', .slice x.a x.da.length x.c, .slice x.q x.ga.length x.d, .int .i64 x.o, .int .i64 x.co]) rfl (by kernel_rfl) (fun _ _ _ h => h) SS rfl (by rintro wz ⟨hz, hm⟩; exact ldM rfl rfl (hm.ten hxj) Try.underlying27 rfl Try.info_nt) ?_
      try simp only [zc1, zc2, zc3, Act.put, zc4, zc5, zc6]
      refine wpAnyY_oneB 9 rfl (by kernel_rfl) (fun KK hKK => ?_)
      go_simp
      go_at_call 38
      refine (HCA wd hCd.tA.rd hCd.tO.rd (SS.2.eA x hxm).rd (SS.2.eO x hxm).rd).mono ?_
      rintro e w3 ⟨V2, T2, HV, HT, a3, c3, q3, d3, na3, nc3, xs3, rfl, hx3, hA3, hO3, hN3, _, _, y3⟩
      dsimp only
      have hC3 := hCd.keep y3
      have hN3x := SS.2.keep y3
      have HX3 : Hid _ := hx3
      clear hx3
      refine hKK _ _ (fun _ _ => ⟨hC3.bx, hN3x⟩) ?_
      try simp only [zc1, zc2, zc3, Act.put, zc4, zc5, zc6]
      refine wpAnyY_oneB 10 rfl (by kernel_rfl) (fun KK hKK => ?_)
      go_simp
      refine hKK _ _ (fun h _ => h) ?_
      try simp only [zc1, zc2, zc3, Act.put, zc4, zc5, zc6]
      refine wpAnyY_takeF 11 (.agg #[.int .i64 V2.id, .bool V2.kn, .string V2.nm, .int .i64 V2.si, .bool V2.en, .int .i64 V2.la, .int .i64 V2.su, .slice q3 V2.G.length d3, .slice a3 V2.L.length c3, .int .i64 V2.st, .int .i64 V2.ti, .int .i64 V2.pa, .int .i64 V2.tr, .int .i64 V2.li]) rfl (by kernel_rfl) (fun _ _ _ h => h) rfl (by intro wz; go_simp; try rfl) ?_
      try simp only [zc1, zc2, zc3, Act.put, zc4, zc5, zc6]
      refine wpAnyY_takeF 12 (.slice na3 T2.length nc3) rfl (by kernel_rfl) (fun _ _ _ h => h) rfl (by intro wz; go_simp; try rfl) ?_
      try simp only [zc1, zc2, zc3, Act.put, zc4, zc5, zc6]
      refine wpAnyY_takeF 13 (.int .i64 0) rfl (by kernel_rfl) (fun _ _ _ h => h) rfl (by intro wz; go_simp; try rfl) ?_
      try simp only [zc1, zc2, zc3, Act.put, zc4, zc5, zc6]
      refine wpAnyY_oneB 14 rfl (by kernel_rfl) (fun KK hKK => ?_)
      go_simp
      refine hKK _ _ (fun h _ => h) ?_
      try simp only [zc1, zc2, zc3, Act.put, zc4, zc5, zc6]
      refine wpAnyY_oneB 15 rfl (by kernel_rfl) (fun KK hKK => ?_)
      go_simp
      refine hKK _ _ (fun h _ => h) ?_
      try simp only [zc1, zc2, zc3, Act.put, zc4, zc5, zc6]
      refine wpAnyY_oneB 16 rfl (by kernel_rfl) (fun KK hKK => ?_)
      refine step_of_listQ rfl ?_
      refine wpList_stP rfl _ _ _ rfl gc 13 75 _ (crA c.g X.a X.ac X.q X.qc V2 a3 c3 q3 d3 (.slice X.da X.dn X.dc) (.slice X.ua X.un X.uc)) (tkC V2 a3 c3 q3 d3).toArray rfl rfl hC3.bx Try.info_tk (by show 13 + 14 ≤ 29; decide) (by simp [tkC, Value.oneCell']) (setA_t _ _ _ _ _ _ _ _ _ _ _ _ _ _ _ _ _) ?_
      intro w4 b4 u4
      show KK _ w4
      refine hKK _ _ (fun _ h => absurd (by decide) h) ?_
      try simp only [zc1, zc2, zc3, Act.put, zc4, zc5, zc6]
      refine wpAnyY_oneB 17 rfl (by kernel_rfl) (fun KK hKK => ?_)
      go_simp
      refine hKK _ _ (fun h _ => h) ?_
      try simp only [zc1, zc2, zc3, Act.put, zc4, zc5, zc6]
      refine wpAnyY_oneB 18 rfl (by kernel_rfl) (fun KK hKK => ?_)
      go_simp
      refine hKK _ _ (fun h _ => h) ?_
      try simp only [zc1, zc2, zc3, Act.put, zc4, zc5, zc6]
      refine wpAnyY_doneB (by kernel_rfl) ?_ _
      have hloB := hCd.gr.size
      have hC4 := hC3.putT (World.grownBy.refl w3 none) (hA3.wide hloB) (hO3.wide hloB) b4 u4
      have hN4 := hN3x.bx hC3.bx (by decide) (by decide) (by decide) u4
      have hN34 := hN3.bx hC3.bx (by decide) (by decide) (by decide) u4
      have b33 := (b3r.keep Gd (by simp)).keep y3 (by simp)
      have b34 := b33.keep u4 (fun e => BxS.apart b33 hC3.bx (by decide) (Option.some.inj e))
      clear b4 u4 hC3 hN3x hCd SS hA3 hO3 hN3
      refine HK4.out _ _ ?_
      clear HK4
      refine wp_seq_k fun K5 hK5 => ?_
      have HK5 : Hid _ := hK5
      clear hK5
      have hCl : X.un = uj.length := hC4.ul
      have c27 : w4.cell? ⟨gc, 28, none⟩ = some (.slice X.ua X.un X.uc) := hC4.bx.cell 28 (by show 28 < 29; decide)
      have hW4 : WyM w4 wB.heap.size X.ua X.un X.uc X.ur := hC4.uW
      have hlo4 := hC4.gr.size
      have hall : ∀ y, y ∈ xs3 → NtQ y.dt := fun y hy => up_q hK (HQ2.out V2 T2 HV.out HT.out y.dt (by rw [← HX3.out]; exact List.mem_map_of_mem hy))
      have hlen : X.un + T2.length ≤ 100000 := by have := HL2.out T2 HT.out; omega
      clear hCl
      have HS := sends_any wB.heap.size wd.heap.size X.ua X.un X.uc X.ur na3 T2.length nc3 xs3 w4 hW4 hN34 hlo4 hall hlen
      go_wp2_with (first
        | (go_at_call 81; refine HS.mono ?_; rintro e w5 ⟨a5, c5, qs5, rfl, hW5, hm5, u5, z5⟩; have b5 := hW4.box u5 hC4.bx (by decide); have s1 : True := trivial)
        | (have _t := s1; clear s1; refine wpList_stC _ rfl _ (.tmp 135) (.tmp 132) rfl gc 28 75 _ (crA c.g X.a X.ac X.q X.qc V2 a3 c3 q3 d3 (.slice X.da X.dn X.dc) (.slice a5 (X.un + T2.length) c5)) (.slice a5 (X.un + T2.length) c5) rfl rfl b5 (stc_slY _ _ _ _ _) (by show 28 < 29; decide) rfl ?_; intro w6 b6 u6))
      refine HK5.out _ _ ?_
      clear HK5
      have hN6 := (hW4.own' u5 hN4).bx b5 (by decide) (by decide) (by decide) u6
      have b35 := hW4.box u5 b34 (by decide)
      have b36 := b35.keep u6 (fun e => BxS.apart b35 b5 (by decide) (Option.some.inj e))
      have hD6 : (X.ur ++ qs5).map Rw.D = (uj ++ T2).map enT := by
        rw [List.map_append, List.map_append, hC4.uD.out, hm5, ← HX3.out, List.map_map]
        rfl
      obtain ⟨X9, hC6⟩ : ∃ X9, CM wB w6 gc ⟨c.g, V2, c.dn, uj ++ T2⟩ X9 := ⟨_, hC4.putU u5 hW5 hD6 z5 b6 u6⟩
      go_wp2
      refine HK2.out _ _ ?_
      clear HK2
      go_wp2
      go_roundw
      case rel =>
        refine ⟨j + 1, X9, by omega, by go_num, rfl, ?_, hN6, b36⟩
        rw [taF_take HMJ.out, HGJ.out, ← HV.out, ← HT.out]
        exact hC6
      case measure => simp [intOf] <;> omega
    · obtain rfl : j = xs.length := by omega
      have lj : ¬ (xs.length : Int) < (xs.length : Int) := by omega
      have hMt : M.take xs.length = M := List.take_of_length_le (by have := HML.out; omega)
      rw [hMt] at hC hR
      obtain ⟨tz, uz, hgz⟩ : ∃ tz uz, taF c.t c.up M = (tz, uz) := ⟨_, _, rfl⟩
      have hU := HU.out
      have hR9 := HR.out
      rw [hgz] at hC hR hU hR9
      dsimp only at hC hR hU hR9
      have HR2 : Hid _ := hR9
      clear HR HU hR9 hgz HTA HDN HM hMt
      have HQN : Hid (∀ n, n ∈ uz → NtQ n) := fun n hn => up_q hK (hR.2.1 n hn)
      have hul : X.un = uz.length := hC.ul
      have HBN : Hid (X.un ≤ 100000) := by have := hR.2.2; show X.un ≤ 100000; omega
      have HNN : Hid (Nu ≤ 1000) := hNu
      have HU3 : Hid _ := hU
      clear hul hU hR
      go_wp2
      have hUpN := HUP.out
      subst hUpN
      have Gd := grown_drew wr none
      have hCd := hC.keep Gd
      have SS : BxS wr.drew gc 75 (crA c.g X.a X.ac X.q X.qc tz X.ta X.tc X.tq X.td (.slice X.da X.dn X.dc) (.slice X.ua X.un X.uc)) ∧ BxS wr.drew g3 77 #[.int .i64 Dn, .int .i64 (Nu : Int), .int .i64 P, .int .i64 Lo, .int .i64 Co] := ⟨hCd.bx, b3r.keep Gd (by simp)⟩
      refine wp_regionM (fun wz => BxS wz gc 75 (crA c.g X.a X.ac X.q X.qc tz X.ta X.tc X.tq X.td (.slice X.da X.dn X.dc) (.slice X.ua X.un X.uc)) ∧ BxS wz g3 77 #[.int .i64 Dn, .int .i64 (Nu : Int), .int .i64 P, .int .i64 Lo, .int .i64 Co]) [] #[false, false, false, false, false, false, false, false, false, false, false, false, false, false, false] rfl (by kernel_rfl) ?_
      generalize wr.drew = wd at *
      refine wpAnyY_take [] 0 (.pointer (some ⟨gc, 0, none⟩)) rfl (by kernel_rfl) (fun _ _ _ h => h) SS rfl (by rintro wz ⟨hz, hm⟩; go_simp) ?_
      try simp only [zc1, zc2, zc3, Act.put, zc4, zc5, zc6]
      refine wpAnyY_take [] 1 (.pointer (some ⟨gc, 0, none⟩)) rfl (by kernel_rfl) (fun _ _ _ h => h) SS rfl (by rintro wz ⟨hz, hm⟩; go_simp) ?_
      try simp only [zc1, zc2, zc3, Act.put, zc4, zc5, zc6]
      refine wpAnyY_take [] 2 (.pointer (some ⟨gc, 28, none⟩)) rfl (by kernel_rfl) (fun _ _ _ h => h) SS rfl (by rintro wz ⟨hz, hm⟩; go_simp) ?_
      try simp only [zc1, zc2, zc3, Act.put, zc4, zc5, zc6]
      refine wpAnyY_take [] 3 (.slice X.ua X.un X.uc) rfl (by kernel_rfl) (fun _ _ _ h => h) SS rfl (by rintro wz ⟨hz, hm⟩; have z : wz.cell? ⟨gc, 28, none⟩ = some (.slice X.ua X.un X.uc) := hz.cell 28 (by show 28 < 29; decide); go_simp) ?_
      try simp only [zc1, zc2, zc3, Act.put, zc4, zc5, zc6]
      refine wpAnyY_take [] 4 (.pointer (some ⟨g3, 1, none⟩)) rfl (by kernel_rfl) (fun _ _ _ h => h) SS rfl (by rintro wz ⟨hz, hm⟩; go_simp) ?_
      try simp only [zc1, zc2, zc3, Act.put, zc4, zc5, zc6]
      refine wpAnyY_take [] 5 (.int .i64 (Nu : Int)) rfl (by kernel_rfl) (fun _ _ _ h => h) SS rfl (by rintro wz ⟨hz, hm⟩; have z : wz.cell? ⟨g3, 1, none⟩ = some (.int .i64 (Nu : Int)) := hm.cell 1 (by show 1 < 5; decide); go_simp) ?_
      try simp only [zc1, zc2, zc3, Act.put, zc4, zc5, zc6]
      refine wpAnyY_take [] 6 (.agg #[.int .i64 Dn, .int .i64 (Nu : Int), .int .i64 P, .int .i64 Lo, .int .i64 Co]) rfl (by kernel_rfl) (fun _ _ _ h => h) SS rfl (by rintro wz ⟨hz, hm⟩; exact ld_execD rfl rfl hm Try.underlying77 Try.info_wy) ?_
      try simp only [zc1, zc2, zc3, Act.put, zc4, zc5, zc6]
      refine wpAnyY_oneB 7 rfl (by kernel_rfl) (fun KK hKK => ?_)
      go_simp
      go_at_call 82
      refine (comes_any wB.heap.size X.ua X.un X.uc X.ur uz Nu Dn (Nu : Int) P Lo Co wd hCd.uW hCd.uD.out (fun n hn => HQN.out n hn) HNN.out HBN.out hCd.gr.size).mono ?_
      rintro e w3 ⟨na3, nc3, xs3, a3, n3, c3, rs3, rfl, hN3, hx3, hW3, hD3, hz3, y3⟩
      dsimp only
      have hC3 := hCd.keep y3
      have b33 := SS.2.keep y3 (by simp)
      have HX3 : Hid _ := hx3
      have HD3 : Hid _ := hD3
      clear hx3 hD3
      refine hKK _ _ (fun _ _ => ⟨hC3.bx, b33⟩) ?_
      try simp only [zc1, zc2, zc3, Act.put, zc4, zc5, zc6]
      refine wpAnyY_oneB 8 rfl (by kernel_rfl) (fun KK hKK => ?_)
      go_simp
      refine hKK _ _ (fun h _ => h) ?_
      try simp only [zc1, zc2, zc3, Act.put, zc4, zc5, zc6]
      refine wpAnyY_takeF 9 (.slice na3 xs3.length nc3) rfl (by kernel_rfl) (fun _ _ _ h => h) rfl (by intro wz; go_simp; try rfl) ?_
      try simp only [zc1, zc2, zc3, Act.put, zc4, zc5, zc6]
      refine wpAnyY_takeF 10 (.slice a3 n3 c3) rfl (by kernel_rfl) (fun _ _ _ h => h) rfl (by intro wz; go_simp; try rfl) ?_
      try simp only [zc1, zc2, zc3, Act.put, zc4, zc5, zc6]
      refine wpAnyY_takeF 11 (.bool true) rfl (by kernel_rfl) (fun _ _ _ h => h) rfl (by intro wz; go_simp; try rfl) ?_
      try simp only [zc1, zc2, zc3, Act.put, zc4, zc5, zc6]
      refine wpAnyY_oneB 12 rfl (by kernel_rfl) (fun KK hKK => ?_)
      go_simp
      refine hKK _ _ (fun h _ => h) ?_
      try simp only [zc1, zc2, zc3, Act.put, zc4, zc5, zc6]
      refine wpAnyY_oneB 13 rfl (by kernel_rfl) (fun KK hKK => ?_)
      go_simp
      refine hKK _ _ (fun h _ => h) ?_
      try simp only [zc1, zc2, zc3, Act.put, zc4, zc5, zc6]
      refine wpAnyY_oneB 14 rfl (by kernel_rfl) (fun KK hKK => ?_)
      go_simp
      refine hKK _ _ (fun h _ => h) ?_
      try simp only [zc1, zc2, zc3, Act.put, zc4, zc5, zc6]
      refine wpAnyY_doneB (by kernel_rfl) ?_ _
      apply_assumption
      refine wp_seq_k fun K9 hK9 => ?_
      have HK9 : Hid _ := hK9
      clear hK9
      have s1 : True := trivial
      go_wp2_with (have _t := s1; clear s1; refine wpList_stC _ rfl _ (.tmp 156) (.tmp 154) rfl gc 28 75 _ (crA c.g X.a X.ac X.q X.qc tz X.ta X.tc X.tq X.td (.slice X.da X.dn X.dc) (.slice a3 n3 c3)) (.slice a3 n3 c3) rfl rfl hC3.bx (stc_slY _ _ _ _ _) (by show 28 < 29; decide) rfl ?_; intro w6 b6 u6)
      refine HK9.out _ _ ?_
      clear HK9
      have hC6 := hCd.putU (grown_weak y3 _) hW3 (W := U.2) (by rw [HU3.out]; exact HD3.out) hz3 b6 u6
      have hN6 := hN3.bx hC3.bx (by decide) (by decide) (by decide) u6
      exact tk_t22 R hK wB w6 gc _ _ hC6 U.1 na3 nc3 wd.heap.size xs3 (by rw [HU3.out]; exact HX3.out) hN6 hU2 hU1 HRE.out H5.out HR2.out
end
end Go.Proofs.Ytnimehkfnpepfaa
