import Derived.Test.YtnimehkfnpepfaaTk27
import Derived.Test.YtnimehkfnpepfaaTk4
import Derived.Test.YtnimehkfnpepfaaTk7
import Derived.Test.YtnimehkfnpepfaaTk9
import Derived.Test.YtnimehkfnpepfaaTk6
namespace Go.Proofs.Ytnimehkfnpepfaa
open Go.RowKit
set_option maxRecDepth 100000
set_option linter.unusedVariables false
set_option linter.unusedSimpArgs false

section
theorem DTk.setV {wB w w' : World} {g2 g5 : Nat} {V : Tv} {a : Option Addr} {c : Nat} {q : Option Addr} {d : Nat} (h : DTk wB w g2 g5 V a c q d) {V' : Tv} (hL : V'.L = V.L) (hG : V'.G = V.G) (u : w.grownBy w' (some g5)) (b : BxS w' g5 48 #[.int .i64 V'.id, .bool V'.kn, .string V'.nm, .int .i64 V'.si, .bool V'.en, .int .i64 V'.la, .int .i64 V'.su, .slice q V'.G.length d, .slice a V'.L.length c, .int .i64 V'.st, .int .i64 V'.ti, .int .i64 V'.pa, .int .i64 V'.tr, .int .i64 V'.li]) : DTk wB w' g2 g5 V' a c q d := by
  have hA := h.A.kRR u (fun z e e2 => by have e := Option.some.inj e; subst e; exact own_ty h.A.own h.b5 (by decide) e2)
  have hO := h.O.bx h.b5 (by decide) u
  rw [← hL] at hA
  rw [← hG] at hO
  exact ⟨b, h.b2.keep u (fun e => h.ne (Option.some.inj e)), hA, hO, h.l2, h.l5, h.ne, grown_far h.g u (fun z e => by have e := Option.some.inj e; have := h.l5; omega)⟩

set_option maxHeartbeats 32000000 in
theorem to_t25 {u0 u1 u2 u5 u6 u10 u11 u12 u13 u14 u15 u16 u17 u18 u19 u20 u21 u22 u23 u24 u25 u26 u27 u28 u29 u30 u31 u32 u33 u34 u35 u36 u37 u38 u39 u40 u41 u42 u43 u44 u45 u46 u47 u48 u49 u50 u51 u52 u53 u54 u55 u56 u57 u58 u59 u60 u61 u62 u63 u64 u65 u66 u67 u68 u69 u70 u71 u72 u73 u74 u75 u76 u77 u78 u79 u80 u81 u82 u83 u84 u85 u86 u87 u88 u89 u90 u91 u92 u93 u94 u95 u96 u97 u98 u99 u100 u101 u102 u103 u104 u105 u106 u107 u108 u109 u110 u111 u112 u113 u114 u115 u116 u117 u118 u119 u120 u121 u122 u123 u124 u125 u126 u127 u128 u129 u130 u131 u132 u133 u134 u135 u136 u137 u138 u139 u140 u141 u142 u143 u144 u145 u146 u147 u148 u149 u150 u151 u152 u153 u154 u155 u156 u157 u158 u159 u160 u161 u162 u163 u164 u165 u166 u167 u168 u169 u170 u171 u172 u173 u174 u175 u176 u177 u178 u179 u180 u181 u182 : Value} (P : Ending → World → Prop) (wB w : World) (g4 g7 : Nat) (V : Tv) (a : Option Addr) (c : Nat) (q : Option Addr) (d : Nat) (h : DTk wB w g4 g7 V a c q d) (g3 g8 : Nat) (kd nid : Int) (nm2 : ByteArray) (si2 su2 : Int) (pa2 : Option Addr) (pn pc : Nat) (ga : Option Addr) (gm gd : Nat) (o co : Int) (x : Nat) (D : List Nat) (hD : Rd wB pa2 pn pc D) (b3 : BxS w g3 27 #[.int .i64 kd, .int .i64 nid, .string nm2, .int .i64 si2, .int .i64 su2, .int .i64 (x : Int), .slice pa2 pn pc, .slice ga gm gd, .int .i64 o, .int .i64 co]) (b8 : BxS w g8 27 #[.int .i64 6, .int .i64 V.id, .string ⟨#[]⟩, .int .i64 0, .int .i64 0, .int .i64 0, .slice none 0 0, .slice none 0 0, .int .i64 3, .int .i64 0]) (ho : TvQ V) (hs0 : V.st = 0) (hn : NtK kd si2 su2 (x : Int) pn o x)
    (hP : ∀ e w', RDk wB (juV (heK V kd nm2 si2 su2 x D)).1 (seT V.id kd ++ (juV (heK V kd nm2 si2 su2 x D)).2 ++ gpT (juV (heK V kd nm2 si2 su2 x D)).1 kd) 0 e w' → P e w') :
    Code.wp Try.prog (tailR 25 (Try.f36.body.getD .skip)) (bodyPost Try.prog Try.f36 P) (Act.mk (List.toArray (u0 :: u1 :: u2 :: (.pointer (some ⟨g3, 0, none⟩)) :: (.pointer (some ⟨g4, 0, none⟩)) :: u5 :: u6 :: (.pointer (some ⟨g7, 0, none⟩)) :: (.pointer (some ⟨g8, 0, none⟩)) :: (.slice none 0 0) :: u10 :: u11 :: u12 :: u13 :: u14 :: u15 :: u16 :: u17 :: u18 :: u19 :: u20 :: u21 :: u22 :: u23 :: u24 :: u25 :: u26 :: u27 :: u28 :: u29 :: u30 :: u31 :: u32 :: u33 :: u34 :: u35 :: u36 :: u37 :: u38 :: u39 :: u40 :: u41 :: u42 :: u43 :: u44 :: u45 :: u46 :: u47 :: u48 :: u49 :: u50 :: u51 :: u52 :: u53 :: u54 :: u55 :: u56 :: u57 :: u58 :: u59 :: u60 :: u61 :: u62 :: u63 :: u64 :: u65 :: u66 :: u67 :: u68 :: u69 :: u70 :: u71 :: u72 :: u73 :: u74 :: u75 :: u76 :: u77 :: u78 :: u79 :: u80 :: u81 :: u82 :: u83 :: u84 :: u85 :: u86 :: u87 :: u88 :: u89 :: u90 :: u91 :: u92 :: u93 :: u94 :: u95 :: u96 :: u97 :: u98 :: u99 :: u100 :: u101 :: u102 :: u103 :: u104 :: u105 :: u106 :: u107 :: u108 :: u109 :: u110 :: u111 :: u112 :: u113 :: u114 :: u115 :: u116 :: u117 :: u118 :: u119 :: u120 :: u121 :: u122 :: u123 :: u124 :: u125 :: u126 :: u127 :: u128 :: u129 :: u130 :: u131 :: u132 :: u133 :: u134 :: u135 :: u136 :: u137 :: u138 :: u139 :: u140 :: u141 :: u142 :: u143 :: u144 :: u145 :: u146 :: u147 :: u148 :: u149 :: u150 :: u151 :: u152 :: u153 :: u154 :: u155 :: u156 :: u157 :: u158 :: u159 :: u160 :: u161 :: u162 :: u163 :: u164 :: u165 :: u166 :: u167 :: u168 :: u169 :: u170 :: u171 :: u172 :: u173 :: u174 :: u175 :: u176 :: u177 :: u178 :: u179 :: u180 :: u181 :: u182 :: [])) []) w := by
  conv => enter [2]; whnf
  have HP : Hid _ := hP
  clear hP
  have i14 := Try.info_tk
  have i10 := Try.info_nt
  have hDl : D.length = pn := hD.len
  have hn2 : NtK kd si2 su2 (x : Int) D.length o x := by rw [hDl]; exact hn
  have hq := heK_q ho hn2 nm2
  have hkk := hn.kk
  have HPC : Hid _ := hn.pc
  have HS0 : Hid _ := hs0
  have HO : Hid _ := ho
  have HDL : Hid _ := hDl
  clear hn hn2 ho hs0 hDl
  rcases hkk with rfl | rfl | rfl | rfl
  · have y0 : w.cell? ⟨g3, 0, none⟩ = some (.int .i64 1) := b3.cell 0 (by show 0 < 10; decide)
    refine wp_seq_k fun K1 hK1 => ?_
    have HK1 : Hid _ := hK1
    clear hK1
    refine wp_seq_k fun K2 hK2 => ?_
    have HK2 : Hid _ := hK2
    clear hK2
    go_wp2
    refine HK2.out _ _ ?_
    clear HK2
    refine wp_block ?_
    have x1 : w.cell? ⟨g7, 1, none⟩ = some (.bool V.kn) := h.b5.cell 1 (by show 1 < 14; decide)
    by_cases hk : V.kn = true
    · rw [hk] at x1
      have HK9 : Hid _ := hk
      clear hk
      go_wp2
      try simp only [Exit.then, Exit.inBlock]
      refine HK1.out _ _ ?_
      clear HK1
      have eK : heK V 1 nm2 si2 su2 x D = V := by unfold heK; rw [if_pos rfl, if_pos HK9.out]
      rw [eK] at hq HP
      have eS : seT V.id 1 = [] := rfl
      rw [eS] at HP
      exact to_t35 P wB w g4 g7 V a c q d none 0 [] [] h rfl (OwN.nil _ _) (by simp) g3 1 nid nm2 si2 su2 (x : Int) pa2 pn pc ga gm gd o co b3 hq HS0.out (fun e => by cases e) (fun e w' kk => HP.out e w' kk)
    · have hk2 : V.kn = false := by cases e : V.kn with | true => exact absurd e hk | false => rfl
      rw [hk2] at x1
      have HK9 : Hid _ := hk
      clear hk hk2
      refine wp_seq_k fun K2 hK2 => ?_
      have HK2 : Hid _ := hK2
      clear hK2
      go_wp2
      refine HK2.out _ _ ?_
      clear HK2
      refine wp_cond_true rfl ?_
      refine wp_seq_k fun K2 hK2 => ?_
      have HK2 : Hid _ := hK2
      clear hK2
      go_wp2
      refine HK2.out _ _ ?_
      clear HK2
      refine wp_cond_true rfl ?_
      clear x1 y0
      have Gd := grown_drew w none
      have hd := h.keepN Gd
      have S0 : BxS w.drew g3 27 #[.int .i64 1, .int .i64 nid, .string nm2, .int .i64 si2, .int .i64 su2, .int .i64 (x : Int), .slice pa2 pn pc, .slice ga gm gd, .int .i64 o, .int .i64 co] := b3.keep Gd (by simp)
      refine wp_regionL (fun wz => BxS wz g3 27 #[.int .i64 1, .int .i64 nid, .string nm2, .int .i64 si2, .int .i64 su2, .int .i64 (x : Int), .slice pa2 pn pc, .slice ga gm gd, .int .i64 o, .int .i64 co]) [] #[false, false, false, false, false, false, false, false, false, false] rfl (by kernel_rfl) ?_
      generalize w.drew = wd at *
      refine wpAnyZ_take [] 0 (.pointer (some ⟨g3, 2, none⟩)) rfl (by kernel_rfl) (fun _ _ _ h => h) S0 rfl (by intro wz hz; go_simp) ?_
      try simp only [List.getElem_toArray, List.getElem_cons_succ, List.getElem_cons_zero, Act.put, List.setIfInBounds_toArray, List.set_cons_zero, List.set_cons_succ]
      refine wpAnyZ_take [] 1 (.string nm2) rfl (by kernel_rfl) (fun _ _ _ h => h) S0 rfl (by intro wz hz; have z : wz.cell? ⟨g3, 2, none⟩ = some (.string nm2) := hz.cell 2 (by show 2 < 10; decide); go_simp) ?_
      try simp only [List.getElem_toArray, List.getElem_cons_succ, List.getElem_cons_zero, Act.put, List.setIfInBounds_toArray, List.set_cons_zero, List.set_cons_succ]
      refine wpAnyZ_take [] 2 (.pointer (some ⟨g3, 3, none⟩)) rfl (by kernel_rfl) (fun _ _ _ h => h) S0 rfl (by intro wz hz; go_simp) ?_
      try simp only [List.getElem_toArray, List.getElem_cons_succ, List.getElem_cons_zero, Act.put, List.setIfInBounds_toArray, List.set_cons_zero, List.set_cons_succ]
      refine wpAnyZ_take [] 3 (.int .i64 si2) rfl (by kernel_rfl) (fun _ _ _ h => h) S0 rfl (by intro wz hz; have z : wz.cell? ⟨g3, 3, none⟩ = some (.int .i64 si2) := hz.cell 3 (by show 3 < 10; decide); go_simp) ?_
      try simp only [List.getElem_toArray, List.getElem_cons_succ, List.getElem_cons_zero, Act.put, List.setIfInBounds_toArray, List.set_cons_zero, List.set_cons_succ]
      refine wpAnyZ_take [] 4 (.pointer (some ⟨g7, 1, none⟩)) rfl (by kernel_rfl) (fun _ _ _ h => h) S0 rfl (by intro wz hz; go_simp) ?_
      try simp only [List.getElem_toArray, List.getElem_cons_succ, List.getElem_cons_zero, Act.put, List.setIfInBounds_toArray, List.set_cons_zero, List.set_cons_succ]
      refine wpAnyZ_oneB 5 rfl (by kernel_rfl) (fun KK hKK => ?_)
      refine step_stCd _ rfl _ _ _ rfl g7 1 48 _ #[.int .i64 V.id, .bool true, .string V.nm, .int .i64 V.si, .bool V.en, .int .i64 V.la, .int .i64 V.su, .slice q V.G.length d, .slice a V.L.length c, .int .i64 V.st, .int .i64 V.ti, .int .i64 V.pa, .int .i64 V.tr, .int .i64 V.li] (.bool true) rfl rfl hd.b5 ((fun w' h1 h2 => stc_boK _ _ _ _ h1 h2)) (by show 1 < 14; decide) rfl ?_
      intro wx0 bx0 ux0
      have S1 := S0.keep ux0 (fun e => BxS.apart S0 hd.b5 (by decide) (Option.some.inj e))
      have hx0 := hd.setV (V' := { V with kn := true }) rfl rfl ux0 bx0
      refine hKK _ _ (fun _ => S1) ?_
      try simp only [List.getElem_toArray, List.getElem_cons_succ, List.getElem_cons_zero, Act.put, List.setIfInBounds_toArray, List.set_cons_zero, List.set_cons_succ]
      refine wpAnyZ_take [] 6 (.pointer (some ⟨g7, 2, none⟩)) rfl (by kernel_rfl) (fun _ _ _ h => h) S1 rfl (by intro wz hz; go_simp) ?_
      try simp only [List.getElem_toArray, List.getElem_cons_succ, List.getElem_cons_zero, Act.put, List.setIfInBounds_toArray, List.set_cons_zero, List.set_cons_succ]
      refine wpAnyZ_oneB 7 rfl (by kernel_rfl) (fun KK hKK => ?_)
      refine step_stCd _ rfl _ _ _ rfl g7 2 48 _ #[.int .i64 V.id, .bool true, .string nm2, .int .i64 V.si, .bool V.en, .int .i64 V.la, .int .i64 V.su, .slice q V.G.length d, .slice a V.L.length c, .int .i64 V.st, .int .i64 V.ti, .int .i64 V.pa, .int .i64 V.tr, .int .i64 V.li] (.string nm2) rfl rfl hx0.b5 ((fun w' h1 h2 => stc_stK _ _ _ _ h1 h2)) (by show 2 < 14; decide) rfl ?_
      intro wx1 bx1 ux1
      have S2 := S1.keep ux1 (fun e => BxS.apart S1 hx0.b5 (by decide) (Option.some.inj e))
      have hx1 := hx0.setV (V' := { V with kn := true, nm := nm2 }) rfl rfl ux1 bx1
      refine hKK _ _ (fun _ => S2) ?_
      try simp only [List.getElem_toArray, List.getElem_cons_succ, List.getElem_cons_zero, Act.put, List.setIfInBounds_toArray, List.set_cons_zero, List.set_cons_succ]
      refine wpAnyZ_take [] 8 (.pointer (some ⟨g7, 3, none⟩)) rfl (by kernel_rfl) (fun _ _ _ h => h) S2 rfl (by intro wz hz; go_simp) ?_
      try simp only [List.getElem_toArray, List.getElem_cons_succ, List.getElem_cons_zero, Act.put, List.setIfInBounds_toArray, List.set_cons_zero, List.set_cons_succ]
      refine wpAnyZ_oneB 9 rfl (by kernel_rfl) (fun KK hKK => ?_)
      refine step_stCd _ rfl _ _ _ rfl g7 3 48 _ #[.int .i64 V.id, .bool true, .string nm2, .int .i64 si2, .bool V.en, .int .i64 V.la, .int .i64 V.su, .slice q V.G.length d, .slice a V.L.length c, .int .i64 V.st, .int .i64 V.ti, .int .i64 V.pa, .int .i64 V.tr, .int .i64 V.li] (.int .i64 si2) rfl rfl hx1.b5 ((fun w' h1 h2 => stc_int _ _ _ _ h1 h2)) (by show 3 < 14; decide) rfl ?_
      intro wx2 bx2 ux2
      have S3 := S2.keep ux2 (fun e => BxS.apart S2 hx1.b5 (by decide) (Option.some.inj e))
      have hx2 := hx1.setV (V' := { V with kn := true, nm := nm2, si := si2 }) rfl rfl ux2 bx2
      refine hKK _ _ (fun _ => S3) ?_
      try simp only [List.getElem_toArray, List.getElem_cons_succ, List.getElem_cons_zero, Act.put, List.setIfInBounds_toArray, List.set_cons_zero, List.set_cons_succ]
      refine wpAnyZ_doneB (by kernel_rfl) ?_ _
      try simp only [Exit.then, Exit.inBlock]
      refine HK1.out _ _ ?_
      clear HK1
      have eK : heK V 1 nm2 si2 su2 x D = { V with kn := true, nm := nm2, si := si2 } := by unfold heK; rw [if_pos rfl, if_neg HK9.out]
      rw [eK] at hq HP
      have eS : seT V.id 1 = [] := rfl
      rw [eS] at HP
      exact to_t35 P wB wx2 g4 g7 { V with kn := true, nm := nm2, si := si2 } a c q d none 0 [] [] hx2 rfl (OwN.nil _ _) (by simp) g3 1 nid nm2 si2 su2 (x : Int) pa2 pn pc ga gm gd o co S3 hq HS0.out (fun e => by cases e) (fun e w' kk => HP.out e w' kk)
  · have y0 : w.cell? ⟨g3, 0, none⟩ = some (.int .i64 2) := b3.cell 0 (by show 0 < 10; decide)
    refine wp_seq_k fun K1 hK1 => ?_
    have HK1 : Hid _ := hK1
    clear hK1
    refine wp_seq_k fun K2 hK2 => ?_
    have HK2 : Hid _ := hK2
    clear hK2
    go_wp2
    refine HK2.out _ _ ?_
    clear HK2
    refine wp_block ?_
    have hpp := HPC.out (by first | rfl | trivial)
    have b5 := h.b5
    have kL := fun wz (k1 : Rd wz a V.L.length c V.L) (k2 : RdG wz q V.G.length d (giF V.G)) (k3 : Rd wz pa2 pn pc D) => rlay_any V a q c d 2 nid nm2 si2 su2 (x : Int) pa2 pn pc ga gm gd o co x D wz rfl k1 k2 k3 hpp.1 hpp.2 HO.out
    unfold tkA ntA at kL
    have s0 : True := trivial
    go_wp2_with (first
      | (have _t := s0; clear s0; refine wpList_ldX _ rfl _ (.tmp 7) rfl g7 _ rfl b5 Try.underlying48 i14 ?_; have s1 : True := trivial)
      | (have _t := s1; clear s1; refine wpList_ldX _ rfl _ (.tmp 3) rfl g3 _ rfl b3 Try.underlying27 i10 ?_; have s2 : True := trivial)
      | (go_at_call 73; have _t := s2; clear s2; refine (kL w h.A.rd h.O.rd (hD.keep h.g)).mono ?_; rintro e w4 ⟨a4, c4, q4, d4, rfl, hA4, hO4, y4⟩; have h4 := h.keepN y4; have b34 := b3.keep y4 (by simp); have s3 : True := trivial)
      | (have _t := s3; clear s3; refine wpList_stX _ rfl _ (.tmp 7) (.tmp 94) rfl g7 _ _ rfl rfl h4.b5 i14 rfl (by simp [Value.oneCell']) ?_; intro w5 b55 u5))
    try simp only [Exit.then, Exit.inBlock]
    have zB := h.g.size
    have h5 : DTk wB w5 g4 g7 { V with L := (laL V.L D (giF V.G) V.G.length x), G := (wiL (giF V.G) (x : Int) ((x + D.length : Nat) : Int) V.G.length) } a4 c4 q4 d4 := ⟨b55, h4.b2.keep u5 (fun e => h4.ne (Option.some.inj e)), (hA4.kRR u5 (fun z e e2 => by have e := Option.some.inj e; subst e; exact own_ty hA4.own h4.b5 (by decide) e2)).wide zB, (hO4.bx h4.b5 (by decide) u5).wide zB, h.l2, h.l5, h.ne, grown_far h4.g u5 (fun z e => by have e := Option.some.inj e; have := h.l5; omega)⟩
    have b35 := b34.keep u5 (fun e => BxS.apart b34 h4.b5 (by decide) (Option.some.inj e))
    refine HK1.out _ _ ?_
    clear HK1
    have eK : heK V 2 nm2 si2 su2 x D = { V with L := (laL V.L D (giF V.G) V.G.length x), G := (wiL (giF V.G) (x : Int) ((x + D.length : Nat) : Int) V.G.length) } := by unfold heK; rw [if_neg (by decide), if_pos rfl]
    rw [eK] at hq HP
    have eS : seT V.id 2 = [] := rfl
    rw [eS] at HP
    exact to_t35 P wB w5 g4 g7 { V with L := (laL V.L D (giF V.G) V.G.length x), G := (wiL (giF V.G) (x : Int) ((x + D.length : Nat) : Int) V.G.length) } a4 c4 q4 d4 none 0 [] [] h5 rfl (OwN.nil _ _) (by simp) g3 2 nid nm2 si2 su2 (x : Int) pa2 pn pc ga gm gd o co b35 hq HS0.out (fun e => by cases e) (fun e w' kk => HP.out e w' kk)
  · have y0 : w.cell? ⟨g3, 0, none⟩ = some (.int .i64 3) := b3.cell 0 (by show 0 < 10; decide)
    refine wp_seq_k fun K1 hK1 => ?_
    have HK1 : Hid _ := hK1
    clear hK1
    refine wp_seq_k fun K2 hK2 => ?_
    have HK2 : Hid _ := hK2
    clear hK2
    go_wp2
    refine HK2.out _ _ ?_
    clear HK2
    refine wp_block ?_
    refine wp_seq_k fun K2 hK2 => ?_
    have HK2 : Hid _ := hK2
    clear hK2
    go_wp2
    refine HK2.out _ _ ?_
    clear HK2
    refine wp_cond_false rfl ?_
    refine wp_seq_k fun K2 hK2 => ?_
    have HK2 : Hid _ := hK2
    clear hK2
    go_wp2
    refine HK2.out _ _ ?_
    clear HK2
    refine wp_cond_false rfl ?_
    refine wp_seq_k fun K2 hK2 => ?_
    have HK2 : Hid _ := hK2
    clear hK2
    go_wp2
    refine HK2.out _ _ ?_
    clear HK2
    refine wp_cond_true rfl ?_
    clear y0
    have bA := BxS.new w 27 #[.int .i64 6, .int .i64 V.id, .string ⟨#[]⟩, .int .i64 0, .int .i64 0, .int .i64 0, .slice none 0 0, .slice none 0 0, .int .i64 3, .int .i64 0]
    have yA := World.grownBy_alloc w (.cells #[.int .i64 6, .int .i64 V.id, .string ⟨#[]⟩, .int .i64 0, .int .i64 0, .int .i64 0, .slice none 0 0, .slice none 0 0, .int .i64 3, .int .i64 0] 27) none
    generalize hwA : w.alloc (.cells #[.int .i64 6, .int .i64 V.id, .string ⟨#[]⟩, .int .i64 0, .int .i64 0, .int .i64 0, .slice none 0 0, .slice none 0 0, .int .i64 3, .int .i64 0] 27) = wA at bA yA
    have hA := h.keepN yA
    have lA := hA.g.size
    have bA : BxS wA w.heap.size 27 (xSeE V.id).arr := bA
    refine wp_seq_k fun K2 hK2 => ?_
    have HK2 : Hid _ := hK2
    clear hK2
    have s0 : True := trivial
    go_wp2_with (first
      | (have _t := s0; clear s0; refine wpList_ldX _ rfl _ (.tmp 8) rfl g8 _ rfl b8 Try.underlying27 i10 ?_; have s1 : True := trivial)
      | (at_builtin; have _t := s1; clear s1; refine wpList_psNx rfl _ _ rfl none 0 0 wB.heap.size [] rfl (OwN.nil _ _) lA w.heap.size (xSeE V.id) rfl bA (by omega) (Ans.nil _ _) (OwGi.nil _ _) (fun z e => by rcases e with e | e <;> cases e) ?_; intro na5 nc5 w5 hN5 u5))
    refine HK2.out _ _ ?_
    clear HK2
    have u5 : wA.grownBy w5 none := u5
    have h5 := hA.keepN u5
    have b35 := (b3.keep yA (by simp)).keep u5 (by simp)
    have hN5 : OwN w5 wB.heap.size na5 1 nc5 [xSeE V.id] := hN5
    clear hwA
    have x4 : w5.cell? ⟨g7, 4, none⟩ = some (.bool V.en) := h5.b5.cell 4 (by show 4 < 14; decide)
    by_cases hk : V.en = true
    · rw [hk] at x4
      have HK9 : Hid _ := hk
      clear hk
      go_wp2
      try simp only [Exit.then, Exit.inBlock]
      refine HK1.out _ _ ?_
      clear HK1
      have eK : heK V 3 nm2 si2 su2 x D = V := by unfold heK; rw [if_neg (by decide), if_neg (by decide), if_pos rfl, if_pos HK9.out]
      rw [eK] at hq HP
      have eS : seT V.id 3 = [ntSeen V.id] := rfl
      rw [eS] at HP
      exact to_t35 P wB w5 g4 g7 V a c q d na5 nc5 [xSeE V.id] [ntSeen V.id] h5 rfl hN5 (by simp) g3 3 nid nm2 si2 su2 (x : Int) pa2 pn pc ga gm gd o co b35 hq HS0.out (fun _ => HK9.out) (fun e w' kk => HP.out e w' kk)
    · have hk2 : V.en = false := by cases e : V.en with | true => exact absurd e hk | false => rfl
      rw [hk2] at x4
      have HK9 : Hid _ := hk
      clear hk hk2
      refine wp_seq_k fun K2 hK2 => ?_
      have HK2 : Hid _ := hK2
      clear hK2
      go_wp2
      refine HK2.out _ _ ?_
      clear HK2
      refine wp_cond_true rfl ?_
      clear x4
      have Gd := grown_drew w5 none
      have hd := h5.keepN Gd
      have S0 : BxS w5.drew g3 27 #[.int .i64 3, .int .i64 nid, .string nm2, .int .i64 si2, .int .i64 su2, .int .i64 (x : Int), .slice pa2 pn pc, .slice ga gm gd, .int .i64 o, .int .i64 co] := b35.keep Gd (by simp)
      refine wp_regionL (fun wz => BxS wz g3 27 #[.int .i64 3, .int .i64 nid, .string nm2, .int .i64 si2, .int .i64 su2, .int .i64 (x : Int), .slice pa2 pn pc, .slice ga gm gd, .int .i64 o, .int .i64 co]) [] #[false, false, false, false, false, false, false, false, false, false] rfl (by kernel_rfl) ?_
      generalize w5.drew = wd at *
      refine wpAnyZ_take [] 0 (.pointer (some ⟨g3, 3, none⟩)) rfl (by kernel_rfl) (fun _ _ _ h => h) S0 rfl (by intro wz hz; go_simp) ?_
      try simp only [List.getElem_toArray, List.getElem_cons_succ, List.getElem_cons_zero, Act.put, List.setIfInBounds_toArray, List.set_cons_zero, List.set_cons_succ]
      refine wpAnyZ_take [] 1 (.int .i64 si2) rfl (by kernel_rfl) (fun _ _ _ h => h) S0 rfl (by intro wz hz; have z : wz.cell? ⟨g3, 3, none⟩ = some (.int .i64 si2) := hz.cell 3 (by show 3 < 10; decide); go_simp) ?_
      try simp only [List.getElem_toArray, List.getElem_cons_succ, List.getElem_cons_zero, Act.put, List.setIfInBounds_toArray, List.set_cons_zero, List.set_cons_succ]
      refine wpAnyZ_take [] 2 (.pointer (some ⟨g3, 4, none⟩)) rfl (by kernel_rfl) (fun _ _ _ h => h) S0 rfl (by intro wz hz; go_simp) ?_
      try simp only [List.getElem_toArray, List.getElem_cons_succ, List.getElem_cons_zero, Act.put, List.setIfInBounds_toArray, List.set_cons_zero, List.set_cons_succ]
      refine wpAnyZ_take [] 3 (.int .i64 su2) rfl (by kernel_rfl) (fun _ _ _ h => h) S0 rfl (by intro wz hz; have z : wz.cell? ⟨g3, 4, none⟩ = some (.int .i64 su2) := hz.cell 4 (by show 4 < 10; decide); go_simp) ?_
      try simp only [List.getElem_toArray, List.getElem_cons_succ, List.getElem_cons_zero, Act.put, List.setIfInBounds_toArray, List.set_cons_zero, List.set_cons_succ]
      refine wpAnyZ_take [] 4 (.pointer (some ⟨g7, 4, none⟩)) rfl (by kernel_rfl) (fun _ _ _ h => h) S0 rfl (by intro wz hz; go_simp) ?_
      try simp only [List.getElem_toArray, List.getElem_cons_succ, List.getElem_cons_zero, Act.put, List.setIfInBounds_toArray, List.set_cons_zero, List.set_cons_succ]
      refine wpAnyZ_oneB 5 rfl (by kernel_rfl) (fun KK hKK => ?_)
      refine step_stCd _ rfl _ _ _ rfl g7 4 48 _ #[.int .i64 V.id, .bool V.kn, .string V.nm, .int .i64 V.si, .bool true, .int .i64 V.la, .int .i64 V.su, .slice q V.G.length d, .slice a V.L.length c, .int .i64 V.st, .int .i64 V.ti, .int .i64 V.pa, .int .i64 V.tr, .int .i64 V.li] (.bool true) rfl rfl hd.b5 ((fun w' h1 h2 => stc_boK _ _ _ _ h1 h2)) (by show 4 < 14; decide) rfl ?_
      intro wx0 bx0 ux0
      have S1 := S0.keep ux0 (fun e => BxS.apart S0 hd.b5 (by decide) (Option.some.inj e))
      have hx0 := hd.setV (V' := { V with en := true }) rfl rfl ux0 bx0
      refine hKK _ _ (fun _ => S1) ?_
      try simp only [List.getElem_toArray, List.getElem_cons_succ, List.getElem_cons_zero, Act.put, List.setIfInBounds_toArray, List.set_cons_zero, List.set_cons_succ]
      refine wpAnyZ_take [] 6 (.pointer (some ⟨g7, 5, none⟩)) rfl (by kernel_rfl) (fun _ _ _ h => h) S1 rfl (by intro wz hz; go_simp) ?_
      try simp only [List.getElem_toArray, List.getElem_cons_succ, List.getElem_cons_zero, Act.put, List.setIfInBounds_toArray, List.set_cons_zero, List.set_cons_succ]
      refine wpAnyZ_oneB 7 rfl (by kernel_rfl) (fun KK hKK => ?_)
      refine step_stCd _ rfl _ _ _ rfl g7 5 48 _ #[.int .i64 V.id, .bool V.kn, .string V.nm, .int .i64 V.si, .bool true, .int .i64 si2, .int .i64 V.su, .slice q V.G.length d, .slice a V.L.length c, .int .i64 V.st, .int .i64 V.ti, .int .i64 V.pa, .int .i64 V.tr, .int .i64 V.li] (.int .i64 si2) rfl rfl hx0.b5 ((fun w' h1 h2 => stc_int _ _ _ _ h1 h2)) (by show 5 < 14; decide) rfl ?_
      intro wx1 bx1 ux1
      have S2 := S1.keep ux1 (fun e => BxS.apart S1 hx0.b5 (by decide) (Option.some.inj e))
      have hx1 := hx0.setV (V' := { V with en := true, la := si2 }) rfl rfl ux1 bx1
      refine hKK _ _ (fun _ => S2) ?_
      try simp only [List.getElem_toArray, List.getElem_cons_succ, List.getElem_cons_zero, Act.put, List.setIfInBounds_toArray, List.set_cons_zero, List.set_cons_succ]
      refine wpAnyZ_take [] 8 (.pointer (some ⟨g7, 6, none⟩)) rfl (by kernel_rfl) (fun _ _ _ h => h) S2 rfl (by intro wz hz; go_simp) ?_
      try simp only [List.getElem_toArray, List.getElem_cons_succ, List.getElem_cons_zero, Act.put, List.setIfInBounds_toArray, List.set_cons_zero, List.set_cons_succ]
      refine wpAnyZ_oneB 9 rfl (by kernel_rfl) (fun KK hKK => ?_)
      refine step_stCd _ rfl _ _ _ rfl g7 6 48 _ #[.int .i64 V.id, .bool V.kn, .string V.nm, .int .i64 V.si, .bool true, .int .i64 si2, .int .i64 su2, .slice q V.G.length d, .slice a V.L.length c, .int .i64 V.st, .int .i64 V.ti, .int .i64 V.pa, .int .i64 V.tr, .int .i64 V.li] (.int .i64 su2) rfl rfl hx1.b5 ((fun w' h1 h2 => stc_int _ _ _ _ h1 h2)) (by show 6 < 14; decide) rfl ?_
      intro wx2 bx2 ux2
      have S3 := S2.keep ux2 (fun e => BxS.apart S2 hx1.b5 (by decide) (Option.some.inj e))
      have hx2 := hx1.setV (V' := { V with en := true, la := si2, su := su2 }) rfl rfl ux2 bx2
      refine hKK _ _ (fun _ => S3) ?_
      try simp only [List.getElem_toArray, List.getElem_cons_succ, List.getElem_cons_zero, Act.put, List.setIfInBounds_toArray, List.set_cons_zero, List.set_cons_succ]
      refine wpAnyZ_doneB (by kernel_rfl) ?_ _
      try simp only [Exit.then, Exit.inBlock]
      have hN9 := (((hN5.keep Gd).bx hd.b5 (by decide) (by decide) (by decide) ux0).bx hx0.b5 (by decide) (by decide) (by decide) ux1).bx hx1.b5 (by decide) (by decide) (by decide) ux2
      refine HK1.out _ _ ?_
      clear HK1
      have eK : heK V 3 nm2 si2 su2 x D = { V with en := true, la := si2, su := su2 } := by unfold heK; rw [if_neg (by decide), if_neg (by decide), if_pos rfl, if_neg HK9.out]
      rw [eK] at hq HP
      have eS : seT V.id 3 = [ntSeen V.id] := rfl
      rw [eS] at HP
      exact to_t35 P wB wx2 g4 g7 { V with en := true, la := si2, su := su2 } a c q d na5 nc5 [xSeE V.id] [ntSeen V.id] hx2 rfl hN9 (by simp) g3 3 nid nm2 si2 su2 (x : Int) pa2 pn pc ga gm gd o co S3 hq HS0.out (fun _ => rfl) (fun e w' kk => HP.out e w' kk)
  · have y0 : w.cell? ⟨g3, 0, none⟩ = some (.int .i64 6) := b3.cell 0 (by show 0 < 10; decide)
    refine wp_seq_k fun K1 hK1 => ?_
    have HK1 : Hid _ := hK1
    clear hK1
    refine wp_seq_k fun K2 hK2 => ?_
    have HK2 : Hid _ := hK2
    clear hK2
    go_wp2
    refine HK2.out _ _ ?_
    clear HK2
    refine wp_block ?_
    go_wp2
    try simp only [Exit.then, Exit.inBlock]
    refine HK1.out _ _ ?_
    clear HK1
    have eK : heK V 6 nm2 si2 su2 x D = V := by unfold heK; rw [if_neg (by decide), if_neg (by decide), if_neg (by decide)]
    rw [eK] at hq HP
    have eS : seT V.id 6 = [] := rfl
    rw [eS] at HP
    exact to_t35 P wB w g4 g7 V a c q d none 0 [] [] h rfl (OwN.nil _ _) (by simp) g3 6 nid nm2 si2 su2 (x : Int) pa2 pn pc ga gm gd o co b3 hq HS0.out (fun e => by cases e) (fun e w' kk => HP.out e w' kk)

set_option maxHeartbeats 32000000 in
theorem to_t22 {u0 u1 u2 u5 u6 u9 u10 u11 u12 u13 u14 u15 u16 u17 u18 u19 u20 u21 u22 u23 u24 u25 u26 u27 u28 u29 u30 u31 u32 u33 u34 u35 u36 u37 u38 u39 u40 u41 u42 u43 u44 u45 u46 u47 u48 u49 u50 u51 u52 u53 u54 u55 u56 u57 u58 u59 u60 u61 u62 u63 u64 u65 u66 u67 u68 u69 u70 u71 u72 u73 u74 u75 u76 u77 u78 u79 u80 u81 u82 u83 u84 u85 u86 u87 u88 u89 u90 u91 u92 u93 u94 u95 u96 u97 u98 u99 u100 u101 u102 u103 u104 u105 u106 u107 u108 u109 u110 u111 u112 u113 u114 u115 u116 u117 u118 u119 u120 u121 u122 u123 u124 u125 u126 u127 u128 u129 u130 u131 u132 u133 u134 u135 u136 u137 u138 u139 u140 u141 u142 u143 u144 u145 u146 u147 u148 u149 u150 u151 u152 u153 u154 u155 u156 u157 u158 u159 u160 u161 u162 u163 u164 u165 u166 u167 u168 u169 u170 u171 u172 u173 u174 u175 u176 u177 u178 u179 u180 u181 u182 : Value} (P : Ending → World → Prop) (wB w : World) (g4 g7 : Nat) (V : Tv) (a : Option Addr) (c : Nat) (q : Option Addr) (d : Nat) (h : DTk wB w g4 g7 V a c q d) (g3 g8 : Nat) (kd nid : Int) (nm2 : ByteArray) (si2 su2 : Int) (pa2 : Option Addr) (pn pc : Nat) (ga : Option Addr) (gm gd : Nat) (o co : Int) (x : Nat) (D : List Nat) (hD : Rd wB pa2 pn pc D) (b3 : BxS w g3 27 #[.int .i64 kd, .int .i64 nid, .string nm2, .int .i64 si2, .int .i64 su2, .int .i64 (x : Int), .slice pa2 pn pc, .slice ga gm gd, .int .i64 o, .int .i64 co]) (b8 : BxS w g8 27 #[.int .i64 6, .int .i64 V.id, .string ⟨#[]⟩, .int .i64 0, .int .i64 0, .int .i64 0, .slice none 0 0, .slice none 0 0, .int .i64 3, .int .i64 0]) (ho : TvQ V) (hs0 : V.st = 0) (hn : NtK kd si2 su2 (x : Int) pn o x)
    (hP : ∀ e w', RDk wB (heG V kd nm2 si2 su2 x D).1 (heG V kd nm2 si2 su2 x D).2 0 e w' → P e w') :
    Code.wp Try.prog (tailR 22 (Try.f36.body.getD .skip)) (bodyPost Try.prog Try.f36 P) (Act.mk (List.toArray (u0 :: u1 :: u2 :: (.pointer (some ⟨g3, 0, none⟩)) :: (.pointer (some ⟨g4, 0, none⟩)) :: u5 :: u6 :: (.pointer (some ⟨g7, 0, none⟩)) :: (.pointer (some ⟨g8, 0, none⟩)) :: u9 :: u10 :: u11 :: u12 :: u13 :: u14 :: u15 :: u16 :: u17 :: u18 :: u19 :: u20 :: u21 :: u22 :: u23 :: u24 :: u25 :: u26 :: u27 :: u28 :: u29 :: u30 :: u31 :: u32 :: u33 :: u34 :: u35 :: u36 :: u37 :: u38 :: u39 :: u40 :: u41 :: u42 :: u43 :: u44 :: u45 :: u46 :: u47 :: u48 :: u49 :: u50 :: u51 :: u52 :: u53 :: u54 :: u55 :: u56 :: u57 :: u58 :: u59 :: u60 :: u61 :: u62 :: u63 :: u64 :: u65 :: u66 :: u67 :: u68 :: u69 :: u70 :: u71 :: u72 :: u73 :: u74 :: u75 :: u76 :: u77 :: u78 :: u79 :: u80 :: u81 :: u82 :: u83 :: u84 :: u85 :: u86 :: u87 :: u88 :: u89 :: u90 :: u91 :: u92 :: u93 :: u94 :: u95 :: u96 :: u97 :: u98 :: u99 :: u100 :: u101 :: u102 :: u103 :: u104 :: u105 :: u106 :: u107 :: u108 :: u109 :: u110 :: u111 :: u112 :: u113 :: u114 :: u115 :: u116 :: u117 :: u118 :: u119 :: u120 :: u121 :: u122 :: u123 :: u124 :: u125 :: u126 :: u127 :: u128 :: u129 :: u130 :: u131 :: u132 :: u133 :: u134 :: u135 :: u136 :: u137 :: u138 :: u139 :: u140 :: u141 :: u142 :: u143 :: u144 :: u145 :: u146 :: u147 :: u148 :: u149 :: u150 :: u151 :: u152 :: u153 :: u154 :: u155 :: u156 :: u157 :: u158 :: u159 :: u160 :: u161 :: u162 :: u163 :: u164 :: u165 :: u166 :: u167 :: u168 :: u169 :: u170 :: u171 :: u172 :: u173 :: u174 :: u175 :: u176 :: u177 :: u178 :: u179 :: u180 :: u181 :: u182 :: [])) []) w := by
  conv => enter [2]; whnf
  have HP : Hid _ := hP
  clear hP
  have i14 := Try.info_tk
  have i10 := Try.info_nt
  refine wp_seq_k fun K1 hK1 => ?_
  have HK1 : Hid _ := hK1
  clear hK1
  have s0 : True := trivial
  go_wp2_with (have _t := s0; clear s0; refine wpList_stC _ rfl _ _ _ rfl g7 10 48 _ #[.int .i64 V.id, .bool V.kn, .string V.nm, .int .i64 V.si, .bool V.en, .int .i64 V.la, .int .i64 V.su, .slice q V.G.length d, .slice a V.L.length c, .int .i64 V.st, .int .i64 0, .int .i64 V.pa, .int .i64 V.tr, .int .i64 V.li] (.int .i64 0) rfl rfl h.b5 (stc_int _ _ _) (by show 10 < 14; decide) rfl ?_; intro w1 bw1 uw1)
  refine HK1.out _ _ ?_
  clear HK1
  have h1 := h.set uw1 bw1
  have b31 := b3.keep uw1 (fun e => BxS.apart b3 h.b5 (by decide) (Option.some.inj e))
  have b81 := b8.keep uw1 (fun e => BxS.apart b8 h.b5 (by decide) (Option.some.inj e))
  refine wp_seq_k fun K1 hK1 => ?_
  have HK1 : Hid _ := hK1
  clear hK1
  have s0 : True := trivial
  go_wp2_with (have _t := s0; clear s0; refine wpList_stC _ rfl _ _ _ rfl g7 12 48 _ #[.int .i64 V.id, .bool V.kn, .string V.nm, .int .i64 V.si, .bool V.en, .int .i64 V.la, .int .i64 V.su, .slice q V.G.length d, .slice a V.L.length c, .int .i64 V.st, .int .i64 0, .int .i64 V.pa, .int .i64 0, .int .i64 V.li] (.int .i64 0) rfl rfl h1.b5 (stc_int _ _ _) (by show 12 < 14; decide) rfl ?_; intro w2 bw2 uw2)
  refine HK1.out _ _ ?_
  clear HK1
  have h2 : DTk wB w2 g4 g7 { V with ti := 0, tr := 0 } a c q d := h1.set uw2 bw2
  have b32 := b31.keep uw2 (fun e => BxS.apart b31 h1.b5 (by decide) (Option.some.inj e))
  have b82 := b81.keep uw2 (fun e => BxS.apart b81 h1.b5 (by decide) (Option.some.inj e))
  refine wp_seq_k fun K1 hK1 => ?_
  have HK1 : Hid _ := hK1
  clear hK1
  go_wp2
  refine HK1.out _ _ ?_
  clear HK1
  exact to_t25 P wB w2 g4 g7 { V with ti := 0, tr := 0 } a c q d h2 g3 g8 kd nid nm2 si2 su2 pa2 pn pc ga gm gd o co x D hD b32 b82 ⟨ho.ri, ho.gl, ho.ge, ho.n9, ho.si, ho.la⟩ hs0 hn (fun e w' kk => HP.out e w' kk)
end
end Go.Proofs.Ytnimehkfnpepfaa
