import Derived.Test.YtlfacjpehhcdiaaOn16
namespace Go.Proofs.Ytlfacjpehhcdiaa
open Go.RowKit
set_option maxRecDepth 100000
set_option linter.unusedVariables false
set_option linter.unusedSimpArgs false

section
theorem OwW.bxL {w w' : World} {lo g : Nat} {a : Option Addr} {n c : Nat} {rs : List Rw} {R : List (List Nat)} {t : TypeId} {A : Array Value} (h : OwW w lo a n c rs R) (b : BxS w g t A) (h1 : 29 ≠ t) (h2 : 5 ≠ t) (u : w.grownBy w' (some g)) : OwW w' lo a n c rs R :=
  h.fz (fz_of2 u) (fun x hx e => by
    have e := Option.some.inj e
    subst e
    exact ofr_box h.o b h1 h2 hx rfl)
theorem OwHd.bxL {w w' : World} {lo g : Nat} {X : Hx} {rs qs : List Rw} {d : Hd} {t : TypeId} {A : Array Value} (h : OwHd w lo X rs qs d) (b : BxS w g t A) (h1 : 29 ≠ t) (h2 : 5 ≠ t) (u : w.grownBy w' (some g)) : OwHd w' lo X rs qs d :=
  ⟨h.s.bxL b h1 h2 u, h.q.bxL b h1 h2 u, h.ap⟩
/-- rows, as 'append' reads them -/
theorem OwW.src {w : World} {lo : Nat} {a : Option Addr} {n c : Nat} {rs : List Rw} {R : List (List Nat)} (h : OwW w lo a n c rs R) : (a = none → n = 0 ∧ c = 0) ∧ (∀ ad, a = some ad → ∀ j u, (flatR rs)[j]? = some u → w.cell? (ad.add j) = some u) := by
  have hr := RO.of h.o
  rcases hr.at' with ⟨e, e1, e2⟩ | ⟨g, o, cur, e, _, hh, _, hc⟩
  · refine ⟨fun _ => ⟨e1, e2⟩, fun ad e3 => ?_⟩
    rw [e] at e3
    cases e3
  · refine ⟨fun e3 => ?_, fun ad e3 j u hu => ?_⟩
    · rw [e] at e3
      cases e3
    · rw [e] at e3
      cases e3
      rw [addr_add, cell_of_row _ _ _ _ _ _ hh]
      exact hc j u hu
set_option maxHeartbeats 32000000 in
theorem tk_t10 {u1 u2 u4 u5 u6 u7 u11 u12 u13 u14 u15 u16 u17 u18 u19 u20 u21 u22 u23 u24 u25 u26 u27 u28 u29 u30 u31 u32 u33 u34 u35 u36 u37 u38 u39 u40 u41 u42 u43 u44 u45 u46 u47 u48 u49 u50 u51 u52 u53 u54 u55 u56 u57 u58 u59 u60 u61 u62 u63 u64 u65 u66 u67 u68 u69 u70 u71 u72 u73 u74 u75 u76 u77 u78 u79 u80 u81 u82 u83 u84 u85 u86 u87 u88 u89 u90 u91 u92 u93 u94 u95 u96 u97 u98 u99 u100 u101 u102 u103 u104 u105 u106 u107 u108 u109 u110 u111 u112 u113 u114 u115 u116 u117 u118 u119 u120 u121 u122 u123 u124 u125 u126 u127 u128 u129 u130 u131 u132 u133 u134 u135 u136 u137 u138 u139 u140 u141 u142 u143 u144 u145 u146 u147 u148 u149 u150 u151 u152 u153 u154 u155 u156 u157 u158 u159 u160 u161 u162 u163 u164 u165 u166 u167 u168 u169 u170 u171 u172 u173 u174 u175 u176 u177 u178 u179 u180 u181 u182 u183 u184 u185 u186 u187 u188 u189 u190 u191 u192 u193 u194 u195 : Value} (P : Ending → World → Prop) (wB w0 w : World) (gl gp g8 : Nat) (l : Lk) (X : Lx) (hM : LM wB w0 gl l X) (G0 : w0.grownBy w none) (d2 : Hd) (P1 : Hx) (rs1 qs1 : List Rw) (xa : Option Addr) (xn xc : Nat) (us1 : List Rw) (N : List Nat) (b8 : BxS w g8 26 (haC d2 P1).toArray) (hH : OwHd w w0.heap.size P1 rs1 qs1 d2) (hU : OwW w w0.heap.size xa xn xc us1 (N.map frm)) (s' f' : Nat) (hL : LI ⟨d2, l.x, l.way ++ N, l.old ++ N, l.a, false⟩ s' f') (hw : l.way.length + N.length ≤ 100000) (ho : l.old.length + N.length ≤ 900000) (As Co Lo Ag : Int) (Fu De : Bool) (hCo : -9223372036854775808 ≤ Co ∧ Co ≤ 9223372036854775807) (hLo : -9223372036854775808 ≤ Lo ∧ Lo ≤ 9223372036854775807) (hAg : -9223372036854775808 ≤ Ag ∧ Ag ≤ 9223372036854775807) (bp : BxS w gp 36 #[.int .i64 As, .int .i64 Co, .int .i64 Lo, .bool Fu, .bool De, .int .i64 Ag])
    (hP : ∀ w' X' x, LM wB w' gl ⟨d2, x, (l.way ++ N).drop Co.toNat, l.old ++ N, l.a, !De⟩ X' → LI ⟨d2, x, (l.way ++ N).drop Co.toNat, l.old ++ N, l.a, !De⟩ s' f' → (Ag < 0 → Lo = 0 → Fu = false → x = gaF true l.x ((l.way ++ N).take Co.toNat)) → P (.returned (.bool true)) w') :
    Code.wp Try.prog (tailR 10 (Try.f5.body.getD .skip)) (bodyPost Try.prog Try.f5 P) (Act.mk (List.toArray ((.pointer (some ⟨gl, 0, none⟩)) :: u1 :: u2 :: (.pointer (some ⟨gp, 0, none⟩)) :: u4 :: u5 :: u6 :: u7 :: (.pointer (some ⟨g8, 0, none⟩)) :: (.slice xa xn xc) :: (.int .i64 0) :: u11 :: u12 :: u13 :: u14 :: u15 :: u16 :: u17 :: u18 :: u19 :: u20 :: u21 :: u22 :: u23 :: u24 :: u25 :: u26 :: u27 :: u28 :: u29 :: u30 :: u31 :: u32 :: u33 :: u34 :: u35 :: u36 :: u37 :: u38 :: u39 :: u40 :: u41 :: u42 :: u43 :: u44 :: u45 :: u46 :: u47 :: u48 :: u49 :: u50 :: u51 :: u52 :: u53 :: u54 :: u55 :: u56 :: u57 :: u58 :: u59 :: u60 :: u61 :: u62 :: u63 :: u64 :: u65 :: u66 :: u67 :: u68 :: u69 :: u70 :: u71 :: u72 :: u73 :: u74 :: u75 :: u76 :: u77 :: u78 :: u79 :: u80 :: u81 :: u82 :: u83 :: u84 :: u85 :: u86 :: u87 :: u88 :: u89 :: u90 :: u91 :: u92 :: u93 :: u94 :: u95 :: u96 :: u97 :: u98 :: u99 :: u100 :: u101 :: u102 :: u103 :: u104 :: u105 :: u106 :: u107 :: u108 :: u109 :: u110 :: u111 :: u112 :: u113 :: u114 :: u115 :: u116 :: u117 :: u118 :: u119 :: u120 :: u121 :: u122 :: u123 :: u124 :: u125 :: u126 :: u127 :: u128 :: u129 :: u130 :: u131 :: u132 :: u133 :: u134 :: u135 :: u136 :: u137 :: u138 :: u139 :: u140 :: u141 :: u142 :: u143 :: u144 :: u145 :: u146 :: u147 :: u148 :: u149 :: u150 :: u151 :: u152 :: u153 :: u154 :: u155 :: u156 :: u157 :: u158 :: u159 :: u160 :: u161 :: u162 :: u163 :: u164 :: u165 :: u166 :: u167 :: u168 :: u169 :: u170 :: u171 :: u172 :: u173 :: u174 :: u175 :: u176 :: u177 :: u178 :: u179 :: u180 :: u181 :: u182 :: u183 :: u184 :: u185 :: u186 :: u187 :: u188 :: u189 :: u190 :: u191 :: u192 :: u193 :: u194 :: u195 :: [])) []) w := by
  conv => enter [2]; whnf
  have HP : Hid _ := hP
  have HW : Hid _ := hw
  have HLI : Hid _ := hL
  have hxn : xn = N.length := by have := hU.len; rw [List.length_map] at this; omega
  have hwl := hM.c.wl
  have hol := hM.c.ol
  have hwb : X.wn + xn ≤ 1000000 := by omega
  have hob : X.on + xn ≤ 1000000 := by omega
  have bM := hM.bx.keep G0 (by simp)
  have hC := hM.c.hand G0 hH l.a
  clear hP hL hw ho hxn hwl hol
  have h5 : ∀ y, (Value.slice X.da X.dn X.dc).ownBlock = some y → ∀ r, r ∈ us1 → r.v.ownBlock ≠ some y := fun y e r hr e2 => by
    have h1 := ans_ltK hM.c.dn e
    have h2 := hU.lo' y (.inr ⟨r, hr, e2⟩)
    omega
  have hwlt : ∀ y, Hb X.wa y → y < w0.heap.size := fun y hy => (hM.c.wy.hlo hy).2.1
  have holt : ∀ y, Hb X.oa y → y < w0.heap.size := fun y hy => (hM.c.od.hlo hy).2.1
  have hB0 : wB.heap.size ≤ w0.heap.size := hM.c.gr.size
  refine wp_seq_k fun K0 hK0 => ?_
  have HK0 : Hid _ := hK0
  clear hK0
  go_wp2
  refine HK0.out _ _ ?_
  clear HK0
  refine wp_seq_k fun K1 hK1 => ?_
  have HK1 : Hid _ := hK1
  clear hK1
  have s1 : True := trivial
  go_wp2_with (first
    | (have _t := s1; clear s1; refine wpList_ldX _ rfl _ (.tmp 8) rfl g8 _ rfl b8 Try.underlying26 Try.info_hn ?_; have s2 : True := trivial)
    | (have _t := s2; clear s2; refine wpList_stPL rfl _ (.tmp 81) (.tmp 79) rfl gl 0 31 _ (lkA d2 P1 l.x (.slice X.wa X.wn X.wc) (.slice X.oa X.on X.oc) (.slice X.da X.dn X.dc) l.a X.z l.he) (haC d2 P1).toArray rfl rfl bM Try.info_hn (by show 0 + 12 ≤ 25; decide) (by simp [haC, Value.oneCell']) (setA_ha _ _ _ _ _ _ _ _ _ _ _) ?_; intro w4 b4 u4; have s3 : True := trivial)
    | (have _t := s3; clear s3; refine wpList_stC _ rfl _ (.tmp 83) _ rfl gl 24 31 _ (lkA d2 P1 l.x (.slice X.wa X.wn X.wc) (.slice X.oa X.on X.oc) (.slice X.da X.dn X.dc) l.a X.z false) (.bool false) rfl rfl b4 (stc_bool _ _ _) (by show 24 < 25; decide) rfl ?_; intro w5 b5 u5))
  refine HK1.out _ _ ?_
  clear HK1
  have hM5 := ((hC.box b4 u4).told false X.z (fun e => by cases e)).st b5 u5
  have hU5 := (hU.bxL bM (by decide) (by decide) u4).bxL b4 (by decide) (by decide) u5
  have bp5 := (bp.keep u4 (fun e => BxS.apart bp bM (by decide) (Option.some.inj e))).keep u5 (fun e => BxS.apart (bp.keep u4 (fun e => BxS.apart bp bM (by decide) (Option.some.inj e))) b4 (by decide) (Option.some.inj e))
  clear hC hM bM b4 u4 u5 bp hU hH b8 b5
  have b5 := hM5.bx
  have hW5 := hM5.c.wy
  have c19 : w5.cell? ⟨gl, 19, none⟩ = some (.slice X.wa X.wn X.wc) := b5.cell 19 (by show 19 < 25; decide)
  have hsz5 := hM5.c.gr.size
  have hsr := hU5.src
  have hea : ∀ r, r ∈ us1 → Ans w5 wB.heap.size r.a r.n r.c r.D := fun r hr => (hU5.o.each r hr).wide hB0
  refine wp_seq_k fun K2 hK2 => ?_
  have HK2 : Hid _ := hK2
  clear hK2
  have s1 : True := trivial
  go_wp2_with (first
    | (have _t := s1; clear s1; at_builtin; refine wpList_joRO rfl _ _ rfl X.wa X.wn X.wc X.wr rfl hW5 hsz5 xa xn xc us1 hU5.o.len rfl hsr.1 hsr.2 hea hwb ?_; intro a7 c7 w7 r7 hn7 u7 hr7 hz7; have b7 := b5.keep u7 (fun e => by obtain ⟨cs2, bb⟩ := (hW5.hlo (hr7 gl e.symm)).2.2; exact BxS.apart b5 bb (by decide) rfl); have s2 : True := trivial)
    | (have _t := s2; clear s2; refine wpList_stC _ rfl _ (.tmp 92) (.tmp 90) rfl gl 19 31 _ (lkA d2 P1 l.x (.slice a7 (X.wn + xn) c7) (.slice X.oa X.on X.oc) (.slice X.da X.dn X.dc) l.a X.z false) (.slice a7 (X.wn + xn) c7) rfl rfl b7 (stc_rows _ _ _ _ _) (by show 19 < 25; decide) rfl ?_; intro w8 b8 u8))
  refine HK2.out _ _ ?_
  clear HK2
  have hM8 := (hM5.c.send u7 hr7 hn7 hz7 hU5.d h5).st b8 u8
  have hU8 := (hU5.fz (fz_of2 u7) (fun y hy e => by have h1 := hwlt y (hr7 y e); have h2 := hU5.lo' y hy; omega)).bxL b7 (by decide) (by decide) u8
  have bp7 := bp5.keep u7 (fun e => by obtain ⟨cs2, bb⟩ := (hW5.hlo (hr7 gp e.symm)).2.2; exact BxS.apart bp5 bb (by decide) rfl)
  have bp8 := bp7.keep u8 (fun e => BxS.apart bp7 b7 (by decide) (Option.some.inj e))
  clear hM5 hU5 bp5 bp7 b5 b7 b8 u7 u8 hW5 hn7 hr7 hz7 hea hsr c19 hsz5
  have b8 := hM8.bx
  have hW8 := hM8.c.od
  have c20 : w8.cell? ⟨gl, 20, none⟩ = some (.slice X.oa X.on X.oc) := b8.cell 20 (by show 20 < 25; decide)
  have hsz8 := hM8.c.gr.size
  have hsr := hU8.src
  have hea : ∀ r, r ∈ us1 → Ans w8 wB.heap.size r.a r.n r.c r.D := fun r hr => (hU8.o.each r hr).wide hB0
  refine wp_seq_k fun K3 hK3 => ?_
  have HK3 : Hid _ := hK3
  clear hK3
  have s1 : True := trivial
  go_wp2_with (first
    | (have _t := s1; clear s1; at_builtin; refine wpList_joRO rfl _ _ rfl X.oa X.on X.oc X.or' rfl hW8 hsz8 xa xn xc us1 hU8.o.len rfl hsr.1 hsr.2 hea hob ?_; intro a9 c9 w9 r9 hn9 u9 hr9 hz9; have b9 := b8.keep u9 (fun e => by obtain ⟨cs2, bb⟩ := (hW8.hlo (hr9 gl e.symm)).2.2; exact BxS.apart b8 bb (by decide) rfl); have s2 : True := trivial)
    | (have _t := s2; clear s2; refine wpList_stC _ rfl _ (.tmp 101) (.tmp 99) rfl gl 20 31 _ (lkA d2 P1 l.x (.slice a7 (X.wn + xn) c7) (.slice a9 (X.on + xn) c9) (.slice X.da X.dn X.dc) l.a X.z false) (.slice a9 (X.on + xn) c9) rfl rfl b9 (stc_rows _ _ _ _ _) (by show 20 < 25; decide) rfl ?_; intro wx bx ux))
  refine HK3.out _ _ ?_
  clear HK3
  have hMx := (hM8.c.sendO u9 hr9 hn9 hz9 hU8.d h5).st bx ux
  have bp9 := bp8.keep u9 (fun e => by obtain ⟨cs2, bb⟩ := (hW8.hlo (hr9 gp e.symm)).2.2; exact BxS.apart bp8 bb (by decide) rfl)
  have bpx := bp9.keep ux (fun e => BxS.apart bp9 b9 (by decide) (Option.some.inj e))
  exact tk_t15 P wB wx gl gp ⟨d2, l.x, l.way ++ N, l.old ++ N, l.a, false⟩ _ hMx rfl s' f' HLI.out (by show (l.way ++ N).length ≤ 100000; rw [List.length_append]; exact HW.out) As Co Lo Ag Fu De hCo hLo hAg bpx HP.out
end

section
theorem OwHd.wideL {w : World} {lo lo' : Nat} {X : Hx} {rs qs : List Rw} {d : Hd} (h : OwHd w lo X rs qs d) (hl : lo' ≤ lo) : OwHd w lo' X rs qs d := ⟨h.s.wide hl, h.q.wide hl, h.ap⟩
theorem ts_quiet (d : Hd) (z z' : Int) : tsV d z false = tsV d z' false ∧ tsR d z false = tsR d z' false := by
  have hH : ∀ z, tkH z false = false := fun z => by unfold tkH; simp
  have hG : ∀ z k, tkG z false k = false := fun z k => by unfold tkG; rw [hH]; simp
  have hB : ∀ z, tkB d z false = tkA d := fun z => by unfold tkB; rw [hH]; simp
  have hC : ∀ z, tkC d z false = tkC d z' false := fun z => by unfold tkC; rw [hB, hB, hG, hG, hG, hG]
  have hCU : ∀ z, tkCU d z false = tkCU d z' false := fun z => by unfold tkCU; rw [hB, hB, hG, hG, hG, hG]
  have hO : ∀ z, tkO d z false = tkO d z' false := fun z => by unfold tkO; rw [hC z, hG, hG]
  unfold tsV tsR tkD tkU
  rw [hC z, hCU z, hO z]
  exact ⟨rfl, rfl⟩
set_option maxHeartbeats 32000000 in
theorem tk_t9 {u1 u2 u4 u5 u6 u7 u8 u9 u10 u11 u12 u13 u14 u15 u16 u17 u18 u19 u20 u21 u22 u23 u24 u25 u26 u27 u28 u29 u30 u31 u32 u33 u34 u35 u36 u37 u38 u39 u40 u41 u42 u43 u44 u45 u46 u47 u48 u49 u50 u51 u52 u53 u54 u55 u56 u57 u58 u59 u60 u61 u62 u63 u64 u65 u66 u67 u68 u69 u70 u71 u72 u73 u74 u75 u76 u77 u78 u79 u80 u81 u82 u83 u84 u85 u86 u87 u88 u89 u90 u91 u92 u93 u94 u95 u96 u97 u98 u99 u100 u101 u102 u103 u104 u105 u106 u107 u108 u109 u110 u111 u112 u113 u114 u115 u116 u117 u118 u119 u120 u121 u122 u123 u124 u125 u126 u127 u128 u129 u130 u131 u132 u133 u134 u135 u136 u137 u138 u139 u140 u141 u142 u143 u144 u145 u146 u147 u148 u149 u150 u151 u152 u153 u154 u155 u156 u157 u158 u159 u160 u161 u162 u163 u164 u165 u166 u167 u168 u169 u170 u171 u172 u173 u174 u175 u176 u177 u178 u179 u180 u181 u182 u183 u184 u185 u186 u187 u188 u189 u190 u191 u192 u193 u194 u195 : Value} (P : Ending → World → Prop) (wB w : World) (gl gp : Nat) (l : Lk) (X : Lx) (hM : LM wB w gl l X) (s f s' : Nat) (N : List Nat) (hL : LI l s f) (hS : LS l s f s' N) (hw : l.way.length + N.length ≤ 100000) (ho : l.old.length + N.length ≤ 900000) (As Co Lo Ag : Int) (Fu De : Bool) (hCo : -9223372036854775808 ≤ Co ∧ Co ≤ 9223372036854775807) (hLo : -9223372036854775808 ≤ Lo ∧ Lo ≤ 9223372036854775807) (hAg : -9223372036854775808 ≤ Ag ∧ Ag ≤ 9223372036854775807) (bp : BxS w gp 36 #[.int .i64 As, .int .i64 Co, .int .i64 Lo, .bool Fu, .bool De, .int .i64 Ag])
    (hP : ∀ w' X' x, LM wB w' gl ⟨tsV l.d l.z l.he, x, (l.way ++ N).drop Co.toNat, l.old ++ N, l.a, !De⟩ X' → LI ⟨tsV l.d l.z l.he, x, (l.way ++ N).drop Co.toNat, l.old ++ N, l.a, !De⟩ s' (if l.d.hl = 0 ∧ l.he = true then l.x.1 else f) → (Ag < 0 → Lo = 0 → Fu = false → x = gaF true l.x ((l.way ++ N).take Co.toNat)) → P (.returned (.bool true)) w') :
    Code.wp Try.prog (tailR 9 (Try.f5.body.getD .skip)) (bodyPost Try.prog Try.f5 P) (Act.mk (List.toArray ((.pointer (some ⟨gl, 0, none⟩)) :: u1 :: u2 :: (.pointer (some ⟨gp, 0, none⟩)) :: u4 :: u5 :: u6 :: u7 :: u8 :: u9 :: u10 :: u11 :: u12 :: u13 :: u14 :: u15 :: u16 :: u17 :: u18 :: u19 :: u20 :: u21 :: u22 :: u23 :: u24 :: u25 :: u26 :: u27 :: u28 :: u29 :: u30 :: u31 :: u32 :: u33 :: u34 :: u35 :: u36 :: u37 :: u38 :: u39 :: u40 :: u41 :: u42 :: u43 :: u44 :: u45 :: u46 :: u47 :: u48 :: u49 :: u50 :: u51 :: u52 :: u53 :: u54 :: u55 :: u56 :: u57 :: u58 :: u59 :: u60 :: u61 :: u62 :: u63 :: u64 :: u65 :: u66 :: u67 :: u68 :: u69 :: u70 :: u71 :: u72 :: u73 :: u74 :: u75 :: u76 :: u77 :: u78 :: u79 :: u80 :: u81 :: u82 :: u83 :: u84 :: u85 :: u86 :: u87 :: u88 :: u89 :: u90 :: u91 :: u92 :: u93 :: u94 :: u95 :: u96 :: u97 :: u98 :: u99 :: u100 :: u101 :: u102 :: u103 :: u104 :: u105 :: u106 :: u107 :: u108 :: u109 :: u110 :: u111 :: u112 :: u113 :: u114 :: u115 :: u116 :: u117 :: u118 :: u119 :: u120 :: u121 :: u122 :: u123 :: u124 :: u125 :: u126 :: u127 :: u128 :: u129 :: u130 :: u131 :: u132 :: u133 :: u134 :: u135 :: u136 :: u137 :: u138 :: u139 :: u140 :: u141 :: u142 :: u143 :: u144 :: u145 :: u146 :: u147 :: u148 :: u149 :: u150 :: u151 :: u152 :: u153 :: u154 :: u155 :: u156 :: u157 :: u158 :: u159 :: u160 :: u161 :: u162 :: u163 :: u164 :: u165 :: u166 :: u167 :: u168 :: u169 :: u170 :: u171 :: u172 :: u173 :: u174 :: u175 :: u176 :: u177 :: u178 :: u179 :: u180 :: u181 :: u182 :: u183 :: u184 :: u185 :: u186 :: u187 :: u188 :: u189 :: u190 :: u191 :: u192 :: u193 :: u194 :: u195 :: [])) []) w := by
  conv => enter [2]; whnf
  have hz : tsV l.d X.z l.he = tsV l.d l.z l.he ∧ tsR l.d X.z l.he = tsR l.d l.z l.he := by
    cases hh : l.he with
    | true => rw [hM.c.zz hh]; exact ⟨rfl, rfl⟩
    | false => exact ts_quiet l.d X.z l.z
  have hli := hS.li
  obtain ⟨d2, hd2⟩ : ∃ d2, tsV l.d l.z l.he = d2 := ⟨_, rfl⟩
  rw [hd2] at hP hli hz
  have hup := hS.up
  have hmay := hi_may hL.hi
  have HSt : ∀ wz, RdHd wz X.h l.d → Calls Try.prog 10 #[.agg (haC l.d X.h).toArray, .int .i64 X.z, .bool l.he] wz fun e w' => ∃ (P1 : Hx) (rs1 qs1 : List Rw) (xa : Option Addr) (xn xc : Nat) (us1 : List Rw), e = .returned (.tuple #[.agg (haC d2 P1).toArray, .slice xa xn xc, .int .i64 0]) ∧ OwHd w' wz.heap.size P1 rs1 qs1 d2 ∧ OwW w' wz.heap.size xa xn xc us1 (N.map frm) ∧ wz.grownBy w' none := fun wz hR => (step2_any X.h l.d X.z l.he wz hR).mono (fun e w' h => by
    obtain ⟨P1, rs1, qs1, xa, xn, xc, us1, e1, e2, e3, _, e5⟩ := h
    have q1 : spV l.d X.z l.he = d2 := by unfold spV; rw [if_pos hmay]; exact hz.1
    have q2 : spR l.d X.z l.he = N.map frm := by unfold spR; rw [if_pos hmay, hz.2]; exact hup
    have q3 : spE l.d = 0 := by unfold spE; rw [if_pos hmay]
    rw [q1, q3] at e1
    rw [q1] at e2
    rw [q2] at e3
    exact ⟨P1, rs1, qs1, xa, xn, xc, us1, e1, e2, e3, e5⟩)
  have HP : Hid _ := hP
  have HLI : Hid _ := hli
  clear hP hz hli hd2 hup hmay hL hS
  refine wp_seq_k fun K0 hK0 => ?_
  have HK0 : Hid _ := hK0
  clear hK0
  have Gd := grown_drew w none
  have hMd := hM.keep Gd
  have SS : BxS w.drew gl 31 (lkA l.d X.h l.x (.slice X.wa X.wn X.wc) (.slice X.oa X.on X.oc) (.slice X.da X.dn X.dc) l.a X.z l.he) := hMd.bx
  refine wp_regionM (fun wz => BxS wz gl 31 (lkA l.d X.h l.x (.slice X.wa X.wn X.wc) (.slice X.oa X.on X.oc) (.slice X.da X.dn X.dc) l.a X.z l.he)) [] #[false, false, false, false, false, false, false, false, false, false, false, false, false, false, false, false, false, false, false, false, false] rfl (by kernel_rfl) ?_
  have hRd := hMd.c.hd.rd
  generalize w.drew = wd at *
  refine wpAnyY_take [] 0 (.pointer (some ⟨gl, 0, none⟩)) rfl (by kernel_rfl) (fun _ _ _ h => h) SS rfl (by intro wz hz; go_simp) ?_
  try simp only [List.getElem_toArray, List.getElem_cons_succ, List.getElem_cons_zero, Act.put, List.setIfInBounds_toArray, List.set_cons_zero, List.set_cons_succ]
  refine wpAnyY_take [] 1 (.pointer (some ⟨gl, 0, none⟩)) rfl (by kernel_rfl) (fun _ _ _ h => h) SS rfl (by intro wz hz; go_simp) ?_
  try simp only [List.getElem_toArray, List.getElem_cons_succ, List.getElem_cons_zero, Act.put, List.setIfInBounds_toArray, List.set_cons_zero, List.set_cons_succ]
  refine wpAnyY_take [] 2 (.pointer (some ⟨gl, 0, none⟩)) rfl (by kernel_rfl) (fun _ _ _ h => h) SS rfl (by intro wz hz; go_simp) ?_
  try simp only [List.getElem_toArray, List.getElem_cons_succ, List.getElem_cons_zero, Act.put, List.setIfInBounds_toArray, List.set_cons_zero, List.set_cons_succ]
  refine wpAnyY_take [] 3 (.agg #[.int .i64 l.d.cr, .int .i64 l.d.nx, .int .i64 l.d.ah, .slice X.h.sa X.h.sn X.h.sc, .slice X.h.qa X.h.qn X.h.qc, .int .i64 l.d.ti, .int .i64 l.d.pa, .int .i64 l.d.tr, .int .i64 l.d.li, .int .i64 l.d.si, .int .i64 l.d.pu, .int .i64 l.d.hl]) rfl (by kernel_rfl) (fun _ _ _ h => h) SS rfl (by intro wz hz; exact ldML rfl rfl (hz.rangeL 0 (haC l.d X.h) rfl) Try.underlying26 rfl Try.info_hn) ?_
  try simp only [List.getElem_toArray, List.getElem_cons_succ, List.getElem_cons_zero, Act.put, List.setIfInBounds_toArray, List.set_cons_zero, List.set_cons_succ]
  refine wpAnyY_take [] 4 (.pointer (some ⟨gl, 0, none⟩)) rfl (by kernel_rfl) (fun _ _ _ h => h) SS rfl (by intro wz hz; go_simp) ?_
  try simp only [List.getElem_toArray, List.getElem_cons_succ, List.getElem_cons_zero, Act.put, List.setIfInBounds_toArray, List.set_cons_zero, List.set_cons_succ]
  refine wpAnyY_take [] 5 (.pointer (some ⟨gl, 0, none⟩)) rfl (by kernel_rfl) (fun _ _ _ h => h) SS rfl (by intro wz hz; go_simp) ?_
  try simp only [List.getElem_toArray, List.getElem_cons_succ, List.getElem_cons_zero, Act.put, List.setIfInBounds_toArray, List.set_cons_zero, List.set_cons_succ]
  refine wpAnyY_take [] 6 (.pointer (some ⟨gl, 23, none⟩)) rfl (by kernel_rfl) (fun _ _ _ h => h) SS rfl (by intro wz hz; go_simp) ?_
  try simp only [List.getElem_toArray, List.getElem_cons_succ, List.getElem_cons_zero, Act.put, List.setIfInBounds_toArray, List.set_cons_zero, List.set_cons_succ]
  refine wpAnyY_take [] 7 (.int .i64 X.z) rfl (by kernel_rfl) (fun _ _ _ h => h) SS rfl (by intro wz hz; have z : wz.cell? ⟨gl, 23, none⟩ = some (.int .i64 X.z) := hz.cell 23 (by show 23 < 25; decide); go_simp) ?_
  try simp only [List.getElem_toArray, List.getElem_cons_succ, List.getElem_cons_zero, Act.put, List.setIfInBounds_toArray, List.set_cons_zero, List.set_cons_succ]
  refine wpAnyY_take [] 8 (.pointer (some ⟨gl, 0, none⟩)) rfl (by kernel_rfl) (fun _ _ _ h => h) SS rfl (by intro wz hz; go_simp) ?_
  try simp only [List.getElem_toArray, List.getElem_cons_succ, List.getElem_cons_zero, Act.put, List.setIfInBounds_toArray, List.set_cons_zero, List.set_cons_succ]
  refine wpAnyY_take [] 9 (.pointer (some ⟨gl, 0, none⟩)) rfl (by kernel_rfl) (fun _ _ _ h => h) SS rfl (by intro wz hz; go_simp) ?_
  try simp only [List.getElem_toArray, List.getElem_cons_succ, List.getElem_cons_zero, Act.put, List.setIfInBounds_toArray, List.set_cons_zero, List.set_cons_succ]
  refine wpAnyY_take [] 10 (.pointer (some ⟨gl, 24, none⟩)) rfl (by kernel_rfl) (fun _ _ _ h => h) SS rfl (by intro wz hz; go_simp) ?_
  try simp only [List.getElem_toArray, List.getElem_cons_succ, List.getElem_cons_zero, Act.put, List.setIfInBounds_toArray, List.set_cons_zero, List.set_cons_succ]
  refine wpAnyY_take [] 11 (.bool l.he) rfl (by kernel_rfl) (fun _ _ _ h => h) SS rfl (by intro wz hz; have z : wz.cell? ⟨gl, 24, none⟩ = some (.bool l.he) := hz.cell 24 (by show 24 < 25; decide); go_simp) ?_
  try simp only [List.getElem_toArray, List.getElem_cons_succ, List.getElem_cons_zero, Act.put, List.setIfInBounds_toArray, List.set_cons_zero, List.set_cons_succ]
  refine wpAnyY_twoB 12 17 rfl rfl (by kernel_rfl) (fun KK hKK => ?_) (fun KK hKK => ?_)
  ·
    go_simp
    go_at_call 10
    refine (HSt wd hRd).mono ?_
    rintro e w6 ⟨P1, rs1, qs1, xa, xn, xc, us1, rfl, hH6, hU6, y3⟩
    dsimp only
    refine hKK _ _ (fun h _ => h.keep y3 (by simp)) ?_
    try simp only [List.getElem_toArray, List.getElem_cons_succ, List.getElem_cons_zero, Act.put, List.setIfInBounds_toArray, List.set_cons_zero, List.set_cons_succ]
    refine wpAnyY_takeF 13 (.tuple #[.agg #[.int .i64 d2.cr, .int .i64 d2.nx, .int .i64 d2.ah, .slice P1.sa P1.sn P1.sc, .slice P1.qa P1.qn P1.qc, .int .i64 d2.ti, .int .i64 d2.pa, .int .i64 d2.tr, .int .i64 d2.li, .int .i64 d2.si, .int .i64 d2.pu, .int .i64 d2.hl], .slice xa xn xc, .int .i64 0]) rfl (by kernel_rfl) (fun _ _ _ h => h) rfl (by intro wz; go_simp; try rfl) ?_
    try simp only [List.getElem_toArray, List.getElem_cons_succ, List.getElem_cons_zero, Act.put, List.setIfInBounds_toArray, List.set_cons_zero, List.set_cons_succ]
    refine wpAnyY_takeF 14 (.agg #[.int .i64 d2.cr, .int .i64 d2.nx, .int .i64 d2.ah, .slice P1.sa P1.sn P1.sc, .slice P1.qa P1.qn P1.qc, .int .i64 d2.ti, .int .i64 d2.pa, .int .i64 d2.tr, .int .i64 d2.li, .int .i64 d2.si, .int .i64 d2.pu, .int .i64 d2.hl]) rfl (by kernel_rfl) (fun _ _ _ h => h) rfl (by intro wz; go_simp; try rfl) ?_
    try simp only [List.getElem_toArray, List.getElem_cons_succ, List.getElem_cons_zero, Act.put, List.setIfInBounds_toArray, List.set_cons_zero, List.set_cons_succ]
    refine wpAnyY_takeF 15 (.slice xa xn xc) rfl (by kernel_rfl) (fun _ _ _ h => h) rfl (by intro wz; go_simp; try rfl) ?_
    try simp only [List.getElem_toArray, List.getElem_cons_succ, List.getElem_cons_zero, Act.put, List.setIfInBounds_toArray, List.set_cons_zero, List.set_cons_succ]
    refine wpAnyY_takeF 16 (.int .i64 0) rfl (by kernel_rfl) (fun _ _ _ h => h) rfl (by intro wz; go_simp; try rfl) ?_
    try simp only [List.getElem_toArray, List.getElem_cons_succ, List.getElem_cons_zero, Act.put, List.setIfInBounds_toArray, List.set_cons_zero, List.set_cons_succ]
    refine wpAnyY_oneB 17 rfl (by kernel_rfl) (fun KK hKK => ?_)
    go_simp
    have b8 := BxS.new w6 26 #[.int .i64 0, .int .i64 0, .int .i64 0, .slice none 0 0, .slice none 0 0, .int .i64 0, .int .i64 0, .int .i64 0, .int .i64 0, .int .i64 0, .int .i64 0, .int .i64 0]
    have G8 := World.grownBy_alloc w6 (.cells #[.int .i64 0, .int .i64 0, .int .i64 0, .slice none 0 0, .slice none 0 0, .int .i64 0, .int .i64 0, .int .i64 0, .int .i64 0, .int .i64 0, .int .i64 0, .int .i64 0] 26) none
    generalize w6.alloc (.cells #[.int .i64 0, .int .i64 0, .int .i64 0, .slice none 0 0, .slice none 0 0, .int .i64 0, .int .i64 0, .int .i64 0, .int .i64 0, .int .i64 0, .int .i64 0, .int .i64 0] 26) = w8 at *
    refine hKK _ _ (fun h _ => h.keep G8 (by simp)) ?_
    try simp only [List.getElem_toArray, List.getElem_cons_succ, List.getElem_cons_zero, Act.put, List.setIfInBounds_toArray, List.set_cons_zero, List.set_cons_succ]
    refine wpAnyY_oneB 18 rfl (by kernel_rfl) (fun KK hKK => ?_)
    refine step_of_listL rfl ?_
    refine wpList_stX _ rfl _ _ _ rfl w6.heap.size _ (haC d2 P1).toArray rfl rfl b8 Try.info_hn rfl (by simp [haC, Value.oneCell']) ?_
    intro w9 b9 u9
    show KK _ w9
    refine hKK _ _ (fun h _ => h.keep u9 (fun e => BxS.apart h b8 (by decide) (Option.some.inj e))) ?_
    try simp only [List.getElem_toArray, List.getElem_cons_succ, List.getElem_cons_zero, Act.put, List.setIfInBounds_toArray, List.set_cons_zero, List.set_cons_succ]
    refine wpAnyY_oneB 19 rfl (by kernel_rfl) (fun KK hKK => ?_)
    go_simp
    refine hKK _ _ (fun h _ => h) ?_
    try simp only [List.getElem_toArray, List.getElem_cons_succ, List.getElem_cons_zero, Act.put, List.setIfInBounds_toArray, List.set_cons_zero, List.set_cons_succ]
    refine wpAnyY_oneB 20 rfl (by kernel_rfl) (fun KK hKK => ?_)
    go_simp
    refine hKK _ _ (fun h _ => h) ?_
    try simp only [List.getElem_toArray, List.getElem_cons_succ, List.getElem_cons_zero, Act.put, List.setIfInBounds_toArray, List.set_cons_zero, List.set_cons_succ]
    refine wpAnyY_doneB (by kernel_rfl) ?_ _
    have Gx := grown_far (grown_trans y3 G8) u9 (fun z e => by cases e; exact y3.size)
    have hHx := ((hH6.keep G8).bxL b8 (by decide) (by decide) u9).wideL Gd.size
    have hUx := ((hU6.keep G8).bxL b8 (by decide) (by decide) u9).wide Gd.size
    refine HK0.out _ _ ?_
    clear HK0
    exact tk_t10 P wB w w9 gl gp _ l X hM (grown_trans Gd Gx) d2 P1 rs1 qs1 xa xn xc us1 N b9 hHx hUx s' _ HLI.out hw ho As Co Lo Ag Fu De hCo hLo hAg (bp.keep (grown_trans Gd Gx) (by simp)) HP.out
  ·
    go_simp
    have b8 := BxS.new wd 26 #[.int .i64 0, .int .i64 0, .int .i64 0, .slice none 0 0, .slice none 0 0, .int .i64 0, .int .i64 0, .int .i64 0, .int .i64 0, .int .i64 0, .int .i64 0, .int .i64 0]
    have G8 := World.grownBy_alloc wd (.cells #[.int .i64 0, .int .i64 0, .int .i64 0, .slice none 0 0, .slice none 0 0, .int .i64 0, .int .i64 0, .int .i64 0, .int .i64 0, .int .i64 0, .int .i64 0, .int .i64 0] 26) none
    generalize wd.alloc (.cells #[.int .i64 0, .int .i64 0, .int .i64 0, .slice none 0 0, .slice none 0 0, .int .i64 0, .int .i64 0, .int .i64 0, .int .i64 0, .int .i64 0, .int .i64 0, .int .i64 0] 26) = w8 at *
    refine hKK _ _ (fun h _ => h.keep G8 (by simp)) ?_
    try simp only [List.getElem_toArray, List.getElem_cons_succ, List.getElem_cons_zero, Act.put, List.setIfInBounds_toArray, List.set_cons_zero, List.set_cons_succ]
    refine wpAnyY_oneB 12 rfl (by kernel_rfl) (fun KK hKK => ?_)
    go_simp
    go_at_call 10
    refine (HSt w8 (hRd.keep G8)).mono ?_
    rintro e w6 ⟨P1, rs1, qs1, xa, xn, xc, us1, rfl, hH6, hU6, y3⟩
    dsimp only
    refine hKK _ _ (fun h _ => h.keep y3 (by simp)) ?_
    try simp only [List.getElem_toArray, List.getElem_cons_succ, List.getElem_cons_zero, Act.put, List.setIfInBounds_toArray, List.set_cons_zero, List.set_cons_succ]
    have b86 := b8.keep y3 (by simp)
    refine wpAnyY_takeF 13 (.tuple #[.agg #[.int .i64 d2.cr, .int .i64 d2.nx, .int .i64 d2.ah, .slice P1.sa P1.sn P1.sc, .slice P1.qa P1.qn P1.qc, .int .i64 d2.ti, .int .i64 d2.pa, .int .i64 d2.tr, .int .i64 d2.li, .int .i64 d2.si, .int .i64 d2.pu, .int .i64 d2.hl], .slice xa xn xc, .int .i64 0]) rfl (by kernel_rfl) (fun _ _ _ h => h) rfl (by intro wz; go_simp; try rfl) ?_
    try simp only [List.getElem_toArray, List.getElem_cons_succ, List.getElem_cons_zero, Act.put, List.setIfInBounds_toArray, List.set_cons_zero, List.set_cons_succ]
    refine wpAnyY_takeF 14 (.agg #[.int .i64 d2.cr, .int .i64 d2.nx, .int .i64 d2.ah, .slice P1.sa P1.sn P1.sc, .slice P1.qa P1.qn P1.qc, .int .i64 d2.ti, .int .i64 d2.pa, .int .i64 d2.tr, .int .i64 d2.li, .int .i64 d2.si, .int .i64 d2.pu, .int .i64 d2.hl]) rfl (by kernel_rfl) (fun _ _ _ h => h) rfl (by intro wz; go_simp; try rfl) ?_
    try simp only [List.getElem_toArray, List.getElem_cons_succ, List.getElem_cons_zero, Act.put, List.setIfInBounds_toArray, List.set_cons_zero, List.set_cons_succ]
    refine wpAnyY_takeF 15 (.slice xa xn xc) rfl (by kernel_rfl) (fun _ _ _ h => h) rfl (by intro wz; go_simp; try rfl) ?_
    try simp only [List.getElem_toArray, List.getElem_cons_succ, List.getElem_cons_zero, Act.put, List.setIfInBounds_toArray, List.set_cons_zero, List.set_cons_succ]
    refine wpAnyY_takeF 16 (.int .i64 0) rfl (by kernel_rfl) (fun _ _ _ h => h) rfl (by intro wz; go_simp; try rfl) ?_
    try simp only [List.getElem_toArray, List.getElem_cons_succ, List.getElem_cons_zero, Act.put, List.setIfInBounds_toArray, List.set_cons_zero, List.set_cons_succ]
    refine wpAnyY_oneB 18 rfl (by kernel_rfl) (fun KK hKK => ?_)
    refine step_of_listL rfl ?_
    refine wpList_stX _ rfl _ _ _ rfl wd.heap.size _ (haC d2 P1).toArray rfl rfl b86 Try.info_hn rfl (by simp [haC, Value.oneCell']) ?_
    intro w9 b9 u9
    show KK _ w9
    refine hKK _ _ (fun h _ => h.keep u9 (fun e => BxS.apart h b86 (by decide) (Option.some.inj e))) ?_
    try simp only [List.getElem_toArray, List.getElem_cons_succ, List.getElem_cons_zero, Act.put, List.setIfInBounds_toArray, List.set_cons_zero, List.set_cons_succ]
    refine wpAnyY_oneB 19 rfl (by kernel_rfl) (fun KK hKK => ?_)
    go_simp
    refine hKK _ _ (fun h _ => h) ?_
    try simp only [List.getElem_toArray, List.getElem_cons_succ, List.getElem_cons_zero, Act.put, List.setIfInBounds_toArray, List.set_cons_zero, List.set_cons_succ]
    refine wpAnyY_oneB 20 rfl (by kernel_rfl) (fun KK hKK => ?_)
    go_simp
    refine hKK _ _ (fun h _ => h) ?_
    try simp only [List.getElem_toArray, List.getElem_cons_succ, List.getElem_cons_zero, Act.put, List.setIfInBounds_toArray, List.set_cons_zero, List.set_cons_succ]
    refine wpAnyY_doneB (by kernel_rfl) ?_ _
    have Gx := grown_far (grown_trans G8 y3) u9 (fun z e => by cases e; exact Nat.le_refl _)
    have hHx := (hH6.bxL b86 (by decide) (by decide) u9).wideL (Nat.le_trans Gd.size G8.size)
    have hUx := (hU6.bxL b86 (by decide) (by decide) u9).wide (Nat.le_trans Gd.size G8.size)
    refine HK0.out _ _ ?_
    clear HK0
    exact tk_t10 P wB w w9 gl gp _ l X hM (grown_trans Gd Gx) d2 P1 rs1 qs1 xa xn xc us1 N b9 hHx hUx s' _ HLI.out hw ho As Co Lo Ag Fu De hCo hLo hAg (bp.keep (grown_trans Gd Gx) (by simp)) HP.out
end
end Go.Proofs.Ytlfacjpehhcdiaa
