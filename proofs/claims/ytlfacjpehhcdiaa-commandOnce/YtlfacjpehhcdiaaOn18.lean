import Derived.Test.YtlfacjpehhcdiaaOn17
namespace Go.Proofs.Ytlfacjpehhcdiaa
open Go.RowKit
set_option maxRecDepth 100000
set_option linter.unusedVariables false
set_option linter.unusedSimpArgs false

section
def pkL (x : Int) (m : Nat) : Nat := ((if x < 0 then -(x + 1) else x) % (m : Int)).toNat
theorem pkL_lt (x : Int) (m : Nat) (h : 0 < m) : pkL x m < m := by
  unfold pkL
  have := Int.emod_lt_of_pos (if x < 0 then -(x + 1) else x) (show (0 : Int) < (m : Int) by omega)
  have := Int.emod_nonneg (if x < 0 then -(x + 1) else x) (show (m : Int) ≠ 0 by omega)
  omega
theorem pickL_any (n : Int) (m : Nat) (w : World) (h1 : -9223372036854775808 ≤ n ∧ n ≤ 9223372036854775807) (ho : 0 < m) (ho2 : m ≤ 9223372036854775807) :
    Calls Try.prog 7 #[.int .i64 n, .int .i64 m] w fun e w' => e = .returned (.int .i64 (pkL n m : Nat)) ∧ w' = w := by
  obtain ⟨h1, h2⟩ := h1
  have hnz : ¬ (m : Int) = 0 := by omega
  by_cases hn : n < 0
  · go_enter Try.func7, Try.ntmps7
    go_wp2
    go_ret
    have p1 := Int.emod_nonneg (-(n + 1)) (show (m : Int) ≠ 0 by omega)
    have e : -((n + 1).tmod m) = (-(n + 1)) % m := by rw [← Int.neg_tmod, Int.tmod_eq_emod_of_nonneg (by omega)]
    refine ⟨?_, rfl⟩
    refine congrArg (fun z => Ending.returned (Value.int .i64 z)) (?_ : -((n + 1).tmod m) = _)
    rw [e]
    unfold pkL
    rw [if_pos hn]
    omega
  · go_enter Try.func7, Try.ntmps7
    go_wp2
    go_ret
    have p1 := Int.emod_nonneg n (show (m : Int) ≠ 0 by omega)
    refine ⟨?_, rfl⟩
    refine congrArg (fun z => Ending.returned (Value.int .i64 z)) (?_ : n % m = _)
    unfold pkL
    rw [if_neg (by omega)]
    omega
theorem rd_oneL (w : World) (k : Nat) (hk : k < 256) : Rd (w.alloc (.cells #[.int .u8 (k : Int)] 5)) (some ⟨w.heap.size, 0, none⟩) 1 1 [k] := by
  have hB : Blk (w.alloc (.cells #[.int .u8 ((k : Nat) : Int)] 5)) w.heap.size [k] := heap_alloc_new w _
  exact hB.rd (by intro x hx; simp at hx; omega) rfl (by decide)
set_option maxHeartbeats 16000000 in
theorem tk_t5 {u1 u2 u3 u4 u5 u8 u9 u10 u11 u12 u13 u14 u15 u16 u17 u18 u19 u20 u21 u22 u23 u24 u25 u26 u27 u28 u29 u30 u31 u32 u33 u34 u35 u36 u37 u38 u39 u40 u41 u42 u43 u44 u45 u46 u47 u48 u49 u50 u51 u52 u53 u54 u55 u56 u57 u58 u59 u60 u61 u62 u63 u64 u65 u66 u67 u68 u69 u70 u71 u72 u73 u74 u75 u76 u77 u78 u79 u80 u81 u82 u83 u84 u85 u86 u87 u88 u89 u90 u91 u92 u93 u94 u95 u96 u97 u98 u99 u100 u101 u102 u103 u104 u105 u106 u107 u108 u109 u110 u111 u112 u113 u114 u115 u116 u117 u118 u119 u120 u121 u122 u123 u124 u125 u126 u127 u128 u129 u130 u131 u132 u133 u134 u135 u136 u137 u138 u139 u140 u141 u142 u143 u144 u145 u146 u147 u148 u149 u150 u151 u152 u153 u154 u155 u156 u157 u158 u159 u160 u161 u162 u163 u164 u165 u166 u167 u168 u169 u170 u171 u172 u173 u174 u175 u176 u177 u178 u179 u180 u181 u182 u183 u184 u185 u186 u187 u188 u189 u190 u191 u192 u193 u194 u195 : Value} (Q : Exit → Act → World → Prop) (wB w0 w : World) (gl g6 : Nat) (l : Lk) (X : Lx) (hM : LM wB w0 gl l X) (G0 : w0.grownBy w none) (d2 : Hd) (P1 : Hx) (rs1 qs1 : List Rw) (b6 : BxS w g6 26 (haC d2 P1).toArray) (hH : OwHd w w0.heap.size P1 rs1 qs1 d2) (ha : l.a < 100)
    (hQ : ∀ v43 v44 v45 v46 v47 v48 v49 v50 v51 v52 v53 v54 v55 v56 v57 w' X', LM wB w' gl { l with d := d2, a := l.a + 1 } X' → KpP w w' → Q .normal (Act.mk (List.toArray ((.pointer (some ⟨gl, 0, none⟩)) :: u1 :: u2 :: u3 :: u4 :: u5 :: (.pointer (some ⟨g6, 0, none⟩)) :: (.int .i64 0) :: u8 :: u9 :: u10 :: u11 :: u12 :: u13 :: u14 :: u15 :: u16 :: u17 :: u18 :: u19 :: u20 :: u21 :: u22 :: u23 :: u24 :: u25 :: u26 :: u27 :: u28 :: u29 :: u30 :: u31 :: u32 :: u33 :: u34 :: u35 :: u36 :: u37 :: u38 :: u39 :: u40 :: u41 :: u42 :: v43 :: v44 :: v45 :: v46 :: v47 :: v48 :: v49 :: v50 :: v51 :: v52 :: v53 :: v54 :: v55 :: v56 :: v57 :: u58 :: u59 :: u60 :: u61 :: u62 :: u63 :: u64 :: u65 :: u66 :: u67 :: u68 :: u69 :: u70 :: u71 :: u72 :: u73 :: u74 :: u75 :: u76 :: u77 :: u78 :: u79 :: u80 :: u81 :: u82 :: u83 :: u84 :: u85 :: u86 :: u87 :: u88 :: u89 :: u90 :: u91 :: u92 :: u93 :: u94 :: u95 :: u96 :: u97 :: u98 :: u99 :: u100 :: u101 :: u102 :: u103 :: u104 :: u105 :: u106 :: u107 :: u108 :: u109 :: u110 :: u111 :: u112 :: u113 :: u114 :: u115 :: u116 :: u117 :: u118 :: u119 :: u120 :: u121 :: u122 :: u123 :: u124 :: u125 :: u126 :: u127 :: u128 :: u129 :: u130 :: u131 :: u132 :: u133 :: u134 :: u135 :: u136 :: u137 :: u138 :: u139 :: u140 :: u141 :: u142 :: u143 :: u144 :: u145 :: u146 :: u147 :: u148 :: u149 :: u150 :: u151 :: u152 :: u153 :: u154 :: u155 :: u156 :: u157 :: u158 :: u159 :: u160 :: u161 :: u162 :: u163 :: u164 :: u165 :: u166 :: u167 :: u168 :: u169 :: u170 :: u171 :: u172 :: u173 :: u174 :: u175 :: u176 :: u177 :: u178 :: u179 :: u180 :: u181 :: u182 :: u183 :: u184 :: u185 :: u186 :: u187 :: u188 :: u189 :: u190 :: u191 :: u192 :: u193 :: u194 :: u195 :: [])) []) w') :
    Code.wp Try.prog (tailR 5 (Try.f5.body.getD .skip)) Q (Act.mk (List.toArray ((.pointer (some ⟨gl, 0, none⟩)) :: u1 :: u2 :: u3 :: u4 :: u5 :: (.pointer (some ⟨g6, 0, none⟩)) :: (.int .i64 0) :: u8 :: u9 :: u10 :: u11 :: u12 :: u13 :: u14 :: u15 :: u16 :: u17 :: u18 :: u19 :: u20 :: u21 :: u22 :: u23 :: u24 :: u25 :: u26 :: u27 :: u28 :: u29 :: u30 :: u31 :: u32 :: u33 :: u34 :: u35 :: u36 :: u37 :: u38 :: u39 :: u40 :: u41 :: u42 :: u43 :: u44 :: u45 :: u46 :: u47 :: u48 :: u49 :: u50 :: u51 :: u52 :: u53 :: u54 :: u55 :: u56 :: u57 :: u58 :: u59 :: u60 :: u61 :: u62 :: u63 :: u64 :: u65 :: u66 :: u67 :: u68 :: u69 :: u70 :: u71 :: u72 :: u73 :: u74 :: u75 :: u76 :: u77 :: u78 :: u79 :: u80 :: u81 :: u82 :: u83 :: u84 :: u85 :: u86 :: u87 :: u88 :: u89 :: u90 :: u91 :: u92 :: u93 :: u94 :: u95 :: u96 :: u97 :: u98 :: u99 :: u100 :: u101 :: u102 :: u103 :: u104 :: u105 :: u106 :: u107 :: u108 :: u109 :: u110 :: u111 :: u112 :: u113 :: u114 :: u115 :: u116 :: u117 :: u118 :: u119 :: u120 :: u121 :: u122 :: u123 :: u124 :: u125 :: u126 :: u127 :: u128 :: u129 :: u130 :: u131 :: u132 :: u133 :: u134 :: u135 :: u136 :: u137 :: u138 :: u139 :: u140 :: u141 :: u142 :: u143 :: u144 :: u145 :: u146 :: u147 :: u148 :: u149 :: u150 :: u151 :: u152 :: u153 :: u154 :: u155 :: u156 :: u157 :: u158 :: u159 :: u160 :: u161 :: u162 :: u163 :: u164 :: u165 :: u166 :: u167 :: u168 :: u169 :: u170 :: u171 :: u172 :: u173 :: u174 :: u175 :: u176 :: u177 :: u178 :: u179 :: u180 :: u181 :: u182 :: u183 :: u184 :: u185 :: u186 :: u187 :: u188 :: u189 :: u190 :: u191 :: u192 :: u193 :: u194 :: u195 :: [])) []) w := by
  conv => enter [2]; whnf
  have HQ : Hid _ := hQ
  clear hQ
  have bM := hM.bx.keep G0 (by simp)
  have hC := hM.c.hand G0 hH (l.a + 1)
  have ha2 : (l.a : Int) < 100 := by omega
  refine wp_seq_k fun K0 hK0 => ?_
  have HK0 : Hid _ := hK0
  clear hK0
  go_wp2
  refine HK0.out _ _ ?_
  clear HK0
  refine wp_seq_k fun K1 hK1 => ?_
  have HK1 : Hid _ := hK1
  clear hK1
  have s1 : True := trivial
  go_wp2_with (first
    | (have _t := s1; clear s1; refine wpList_ldX _ rfl _ (.tmp 6) rfl g6 _ rfl b6 Try.underlying26 Try.info_hn ?_; have s2 : True := trivial)
    | (have _t := s2; clear s2; refine wpList_stPL rfl _ (.tmp 50) (.tmp 48) rfl gl 0 31 _ (lkA d2 P1 l.x (.slice X.wa X.wn X.wc) (.slice X.oa X.on X.oc) (.slice X.da X.dn X.dc) l.a X.z l.he) (haC d2 P1).toArray rfl rfl bM Try.info_hn (by show 0 + 12 ≤ 25; decide) (by simp [haC, Value.oneCell']) (setA_ha _ _ _ _ _ _ _ _ _ _ _) ?_; intro w4 b4 u4))
  refine HK1.out _ _ ?_
  clear HK1
  have c22 : w4.cell? ⟨gl, 22, none⟩ = some (.int .i64 (l.a : Int)) := b4.cell 22 (by show 22 < 25; decide)
  have kp4 := KpP.box bM (by decide) u4
  have s1 : True := trivial
  go_wp2_with (have _t := s1; clear s1; refine wpList_stC _ rfl _ (.tmp 57) (.tmp 55) rfl gl 22 31 _ (lkA d2 P1 l.x (.slice X.wa X.wn X.wc) (.slice X.oa X.on X.oc) (.slice X.da X.dn X.dc) (l.a + 1) X.z l.he) (.int .i64 ((l.a + 1 : Nat) : Int)) rfl rfl b4 (stc_int _ _ _) (by show 22 < 25; decide) rfl ?_; intro w5 b5 u5)
  exact HQ.out _ _ _ _ _ _ _ _ _ _ _ _ _ _ _ w5 _ ((hC.box b4 u4).st b5 u5) (kp4.trans (KpP.box b4 (by decide) u5))
set_option maxHeartbeats 32000000 in
/-- A TICK OF A LINK -/
theorem tick_lk (wB w : World) (gl : Nat) (l : Lk) (X0 : Lx) (hM0 : LM wB w gl l X0) (s f : Nat) (hL0 : LI l s f) (hw : l.way.length ≤ 90000) (ho : l.old.length ≤ 800000) (As Co Lo Ag : Int) (Fu De : Bool) (hAs : -9223372036854775808 ≤ As ∧ As ≤ 9223372036854775807) (hCo : -9223372036854775808 ≤ Co ∧ Co ≤ 9223372036854775807) (hLo : -9223372036854775808 ≤ Lo ∧ Lo ≤ 9223372036854775807) (hAg : -9223372036854775808 ≤ Ag ∧ Ag ≤ 9223372036854775807) :
    Calls Try.prog 5 #[.pointer (some ⟨gl, 0, none⟩), .agg #[.int .i64 As, .int .i64 Co, .int .i64 Lo, .bool Fu, .bool De, .int .i64 Ag]] w fun e w' => e = .returned (.bool true) ∧ ∃ l' X', LM wB w' gl l' X' ∧ (∃ s f, LI l' s f) ∧ l'.way.length ≤ l.way.length + 80 ∧ l'.old.length ≤ l.old.length + 80 ∧ (As = 0 → Co = 1000 → Lo = 0 → Fu = false → De = false → Ag < 0 → ∃ s f s' N, LI l s f ∧ LS l s f s' N ∧ l' = l.qk N) := by
  have hm5 := pkL_lt As 5 (by decide)
  have HPk : ∀ wz, Calls Try.prog 7 #[.int .i64 As, .int .i64 5] wz fun e w' => e = .returned (.int .i64 (pkL As 5 : Nat)) ∧ w' = wz := fun wz => pickL_any As 5 wz hAs (by decide) (by decide)
  have HM0 : Hid (As = 0 → pkL As 5 = 0) := fun e => by subst e; rfl
  generalize pkL As 5 = m at *
  have HW : Hid _ := hw
  have HO : Hid _ := ho
  clear hw ho
  have bp := BxS.new w 36 #[.int .i64 As, .int .i64 Co, .int .i64 Lo, .bool Fu, .bool De, .int .i64 Ag]
  have Gp := World.grownBy_alloc w (.cells #[.int .i64 As, .int .i64 Co, .int .i64 Lo, .bool Fu, .bool De, .int .i64 Ag] 36) none
  have hM1 := hM0.keep Gp
  go_enter Try.func5, Try.ntmps5
  refine wp_seq_k fun K0 hK0 => ?_
  have HK0 : Hid _ := hK0
  clear hK0
  go_wp2
  refine HK0.out _ _ ?_
  clear HK0
  generalize w.alloc (.cells #[.int .i64 As, .int .i64 Co, .int .i64 Lo, .bool Fu, .bool De, .int .i64 Ag] 36) = w1 at *
  obtain ⟨gp, hgp⟩ : ∃ g, w.heap.size = g := ⟨_, rfl⟩
  rw [hgp] at bp ⊢
  clear hgp Gp
  refine wp_seq_k fun K1 hK1 => ?_
  have HK1 : Hid _ := hK1
  clear hK1
  go_wp2
  go_loopw [5, 6, 7] (fun v5 v6 v7 wr => ∃ (i : Nat) (d1 : Hd) (a1 : Nat) (X : Lx), i ≤ m ∧ v5 = .int .i64 i ∧ LM wB wr gl { l with d := d1, a := a1 } X ∧ LI { l with d := d1, a := a1 } s f ∧ Hid (As = 0 → d1 = l.d ∧ a1 = l.a) ∧ BxS wr gp 36 #[.int .i64 As, .int .i64 Co, .int .i64 Lo, .bool Fu, .bool De, .int .i64 Ag]) (fun v5 v6 v7 _ => m - (intOf v5).toNat)
  case atStart => exact ⟨0, l.d, l.a, X0, Nat.zero_le _, rfl, hM1, hL0, fun _ => ⟨rfl, rfl⟩, bp⟩
  case round =>
    obtain ⟨i, d1, a1, X, hi, rfl, hM, hL, HQ, bpr⟩ := hrel
    have c0 : wr.cell? ⟨gp, 0, none⟩ = some (.int .i64 As) := bpr.cell 0 (by show 0 < 6; decide)
    have c22 : wr.cell? ⟨gl, 22, none⟩ = some (.int .i64 (a1 : Int)) := hM.bx.cell 22 (by show 22 < 25; decide)
    have fin : ∀ {u1 u2 u4 u5 u6 u7 u8 u9 u10 u11 u12 u13 u14 u15 u16 u17 u18 u19 u20 u21 u22 u23 u24 u25 u26 u27 u28 u29 u30 u31 u32 u33 u34 u35 u36 u37 u38 u39 u40 u41 u42 u43 u44 u45 u46 u47 u48 u49 u50 u51 u52 u53 u54 u55 u56 u57 u58 u59 u60 u61 u62 u63 u64 u65 u66 u67 u68 u69 u70 u71 u72 u73 u74 u75 u76 u77 u78 u79 u80 u81 u82 u83 u84 u85 u86 u87 u88 u89 u90 u91 u92 u93 u94 u95 u96 u97 u98 u99 u100 u101 u102 u103 u104 u105 u106 u107 u108 u109 u110 u111 u112 u113 u114 u115 u116 u117 u118 u119 u120 u121 u122 u123 u124 u125 u126 u127 u128 u129 u130 u131 u132 u133 u134 u135 u136 u137 u138 u139 u140 u141 u142 u143 u144 u145 u146 u147 u148 u149 u150 u151 u152 u153 u154 u155 u156 u157 u158 u159 u160 u161 u162 u163 u164 u165 u166 u167 u168 u169 u170 u171 u172 u173 u174 u175 u176 u177 u178 u179 u180 u181 u182 u183 u184 u185 u186 u187 u188 u189 u190 u191 u192 u193 u194 u195 : Value}, Code.wp Try.prog (tailR 9 (Try.f5.body.getD .skip)) (bodyPost Try.prog Try.f5 fun e w' => e = .returned (.bool true) ∧ ∃ l' X', LM wB w' gl l' X' ∧ (∃ s f, LI l' s f) ∧ l'.way.length ≤ l.way.length + 80 ∧ l'.old.length ≤ l.old.length + 80 ∧ (As = 0 → Co = 1000 → Lo = 0 → Fu = false → De = false → Ag < 0 → ∃ s f s' N, LI l s f ∧ LS l s f s' N ∧ l' = l.qk N)) (Act.mk (List.toArray ((.pointer (some ⟨gl, 0, none⟩)) :: u1 :: u2 :: (.pointer (some ⟨gp, 0, none⟩)) :: u4 :: u5 :: u6 :: u7 :: u8 :: u9 :: u10 :: u11 :: u12 :: u13 :: u14 :: u15 :: u16 :: u17 :: u18 :: u19 :: u20 :: u21 :: u22 :: u23 :: u24 :: u25 :: u26 :: u27 :: u28 :: u29 :: u30 :: u31 :: u32 :: u33 :: u34 :: u35 :: u36 :: u37 :: u38 :: u39 :: u40 :: u41 :: u42 :: u43 :: u44 :: u45 :: u46 :: u47 :: u48 :: u49 :: u50 :: u51 :: u52 :: u53 :: u54 :: u55 :: u56 :: u57 :: u58 :: u59 :: u60 :: u61 :: u62 :: u63 :: u64 :: u65 :: u66 :: u67 :: u68 :: u69 :: u70 :: u71 :: u72 :: u73 :: u74 :: u75 :: u76 :: u77 :: u78 :: u79 :: u80 :: u81 :: u82 :: u83 :: u84 :: u85 :: u86 :: u87 :: u88 :: u89 :: u90 :: u91 :: u92 :: u93 :: u94 :: u95 :: u96 :: u97 :: u98 :: u99 :: u100 :: u101 :: u102 :: u103 :: u104 :: u105 :: u106 :: u107 :: u108 :: u109 :: u110 :: u111 :: u112 :: u113 :: u114 :: u115 :: u116 :: u117 :: u118 :: u119 :: u120 :: u121 :: u122 :: u123 :: u124 :: u125 :: u126 :: u127 :: u128 :: u129 :: u130 :: u131 :: u132 :: u133 :: u134 :: u135 :: u136 :: u137 :: u138 :: u139 :: u140 :: u141 :: u142 :: u143 :: u144 :: u145 :: u146 :: u147 :: u148 :: u149 :: u150 :: u151 :: u152 :: u153 :: u154 :: u155 :: u156 :: u157 :: u158 :: u159 :: u160 :: u161 :: u162 :: u163 :: u164 :: u165 :: u166 :: u167 :: u168 :: u169 :: u170 :: u171 :: u172 :: u173 :: u174 :: u175 :: u176 :: u177 :: u178 :: u179 :: u180 :: u181 :: u182 :: u183 :: u184 :: u185 :: u186 :: u187 :: u188 :: u189 :: u190 :: u191 :: u192 :: u193 :: u194 :: u195 :: [])) []) wr := by
      intro u1 u2 u4 u5 u6 u7 u8 u9 u10 u11 u12 u13 u14 u15 u16 u17 u18 u19 u20 u21 u22 u23 u24 u25 u26 u27 u28 u29 u30 u31 u32 u33 u34 u35 u36 u37 u38 u39 u40 u41 u42 u43 u44 u45 u46 u47 u48 u49 u50 u51 u52 u53 u54 u55 u56 u57 u58 u59 u60 u61 u62 u63 u64 u65 u66 u67 u68 u69 u70 u71 u72 u73 u74 u75 u76 u77 u78 u79 u80 u81 u82 u83 u84 u85 u86 u87 u88 u89 u90 u91 u92 u93 u94 u95 u96 u97 u98 u99 u100 u101 u102 u103 u104 u105 u106 u107 u108 u109 u110 u111 u112 u113 u114 u115 u116 u117 u118 u119 u120 u121 u122 u123 u124 u125 u126 u127 u128 u129 u130 u131 u132 u133 u134 u135 u136 u137 u138 u139 u140 u141 u142 u143 u144 u145 u146 u147 u148 u149 u150 u151 u152 u153 u154 u155 u156 u157 u158 u159 u160 u161 u162 u163 u164 u165 u166 u167 u168 u169 u170 u171 u172 u173 u174 u175 u176 u177 u178 u179 u180 u181 u182 u183 u184 u185 u186 u187 u188 u189 u190 u191 u192 u193 u194 u195
      obtain ⟨s', N, hS⟩ := li_step hL
      have hn := hS.n
      have h1 := HW.out
      have h2 := HO.out
      refine tk_t9 _ wB wr gl gp _ X hM s f s' N hL hS (by show l.way.length + N.length ≤ 100000; omega) (by show l.old.length + N.length ≤ 900000; omega) As Co Lo Ag Fu De hCo hLo hAg bpr ?_
      intro w' X' x k1 k2 k3
      refine ⟨rfl, _, X', k1, ⟨_, _, k2⟩, ?_, ?_, ?_⟩
      · show ((l.way ++ N).drop _).length ≤ _
        rw [List.length_drop, List.length_append]
        omega
      · show (l.old ++ N).length ≤ _
        rw [List.length_append]
        omega
      · intro e1 e2 e3 e4 e5 e6
        obtain ⟨q1, q2⟩ := HQ.out e1
        subst q1 q2
        refine ⟨s, f, s', N, hL, hS, ?_⟩
        rw [k3 e6 e3 e4, e2, e5]
        rfl
    by_cases h1 : i < m
    · have l1 : (i : Int) < (m : Int) := by omega
      by_cases hlt : a1 < 100
      · have l2 : (a1 : Int) < 100 := by omega
        obtain ⟨hax, hli⟩ := li_ask hL hlt
        have hmay := hi_may hL.hi
        obtain ⟨d2, hd2⟩ : ∃ d2, axV d1 [a1] = d2 := ⟨_, rfl⟩
        have hli : LI { l with d := axV d1 [a1], a := a1 + 1 } s f := hli
        rw [hd2] at hli
        have HLI : Hid _ := hli
        have HAsk : ∀ wz ad n c, RdHd wz X.h d1 → Rd wz ad n c [a1] → Calls Try.prog 9 #[.agg (haC d1 X.h).toArray, .slice ad n c] wz fun e w' => ∃ (P1 : Hx) (rs1 qs1 : List Rw), e = .returned (.tuple #[.agg (haC d2 P1).toArray, .int .i64 0]) ∧ OwHd w' wz.heap.size P1 rs1 qs1 d2 ∧ wz.grownBy w' none := fun wz ad n c hR hb => (ask2_any X.h d1 ad n c [a1] wz hR hb).mono (fun e w' h => by
          obtain ⟨P1, rs1, qs1, e1, e2, e3⟩ := h
          have q1 : asV d1 [a1] = d2 := by unfold asV; rw [if_pos hmay]; exact hd2
          have q2 : asE d1 [a1] = 0 := by unfold asE; rw [if_pos hmay]; exact hax
          rw [q1, q2] at e1
          rw [q1] at e2
          exact ⟨P1, rs1, qs1, e1, e2, e3⟩)
        have bM := hM.bx
        clear hli hax hmay hd2 hL fin HQ
        refine wp_seq_k fun K3 hK3 => ?_
        have HK3 : Hid _ := hK3
        clear hK3
        go_wp2_with (go_at_call 7; refine (HPk _).mono ?_; rintro e wx ⟨rfl, hwx⟩; rw [hwx]; clear hwx)
        refine HK3.out _ _ ?_
        clear HK3
        refine wp_seq_k fun K2 hK2 => ?_
        have HK2 : Hid _ := hK2
        clear hK2
        refine wp_block ?_
        refine wp_seq_k fun K4 hK4 => ?_
        have HK4 : Hid _ := hK4
        clear hK4
        have Gd := grown_drew wr none
        have hMd := hM.keep Gd
        have SS : BxS wr.drew gl 31 (lkA d1 X.h l.x (.slice X.wa X.wn X.wc) (.slice X.oa X.on X.oc) (.slice X.da X.dn X.dc) a1 X.z l.he) := hMd.bx
        refine wp_regionM (fun wz => BxS wz gl 31 (lkA d1 X.h l.x (.slice X.wa X.wn X.wc) (.slice X.oa X.on X.oc) (.slice X.da X.dn X.dc) a1 X.z l.he)) [] #[false, false, false, false, false, false, false, false, false, false, false, false, false, false, false, false, false] rfl (by kernel_rfl) ?_
        have hRd := hMd.c.hd.rd
        generalize wr.drew = wd at *
        refine wpAnyY_take [] 0 (.pointer (some ⟨gl, 0, none⟩)) rfl (by kernel_rfl) (fun _ _ _ h => h) SS rfl (by intro wz hz; go_simp) ?_
        try simp only [List.getElem_toArray, List.getElem_cons_succ, List.getElem_cons_zero, Act.put, List.setIfInBounds_toArray, List.set_cons_zero, List.set_cons_succ]
        refine wpAnyY_take [] 1 (.pointer (some ⟨gl, 0, none⟩)) rfl (by kernel_rfl) (fun _ _ _ h => h) SS rfl (by intro wz hz; go_simp) ?_
        try simp only [List.getElem_toArray, List.getElem_cons_succ, List.getElem_cons_zero, Act.put, List.setIfInBounds_toArray, List.set_cons_zero, List.set_cons_succ]
        refine wpAnyY_take [] 2 (.pointer (some ⟨gl, 0, none⟩)) rfl (by kernel_rfl) (fun _ _ _ h => h) SS rfl (by intro wz hz; go_simp) ?_
        try simp only [List.getElem_toArray, List.getElem_cons_succ, List.getElem_cons_zero, Act.put, List.setIfInBounds_toArray, List.set_cons_zero, List.set_cons_succ]
        refine wpAnyY_take [] 3 (.agg #[.int .i64 d1.cr, .int .i64 d1.nx, .int .i64 d1.ah, .slice X.h.sa X.h.sn X.h.sc, .slice X.h.qa X.h.qn X.h.qc, .int .i64 d1.ti, .int .i64 d1.pa, .int .i64 d1.tr, .int .i64 d1.li, .int .i64 d1.si, .int .i64 d1.pu, .int .i64 d1.hl]) rfl (by kernel_rfl) (fun _ _ _ h => h) SS rfl (by intro wz hz; exact ldML rfl rfl (hz.rangeL 0 (haC d1 X.h) rfl) Try.underlying26 rfl Try.info_hn) ?_
        try simp only [List.getElem_toArray, List.getElem_cons_succ, List.getElem_cons_zero, Act.put, List.setIfInBounds_toArray, List.set_cons_zero, List.set_cons_succ]
        refine wpAnyY_take [] 4 (.pointer (some ⟨gl, 0, none⟩)) rfl (by kernel_rfl) (fun _ _ _ h => h) SS rfl (by intro wz hz; go_simp) ?_
        try simp only [List.getElem_toArray, List.getElem_cons_succ, List.getElem_cons_zero, Act.put, List.setIfInBounds_toArray, List.set_cons_zero, List.set_cons_succ]
        refine wpAnyY_take [] 5 (.pointer (some ⟨gl, 0, none⟩)) rfl (by kernel_rfl) (fun _ _ _ h => h) SS rfl (by intro wz hz; go_simp) ?_
        try simp only [List.getElem_toArray, List.getElem_cons_succ, List.getElem_cons_zero, Act.put, List.setIfInBounds_toArray, List.set_cons_zero, List.set_cons_succ]
        refine wpAnyY_take [] 6 (.pointer (some ⟨gl, 22, none⟩)) rfl (by kernel_rfl) (fun _ _ _ h => h) SS rfl (by intro wz hz; go_simp) ?_
        try simp only [List.getElem_toArray, List.getElem_cons_succ, List.getElem_cons_zero, Act.put, List.setIfInBounds_toArray, List.set_cons_zero, List.set_cons_succ]
        refine wpAnyY_take [] 7 (.int .i64 (a1 : Int)) rfl (by kernel_rfl) (fun _ _ _ h => h) SS rfl (by intro wz hz; have z : wz.cell? ⟨gl, 22, none⟩ = some (.int .i64 (a1 : Int)) := hz.cell 22 (by show 22 < 25; decide); go_simp) ?_
        try simp only [List.getElem_toArray, List.getElem_cons_succ, List.getElem_cons_zero, Act.put, List.setIfInBounds_toArray, List.set_cons_zero, List.set_cons_succ]
        refine wpAnyY_take [] 8 (.int .u8 (a1 : Int)) rfl (by kernel_rfl) (fun _ _ _ h => h) SS rfl (by intro wz hz; go_simp; rw [IntKind.wrap_u8']; omega) ?_
        try simp only [List.getElem_toArray, List.getElem_cons_succ, List.getElem_cons_zero, Act.put, List.setIfInBounds_toArray, List.set_cons_zero, List.set_cons_succ]
        refine wpAnyY_twoB 9 14 rfl rfl (by kernel_rfl) (fun KK hKK => ?_) (fun KK hKK => ?_)
        ·
          go_simp
          have Gb := World.grownBy_alloc wd (.cells #[.int .u8 (a1 : Int)] 5) none
          have hRb := rd_oneL wd a1 (by omega)
          generalize hwb : wd.alloc (.cells #[.int .u8 (a1 : Int)] 5) = wb at *
          refine hKK _ _ (fun h _ => h.keep Gb (by simp)) ?_
          try simp only [List.getElem_toArray, List.getElem_cons_succ, List.getElem_cons_zero, Act.put, List.setIfInBounds_toArray, List.set_cons_zero, List.set_cons_succ]
          refine wpAnyY_twoB 10 14 rfl rfl (by kernel_rfl) (fun KK hKK => ?_) (fun KK hKK => ?_)
          ·
            go_simp
            go_at_call 9
            refine (HAsk wb _ 1 1 (hRd.keep Gb) hRb).mono ?_
            rintro e w6 ⟨P1, rs1, qs1, rfl, hH6, y3⟩
            dsimp only
            refine hKK _ _ (fun h _ => h.keep y3 (by simp)) ?_
            try simp only [List.getElem_toArray, List.getElem_cons_succ, List.getElem_cons_zero, Act.put, List.setIfInBounds_toArray, List.set_cons_zero, List.set_cons_succ]
            refine wpAnyY_takeF 11 (.tuple #[.agg #[.int .i64 d2.cr, .int .i64 d2.nx, .int .i64 d2.ah, .slice P1.sa P1.sn P1.sc, .slice P1.qa P1.qn P1.qc, .int .i64 d2.ti, .int .i64 d2.pa, .int .i64 d2.tr, .int .i64 d2.li, .int .i64 d2.si, .int .i64 d2.pu, .int .i64 d2.hl], .int .i64 0]) rfl (by kernel_rfl) (fun _ _ _ h => h) rfl (by intro wz; go_simp; try rfl) ?_
            try simp only [List.getElem_toArray, List.getElem_cons_succ, List.getElem_cons_zero, Act.put, List.setIfInBounds_toArray, List.set_cons_zero, List.set_cons_succ]
            refine wpAnyY_takeF 12 (.agg #[.int .i64 d2.cr, .int .i64 d2.nx, .int .i64 d2.ah, .slice P1.sa P1.sn P1.sc, .slice P1.qa P1.qn P1.qc, .int .i64 d2.ti, .int .i64 d2.pa, .int .i64 d2.tr, .int .i64 d2.li, .int .i64 d2.si, .int .i64 d2.pu, .int .i64 d2.hl]) rfl (by kernel_rfl) (fun _ _ _ h => h) rfl (by intro wz; go_simp; try rfl) ?_
            try simp only [List.getElem_toArray, List.getElem_cons_succ, List.getElem_cons_zero, Act.put, List.setIfInBounds_toArray, List.set_cons_zero, List.set_cons_succ]
            refine wpAnyY_takeF 13 (.int .i64 0) rfl (by kernel_rfl) (fun _ _ _ h => h) rfl (by intro wz; go_simp; try rfl) ?_
            try simp only [List.getElem_toArray, List.getElem_cons_succ, List.getElem_cons_zero, Act.put, List.setIfInBounds_toArray, List.set_cons_zero, List.set_cons_succ]
            refine wpAnyY_oneB 14 rfl (by kernel_rfl) (fun KK hKK => ?_)
            go_simp
            have b8 := BxS.new w6 26 #[.int .i64 0, .int .i64 0, .int .i64 0, .slice none 0 0, .slice none 0 0, .int .i64 0, .int .i64 0, .int .i64 0, .int .i64 0, .int .i64 0, .int .i64 0, .int .i64 0]
            have G8 := World.grownBy_alloc w6 (.cells #[.int .i64 0, .int .i64 0, .int .i64 0, .slice none 0 0, .slice none 0 0, .int .i64 0, .int .i64 0, .int .i64 0, .int .i64 0, .int .i64 0, .int .i64 0, .int .i64 0] 26) none
            generalize hwa : w6.alloc (.cells #[.int .i64 0, .int .i64 0, .int .i64 0, .slice none 0 0, .slice none 0 0, .int .i64 0, .int .i64 0, .int .i64 0, .int .i64 0, .int .i64 0, .int .i64 0, .int .i64 0] 26) = w8 at *
            refine hKK _ _ (fun h _ => h.keep G8 (by simp)) ?_
            try simp only [List.getElem_toArray, List.getElem_cons_succ, List.getElem_cons_zero, Act.put, List.setIfInBounds_toArray, List.set_cons_zero, List.set_cons_succ]
            refine wpAnyY_oneB 15 rfl (by kernel_rfl) (fun KK hKK => ?_)
            refine step_of_listL rfl ?_
            refine wpList_stX _ rfl _ _ _ rfl w6.heap.size _ (haC d2 P1).toArray rfl rfl b8 Try.info_hn rfl (by simp [haC, Value.oneCell']) ?_
            intro w9 b9 u9
            show KK _ w9
            refine hKK _ _ (fun h _ => h.keep u9 (fun e => BxS.apart h b8 (by decide) (Option.some.inj e))) ?_
            try simp only [List.getElem_toArray, List.getElem_cons_succ, List.getElem_cons_zero, Act.put, List.setIfInBounds_toArray, List.set_cons_zero, List.set_cons_succ]
            refine wpAnyY_oneB 16 rfl (by kernel_rfl) (fun KK hKK => ?_)
            go_simp
            refine hKK _ _ (fun h _ => h) ?_
            try simp only [List.getElem_toArray, List.getElem_cons_succ, List.getElem_cons_zero, Act.put, List.setIfInBounds_toArray, List.set_cons_zero, List.set_cons_succ]
            refine wpAnyY_doneB (by kernel_rfl) ?_ _
            have Gx : wr.grownBy w9 none := grown_far (grown_trans (grown_trans (grown_trans Gd Gb) y3) G8) u9 (fun z e => by cases e; exact Nat.le_trans (Nat.le_trans Gd.size Gb.size) y3.size)
            have hHx := ((hH6.keep G8).bxL b8 (by decide) (by decide) u9).wideL (Nat.le_trans Gd.size Gb.size)
            refine HK4.out _ _ ?_
            clear HK4
            refine tk_t5 _ wB wr w9 gl _ _ X hM Gx d2 P1 rs1 qs1 b9 hHx hlt ?_
            intro v43 v44 v45 v46 v47 v48 v49 v50 v51 v52 v53 v54 v55 v56 v57 wv XV hMv kpv
            refine HK2.out _ _ ?_
            clear HK2
            go_wp2
            go_roundw
            case rel => exact ⟨i + 1, d2, a1 + 1, XV, by omega, by go_num, hMv, HLI.out, (fun e => absurd (HM0.out e) (by omega)), kpv _ _ (bpr.keep Gx (by simp))⟩
            case measure => simp [intOf] <;> omega
          ·
            go_simp
            have b8 := BxS.new wb 26 #[.int .i64 0, .int .i64 0, .int .i64 0, .slice none 0 0, .slice none 0 0, .int .i64 0, .int .i64 0, .int .i64 0, .int .i64 0, .int .i64 0, .int .i64 0, .int .i64 0]
            have G8 := World.grownBy_alloc wb (.cells #[.int .i64 0, .int .i64 0, .int .i64 0, .slice none 0 0, .slice none 0 0, .int .i64 0, .int .i64 0, .int .i64 0, .int .i64 0, .int .i64 0, .int .i64 0, .int .i64 0] 26) none
            generalize hwa : wb.alloc (.cells #[.int .i64 0, .int .i64 0, .int .i64 0, .slice none 0 0, .slice none 0 0, .int .i64 0, .int .i64 0, .int .i64 0, .int .i64 0, .int .i64 0, .int .i64 0, .int .i64 0] 26) = w8 at *
            refine hKK _ _ (fun h _ => h.keep G8 (by simp)) ?_
            try simp only [List.getElem_toArray, List.getElem_cons_succ, List.getElem_cons_zero, Act.put, List.setIfInBounds_toArray, List.set_cons_zero, List.set_cons_succ]
            refine wpAnyY_oneB 10 rfl (by kernel_rfl) (fun KK hKK => ?_)
            go_simp
            go_at_call 9
            refine (HAsk w8 _ 1 1 ((hRd.keep Gb).keep G8) (hRb.keep G8)).mono ?_
            rintro e w6 ⟨P1, rs1, qs1, rfl, hH6, y3⟩
            dsimp only
            refine hKK _ _ (fun h _ => h.keep y3 (by simp)) ?_
            try simp only [List.getElem_toArray, List.getElem_cons_succ, List.getElem_cons_zero, Act.put, List.setIfInBounds_toArray, List.set_cons_zero, List.set_cons_succ]
            have b86 := b8.keep y3 (by simp)
            refine wpAnyY_takeF 11 (.tuple #[.agg #[.int .i64 d2.cr, .int .i64 d2.nx, .int .i64 d2.ah, .slice P1.sa P1.sn P1.sc, .slice P1.qa P1.qn P1.qc, .int .i64 d2.ti, .int .i64 d2.pa, .int .i64 d2.tr, .int .i64 d2.li, .int .i64 d2.si, .int .i64 d2.pu, .int .i64 d2.hl], .int .i64 0]) rfl (by kernel_rfl) (fun _ _ _ h => h) rfl (by intro wz; go_simp; try rfl) ?_
            try simp only [List.getElem_toArray, List.getElem_cons_succ, List.getElem_cons_zero, Act.put, List.setIfInBounds_toArray, List.set_cons_zero, List.set_cons_succ]
            refine wpAnyY_takeF 12 (.agg #[.int .i64 d2.cr, .int .i64 d2.nx, .int .i64 d2.ah, .slice P1.sa P1.sn P1.sc, .slice P1.qa P1.qn P1.qc, .int .i64 d2.ti, .int .i64 d2.pa, .int .i64 d2.tr, .int .i64 d2.li, .int .i64 d2.si, .int .i64 d2.pu, .int .i64 d2.hl]) rfl (by kernel_rfl) (fun _ _ _ h => h) rfl (by intro wz; go_simp; try rfl) ?_
            try simp only [List.getElem_toArray, List.getElem_cons_succ, List.getElem_cons_zero, Act.put, List.setIfInBounds_toArray, List.set_cons_zero, List.set_cons_succ]
            refine wpAnyY_takeF 13 (.int .i64 0) rfl (by kernel_rfl) (fun _ _ _ h => h) rfl (by intro wz; go_simp; try rfl) ?_
            try simp only [List.getElem_toArray, List.getElem_cons_succ, List.getElem_cons_zero, Act.put, List.setIfInBounds_toArray, List.set_cons_zero, List.set_cons_succ]
            refine wpAnyY_oneB 15 rfl (by kernel_rfl) (fun KK hKK => ?_)
            refine step_of_listL rfl ?_
            refine wpList_stX _ rfl _ _ _ rfl wb.heap.size _ (haC d2 P1).toArray rfl rfl b86 Try.info_hn rfl (by simp [haC, Value.oneCell']) ?_
            intro w9 b9 u9
            show KK _ w9
            refine hKK _ _ (fun h _ => h.keep u9 (fun e => BxS.apart h b86 (by decide) (Option.some.inj e))) ?_
            try simp only [List.getElem_toArray, List.getElem_cons_succ, List.getElem_cons_zero, Act.put, List.setIfInBounds_toArray, List.set_cons_zero, List.set_cons_succ]
            refine wpAnyY_oneB 16 rfl (by kernel_rfl) (fun KK hKK => ?_)
            go_simp
            refine hKK _ _ (fun h _ => h) ?_
            try simp only [List.getElem_toArray, List.getElem_cons_succ, List.getElem_cons_zero, Act.put, List.setIfInBounds_toArray, List.set_cons_zero, List.set_cons_succ]
            refine wpAnyY_doneB (by kernel_rfl) ?_ _
            have Gx : wr.grownBy w9 none := grown_far (grown_trans (grown_trans (grown_trans Gd Gb) G8) y3) u9 (fun z e => by cases e; exact Nat.le_trans Gd.size Gb.size)
            have hHx := (hH6.bxL b86 (by decide) (by decide) u9).wideL (Nat.le_trans (Nat.le_trans Gd.size Gb.size) G8.size)
            refine HK4.out _ _ ?_
            clear HK4
            refine tk_t5 _ wB wr w9 gl _ _ X hM Gx d2 P1 rs1 qs1 b9 hHx hlt ?_
            intro v43 v44 v45 v46 v47 v48 v49 v50 v51 v52 v53 v54 v55 v56 v57 wv XV hMv kpv
            refine HK2.out _ _ ?_
            clear HK2
            go_wp2
            go_roundw
            case rel => exact ⟨i + 1, d2, a1 + 1, XV, by omega, by go_num, hMv, HLI.out, (fun e => absurd (HM0.out e) (by omega)), kpv _ _ (bpr.keep Gx (by simp))⟩
            case measure => simp [intOf] <;> omega
        ·
          go_simp
          have b8 := BxS.new wd 26 #[.int .i64 0, .int .i64 0, .int .i64 0, .slice none 0 0, .slice none 0 0, .int .i64 0, .int .i64 0, .int .i64 0, .int .i64 0, .int .i64 0, .int .i64 0, .int .i64 0]
          have G8 := World.grownBy_alloc wd (.cells #[.int .i64 0, .int .i64 0, .int .i64 0, .slice none 0 0, .slice none 0 0, .int .i64 0, .int .i64 0, .int .i64 0, .int .i64 0, .int .i64 0, .int .i64 0, .int .i64 0] 26) none
          generalize hwa : wd.alloc (.cells #[.int .i64 0, .int .i64 0, .int .i64 0, .slice none 0 0, .slice none 0 0, .int .i64 0, .int .i64 0, .int .i64 0, .int .i64 0, .int .i64 0, .int .i64 0, .int .i64 0] 26) = w8 at *
          refine hKK _ _ (fun h _ => h.keep G8 (by simp)) ?_
          try simp only [List.getElem_toArray, List.getElem_cons_succ, List.getElem_cons_zero, Act.put, List.setIfInBounds_toArray, List.set_cons_zero, List.set_cons_succ]
          refine wpAnyY_oneB 9 rfl (by kernel_rfl) (fun KK hKK => ?_)
          go_simp
          have Gb := World.grownBy_alloc w8 (.cells #[.int .u8 (a1 : Int)] 5) none
          have hRb := rd_oneL w8 a1 (by omega)
          generalize hwb : w8.alloc (.cells #[.int .u8 (a1 : Int)] 5) = wb at *
          refine hKK _ _ (fun h _ => h.keep Gb (by simp)) ?_
          try simp only [List.getElem_toArray, List.getElem_cons_succ, List.getElem_cons_zero, Act.put, List.setIfInBounds_toArray, List.set_cons_zero, List.set_cons_succ]
          refine wpAnyY_oneB 10 rfl (by kernel_rfl) (fun KK hKK => ?_)
          go_simp
          go_at_call 9
          refine (HAsk wb _ 1 1 ((hRd.keep G8).keep Gb) hRb).mono ?_
          rintro e w6 ⟨P1, rs1, qs1, rfl, hH6, y3⟩
          dsimp only
          refine hKK _ _ (fun h _ => h.keep y3 (by simp)) ?_
          try simp only [List.getElem_toArray, List.getElem_cons_succ, List.getElem_cons_zero, Act.put, List.setIfInBounds_toArray, List.set_cons_zero, List.set_cons_succ]
          have b86 := (b8.keep Gb (by simp)).keep y3 (by simp)
          refine wpAnyY_takeF 11 (.tuple #[.agg #[.int .i64 d2.cr, .int .i64 d2.nx, .int .i64 d2.ah, .slice P1.sa P1.sn P1.sc, .slice P1.qa P1.qn P1.qc, .int .i64 d2.ti, .int .i64 d2.pa, .int .i64 d2.tr, .int .i64 d2.li, .int .i64 d2.si, .int .i64 d2.pu, .int .i64 d2.hl], .int .i64 0]) rfl (by kernel_rfl) (fun _ _ _ h => h) rfl (by intro wz; go_simp; try rfl) ?_
          try simp only [List.getElem_toArray, List.getElem_cons_succ, List.getElem_cons_zero, Act.put, List.setIfInBounds_toArray, List.set_cons_zero, List.set_cons_succ]
          refine wpAnyY_takeF 12 (.agg #[.int .i64 d2.cr, .int .i64 d2.nx, .int .i64 d2.ah, .slice P1.sa P1.sn P1.sc, .slice P1.qa P1.qn P1.qc, .int .i64 d2.ti, .int .i64 d2.pa, .int .i64 d2.tr, .int .i64 d2.li, .int .i64 d2.si, .int .i64 d2.pu, .int .i64 d2.hl]) rfl (by kernel_rfl) (fun _ _ _ h => h) rfl (by intro wz; go_simp; try rfl) ?_
          try simp only [List.getElem_toArray, List.getElem_cons_succ, List.getElem_cons_zero, Act.put, List.setIfInBounds_toArray, List.set_cons_zero, List.set_cons_succ]
          refine wpAnyY_takeF 13 (.int .i64 0) rfl (by kernel_rfl) (fun _ _ _ h => h) rfl (by intro wz; go_simp; try rfl) ?_
          try simp only [List.getElem_toArray, List.getElem_cons_succ, List.getElem_cons_zero, Act.put, List.setIfInBounds_toArray, List.set_cons_zero, List.set_cons_succ]
          refine wpAnyY_oneB 15 rfl (by kernel_rfl) (fun KK hKK => ?_)
          refine step_of_listL rfl ?_
          refine wpList_stX _ rfl _ _ _ rfl wd.heap.size _ (haC d2 P1).toArray rfl rfl b86 Try.info_hn rfl (by simp [haC, Value.oneCell']) ?_
          intro w9 b9 u9
          show KK _ w9
          refine hKK _ _ (fun h _ => h.keep u9 (fun e => BxS.apart h b86 (by decide) (Option.some.inj e))) ?_
          try simp only [List.getElem_toArray, List.getElem_cons_succ, List.getElem_cons_zero, Act.put, List.setIfInBounds_toArray, List.set_cons_zero, List.set_cons_succ]
          refine wpAnyY_oneB 16 rfl (by kernel_rfl) (fun KK hKK => ?_)
          go_simp
          refine hKK _ _ (fun h _ => h) ?_
          try simp only [List.getElem_toArray, List.getElem_cons_succ, List.getElem_cons_zero, Act.put, List.setIfInBounds_toArray, List.set_cons_zero, List.set_cons_succ]
          refine wpAnyY_doneB (by kernel_rfl) ?_ _
          have Gx : wr.grownBy w9 none := grown_far (grown_trans (grown_trans (grown_trans Gd G8) Gb) y3) u9 (fun z e => by cases e; exact Gd.size)
          have hHx := (hH6.bxL b86 (by decide) (by decide) u9).wideL (Nat.le_trans (Nat.le_trans Gd.size G8.size) Gb.size)
          refine HK4.out _ _ ?_
          clear HK4
          refine tk_t5 _ wB wr w9 gl _ _ X hM Gx d2 P1 rs1 qs1 b9 hHx hlt ?_
          intro v43 v44 v45 v46 v47 v48 v49 v50 v51 v52 v53 v54 v55 v56 v57 wv XV hMv kpv
          refine HK2.out _ _ ?_
          clear HK2
          go_wp2
          go_roundw
          case rel => exact ⟨i + 1, d2, a1 + 1, XV, by omega, by go_num, hMv, HLI.out, (fun e => absurd (HM0.out e) (by omega)), kpv _ _ (bpr.keep Gx (by simp))⟩
          case measure => simp [intOf] <;> omega
      · have l2 : ¬ (a1 : Int) < 100 := by omega
        have HF : Hid _ := @fin
        clear fin hL HQ
        go_wp2_with (go_at_call 7; refine (HPk _).mono ?_; rintro e wx ⟨rfl, hwx⟩; rw [hwx]; clear hwx)
        refine HK1.out _ _ ?_
        clear HK1
        exact HF.out
    · have l1 : ¬ (i : Int) < (m : Int) := by omega
      have HF : Hid _ := @fin
      clear fin hL HQ
      go_wp2_with (go_at_call 7; refine (HPk _).mono ?_; rintro e wx ⟨rfl, hwx⟩; rw [hwx]; clear hwx)
      refine HK1.out _ _ ?_
      clear HK1
      exact HF.out
end
end Go.Proofs.Ytlfacjpehhcdiaa
