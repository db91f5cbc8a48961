import Derived.Test.YtgnicopijocnjaaDoorMk12
import Derived.Test.YtgnicopijocnjaaDoorMk4
namespace Go.Proofs.YtgnicopijocnjaaDoor
open Go.RowKit
set_option maxRecDepth 100000
set_option linter.unusedVariables false
set_option linter.unusedSimpArgs false

section
open Go.RowKit Go.Shelf

set_option maxHeartbeats 16000000 in
theorem pr_4g {u1 u2 u3 u4 u5 u8 u9 u13 u14 u15 u16 u17 u18 u19 u20 u21 u22 u23 u24 u25 u26 u27 u28 u29 u30 u31 u32 u33 u34 u35 u36 u37 u38 u39 u40 u41 u42 u43 u44 u45 u46 u47 u48 u49 u50 u51 u52 u53 u54 u55 u56 u57 u58 u59 u60 u61 u62 u63 u64 u65 u66 u67 u68 u69 u70 u71 u72 u73 u74 u75 u76 u77 u78 u79 u80 u81 u82 u83 u84 u85 u86 u87 u88 u89 u90 u91 u92 u93 u94 u95 u96 u97 u98 u99 u100 u101 u102 u103 u104 u105 u106 u107 u108 u109 u110 u111 u112 u113 u114 u115 u116 u117 u118 u119 u120 u121 u122 u123 u124 u125 u126 u127 u128 u129 u130 u131 u132 u133 u134 u135 u136 u137 u138 u139 u140 u141 u142 u143 u144 u145 u146 u147 u148 u149 u150 u151 u152 u153 u154 u155 u156 u157 u158 u159 u160 u161 u162 u163 u164 u165 u166 u167 u168 u169 u170 u171 u172 u173 u174 u175 u176 u177 u178 u179 u180 u181 u182 u183 u184 u185 u186 u187 u188 u189 u190 u191 u192 u193 u194 u195 u196 u197 u198 u199 u200 u201 u202 u203 u204 u205 u206 u207 u208 u209 u210 u211 u212 u213 u214 u215 u216 : Value} {Q : Exit → Act → World → Prop} (W : World) (gc gp gx : Nat) (C : List Nat) (nx : Nat) (d at' z : Int) (bi : Bool) (hM : MmR W gc nx C) (bp : BxS W gp 33 #[.int .i64 d, .int .i64 at', .int .i64 z]) (bx : BxS W gx 29 #[.int .i64 0, .slice none 0 0, .int .i64 0, .int .i64 0]) (hne : gx ≠ gc ∧ gp ≠ gc ∧ gp ≠ gx)
    (hPn : ∀ c (a1 a2 : Act) w, a1.defers = a2.defers → Q (.panic c) a1 w → Q (.panic c) a2 w) (hd : d = 4) (hc : 0 ≤ z ∧ z ≤ (C.length : Int)) (hgcl : gc < W.heap.size) (hgxl : gx < W.heap.size) (hgpl : gp < W.heap.size)
    (hQ : ∀ W' a n c {z13 z14 z15 z16 z17 z18 z19 z20 z21 z22 z23 z24 z25 z54 z55 z56 z57 z58 z59 z60 z61 z62 z63 z64 z65 z66 z67 z68 z69 z70 z71 z72 z73 z74 z75 z76 z77 z78 z79 z80 z81 z82 z83 z84 z85 z86 z87 z88 z89 z90 z91 z92 z93 z94 z95 z96 z97 z98 z99 z100 z101 z102 z103 z104 z105 z106 z107 z108 z109 z110 z111 z112 z113 z114 z115 z116 z117 z118 z119 z120 z121 z122 z123 z124 z125 z126 z127 z128 z129 z130 z131 z132 z133 z134 z135 z136 z137 z138 z139 z140 z141 z142 z143 z144 z145 z146 z147 z148 z149 z150 z151 z152 z153 z154 z155 z156 z157 z158 z159 z160 z161 z162 z163 z164 z165 z166 z167 z168 z169 z170 z171 z172 z173 z174 z175 z176 z177 z178 z179 z180 z181 z182 z183 z184 z185 z186 z187 z188 z189 z190 z191 z192 z193 z194 z195 z196 z197 z198 z199 z200 z201 z202 z203 z204 z205 z206 z207 z208 z209 z210 z211 : Value}, StR W W' gc gx (pkS (C, nx) (d, at', z)) a n c (pkO (C, nx) (d, at', z)) → Q .normal (Act.mk (List.toArray ((.int .i64 (C.length : Int)) :: u1 :: u2 :: u3 :: u4 :: u5 :: (.slice (some ⟨gc, 0, none⟩) C.length C.length) :: (.int .i64 ((pkS (C, nx) (d, at', z)).2 : Nat)) :: u8 :: u9 :: (.pointer (some ⟨gp, 0, none⟩)) :: (.pointer (some ⟨gx, 0, none⟩)) :: (.bool bi) :: z13 :: z14 :: z15 :: z16 :: z17 :: z18 :: z19 :: z20 :: z21 :: z22 :: z23 :: z24 :: z25 :: u26 :: u27 :: u28 :: u29 :: u30 :: u31 :: u32 :: u33 :: u34 :: u35 :: u36 :: u37 :: u38 :: u39 :: u40 :: u41 :: u42 :: u43 :: u44 :: u45 :: u46 :: u47 :: u48 :: u49 :: u50 :: u51 :: u52 :: u53 :: z54 :: z55 :: z56 :: z57 :: z58 :: z59 :: z60 :: z61 :: z62 :: z63 :: z64 :: z65 :: z66 :: z67 :: z68 :: z69 :: z70 :: z71 :: z72 :: z73 :: z74 :: z75 :: z76 :: z77 :: z78 :: z79 :: z80 :: z81 :: z82 :: z83 :: z84 :: z85 :: z86 :: z87 :: z88 :: z89 :: z90 :: z91 :: z92 :: z93 :: z94 :: z95 :: z96 :: z97 :: z98 :: z99 :: z100 :: z101 :: z102 :: z103 :: z104 :: z105 :: z106 :: z107 :: z108 :: z109 :: z110 :: z111 :: z112 :: z113 :: z114 :: z115 :: z116 :: z117 :: z118 :: z119 :: z120 :: z121 :: z122 :: z123 :: z124 :: z125 :: z126 :: z127 :: z128 :: z129 :: z130 :: z131 :: z132 :: z133 :: z134 :: z135 :: z136 :: z137 :: z138 :: z139 :: z140 :: z141 :: z142 :: z143 :: z144 :: z145 :: z146 :: z147 :: z148 :: z149 :: z150 :: z151 :: z152 :: z153 :: z154 :: z155 :: z156 :: z157 :: z158 :: z159 :: z160 :: z161 :: z162 :: z163 :: z164 :: z165 :: z166 :: z167 :: z168 :: z169 :: z170 :: z171 :: z172 :: z173 :: z174 :: z175 :: z176 :: z177 :: z178 :: z179 :: z180 :: z181 :: z182 :: z183 :: z184 :: z185 :: z186 :: z187 :: z188 :: z189 :: z190 :: z191 :: z192 :: z193 :: z194 :: z195 :: z196 :: z197 :: z198 :: z199 :: z200 :: z201 :: z202 :: z203 :: z204 :: z205 :: z206 :: z207 :: z208 :: z209 :: z210 :: z211 :: u212 :: u213 :: u214 :: u215 :: u216 :: [])) []) W') :
    Code.wp Tryd.prog (headM (tailR 12 (Tryd.f4.body.getD .skip))) Q (Act.mk (List.toArray ((.int .i64 (C.length : Int)) :: u1 :: u2 :: u3 :: u4 :: u5 :: (.slice (some ⟨gc, 0, none⟩) C.length C.length) :: (.int .i64 (nx : Int)) :: u8 :: u9 :: (.pointer (some ⟨gp, 0, none⟩)) :: (.pointer (some ⟨gx, 0, none⟩)) :: (.bool bi) :: u13 :: u14 :: u15 :: u16 :: u17 :: u18 :: u19 :: u20 :: u21 :: u22 :: u23 :: u24 :: u25 :: u26 :: u27 :: u28 :: u29 :: u30 :: u31 :: u32 :: u33 :: u34 :: u35 :: u36 :: u37 :: u38 :: u39 :: u40 :: u41 :: u42 :: u43 :: u44 :: u45 :: u46 :: u47 :: u48 :: u49 :: u50 :: u51 :: u52 :: u53 :: u54 :: u55 :: u56 :: u57 :: u58 :: u59 :: u60 :: u61 :: u62 :: u63 :: u64 :: u65 :: u66 :: u67 :: u68 :: u69 :: u70 :: u71 :: u72 :: u73 :: u74 :: u75 :: u76 :: u77 :: u78 :: u79 :: u80 :: u81 :: u82 :: u83 :: u84 :: u85 :: u86 :: u87 :: u88 :: u89 :: u90 :: u91 :: u92 :: u93 :: u94 :: u95 :: u96 :: u97 :: u98 :: u99 :: u100 :: u101 :: u102 :: u103 :: u104 :: u105 :: u106 :: u107 :: u108 :: u109 :: u110 :: u111 :: u112 :: u113 :: u114 :: u115 :: u116 :: u117 :: u118 :: u119 :: u120 :: u121 :: u122 :: u123 :: u124 :: u125 :: u126 :: u127 :: u128 :: u129 :: u130 :: u131 :: u132 :: u133 :: u134 :: u135 :: u136 :: u137 :: u138 :: u139 :: u140 :: u141 :: u142 :: u143 :: u144 :: u145 :: u146 :: u147 :: u148 :: u149 :: u150 :: u151 :: u152 :: u153 :: u154 :: u155 :: u156 :: u157 :: u158 :: u159 :: u160 :: u161 :: u162 :: u163 :: u164 :: u165 :: u166 :: u167 :: u168 :: u169 :: u170 :: u171 :: u172 :: u173 :: u174 :: u175 :: u176 :: u177 :: u178 :: u179 :: u180 :: u181 :: u182 :: u183 :: u184 :: u185 :: u186 :: u187 :: u188 :: u189 :: u190 :: u191 :: u192 :: u193 :: u194 :: u195 :: u196 :: u197 :: u198 :: u199 :: u200 :: u201 :: u202 :: u203 :: u204 :: u205 :: u206 :: u207 :: u208 :: u209 :: u210 :: u211 :: u212 :: u213 :: u214 :: u215 :: u216 :: [])) []) W := by
  have HQ : Hid _ := @hQ
  clear hQ
  have c0 : W.cell? ⟨gp, 0, none⟩ = some (.int .i64 d) := bp.cell 0 (by simp)
  have c1 : W.cell? ⟨gp, 1, none⟩ = some (.int .i64 at') := bp.cell 1 (by simp)
  have c2 : W.cell? ⟨gp, 2, none⟩ = some (.int .i64 z) := bp.cell 2 (by simp)
  have hmo := hM.most
  obtain ⟨y, rfl⟩ : ∃ y : Nat, z = (y : Int) := ⟨z.toNat, by omega⟩
  have HE : Hid (pkS (C, nx) (d, at', (y : Int)) = (mgC C nx y, (nx + y) % C.length) ∧ pkO (C, nx) (d, at', (y : Int)) = (((mgN C nx y : Nat) : Int), mgL C nx y, 0, 0)) := by
    subst hd
    refine ⟨?_, ?_⟩
    · unfold pkS
      dsimp only
      rw [if_neg (by decide), if_neg (by decide), if_neg (by decide), if_pos rfl, if_pos hc]
      try rfl
    · unfold pkO
      dsimp only
      rw [if_neg (by decide), if_neg (by decide), if_neg (by decide), if_pos rfl, if_pos hc]
      try rfl
  rw [HE.out.1, HE.out.2] at HQ
  clear HE
  subst hd
  have hz0 : ¬ (y : Int) < 0 := by omega
  have hz1 : ¬ (C.length : Int) < (y : Int) := by omega
  have hn1 := hM.next
  have ho1 := hM.one
  have hyb : y ≤ 4096 := by omega
  conv => enter [2]; whnf
  go_wp2
  go_loopw [7, 18] (fun nv kv wr => ∃ (j nl cl : Nat) (al : Option Addr), j ≤ y ∧ nv = .int .i64 (((nx + j) % C.length : Nat) : Int) ∧ kv = .int .i64 (j : Nat) ∧ MmR wr gc ((nx + j) % C.length) (mgC C nx j) ∧ BxS wr gx 29 #[.int .i64 (mgN C nx j : Nat), .slice al nl cl, .int .i64 0, .int .i64 0] ∧ AnsZ wr W.heap.size al nl cl (mgL C nx j) ∧ Frm (fun k => k = gc ∨ k = gx) W wr) (fun _ kv _ => y - (intOf kv).toNat)
  case atStart => exact ⟨0, 0, 0, none, by omega, by rw [Nat.add_zero, Nat.mod_eq_of_lt hn1], rfl, by rw [Nat.add_zero, Nat.mod_eq_of_lt hn1]; exact hM, bx, ansZ_nil _ _, Frm.refl _ _⟩
  case round =>
    obtain ⟨j, nl, cl, al, hj, rfl, rfl, hM, hbx, hA, hF⟩ := hrel
    have d2 : wr.cell? ⟨gp, 2, none⟩ = some (.int .i64 (y : Int)) := (bp.frmM hF (fun h => h.elim hne.2.1 hne.2.2)).cell 2 (by simp)
    by_cases hlt : j < y
    · have hjn : (j : Int) < (y : Int) := by omega
      have hsl := mgN_le C nx j
      have hll := mgL_le C nx j
      have hal := hA.len
      have hCl : (mgC C nx j).length = C.length := mgC_len _ _ _
      have HC1len : Hid ((mgC C nx j).length = C.length) := hCl
      have HS : Hid (mgC C nx (j + 1) = (mgC C nx j).set ((nx + j) % C.length) (viW (nth (mgC C nx j) ((nx + j) % C.length)))) := rfl
      have HN : Hid (mgN C nx (j + 1) = if wrW (nth (mgC C nx j) ((nx + j) % C.length)) == 1 then mgN C nx j + 1 else mgN C nx j) := rfl
      have HL : Hid (mgL C nx (j + 1) = if wrW (nth (mgC C nx j) ((nx + j) % C.length)) = 2 then mgL C nx j ++ [(((nx + j) % C.length : Nat) : Int)] else mgL C nx j) := rfl
      have HP : Hid ((nx + (j + 1)) % C.length = ((nx + j) % C.length + 1) % C.length) := by
        show _ = _
        rw [← Nat.add_assoc, Nat.mod_add_mod]
      have hpl : (nx + j) % C.length < C.length := Nat.mod_lt _ (by omega)
      have hpn : ((nx + j) % C.length + 1) % C.length < C.length := Nat.mod_lt _ (by omega)
      generalize (nx + j) % C.length = p at hM HS HN HL HP hpl hpn ⊢
      have hem : ((p : Int) + 1) % (C.length : Int) = (((p + 1) % C.length : Nat) : Int) := by
        have := Int.natCast_emod (p + 1) C.length
        rw [this]; simp
      have hem2 : ((p : Int) + 1).tmod (C.length : Int) = (((p + 1) % C.length : Nat) : Int) := by rw [Int.tmod_eq_emod_of_nonneg (by omega)]; exact hem
      have hlz : ¬ (C.length : Int) = 0 := by omega
      generalize (p + 1) % C.length = p' at hem hem2 HP hpn
      have hpl' : (p : Int) < (C.length : Int) := by omega
      have hcl := hM.row.cell p (by omega)
      have hcf := hM.row.free p
      have hxc := hM.code p (by omega)
      have hwr := hF.size
      have x0 := hbx.cell 0 (by simp)
      have x1 := hbx.cell 1 (by simp)
      have xf0 := hbx.free 0
      have xf1 := hbx.free 1
      simp at x0 x1
      clear hCl c0 c1 c2
      have hcases : wrW (nth (mgC C nx j) p) = 1 ∨ wrW (nth (mgC C nx j) p) = 2 ∨ wrW (nth (mgC C nx j) p) = 0 := by have := mwr_le (nth (mgC C nx j) p); omega
      rcases hcases with hy | hy | hy
      · skip
        have hMe := fun wz => rmend_any (nth (mgC C nx j) p : Nat) wz
        obtain ⟨m1, m2, m3⟩ := md_ok (z := (nth (mgC C nx j) p : Nat)) ⟨by omega, by omega⟩
        rw [m1, m2, m3, Int.toNat_natCast] at hMe
        clear m1 m2 m3
        have HC1 : Hid (mgC C nx (j + 1) = (mgC C nx j).set p (riW (nth (mgC C nx j) p))) := HS.out.trans (by rw [show viW (nth (mgC C nx j) p) = riW (nth (mgC C nx j) p) from by { unfold viW; exact if_neg (by omega) }])
        have HN1 : Hid (mgN C nx (j + 1) = mgN C nx j + 1) := HN.out.trans (by rw [hy]; rfl)
        have HL1 : Hid (mgL C nx (j + 1) = mgL C nx j) := HL.out.trans (if_neg (by omega))
        have e : ((riE (nth (mgC C nx j) p) : Nat) : Int) = 0 := by unfold riE; rw [if_neg (by omega)]; rfl
        have e2 : (wrW (nth (mgC C nx j) p) == 1) = true := by rw [hy]; rfl
        rw [e, e2] at hMe
        have hq := ri_code (nth (mgC C nx j) p) hxc (by omega)
        have hl := riW_lt _ hxc
        have hyl : gaW (riW (nth (mgC C nx j) p)) 39 < 4294967296 := by
          have := gaW_lt (riW (nth (mgC C nx j) p)) 39
          rwa [show cntW 39 = 32 by decide +kernel] at this
        have hC := fun wz => rcode_any ((gaW (riW (nth (mgC C nx j) p)) 39 : Nat) : Int) wz
        obtain ⟨q1, q2⟩ := cdE_ok (z := ((gaW (riW (nth (mgC C nx j) p)) 39 : Nat) : Int)) ⟨by omega, by omega⟩
        rw [q1, q2, Int.toNat_natCast, hq] at hC
        have hM2 := hM.set p (riW (nth (mgC C nx j) p)) hl
        clear e e2 hy HS HN HL hq q1 q2
        generalize gaW (riW (nth (mgC C nx j) p)) 39 = yv at hMe hC hyl
        generalize riW (nth (mgC C nx j) p) = X at hC hM2 hl HC1
        generalize nth (mgC C nx j) p = cv at hMe hcl hxc
        generalize mgL C nx j = LL at hA HL1 hll hal
        generalize mgN C nx j = s at HN1 hsl hbx x0
        have gS := grown_set wr gc p (.int .i64 (X : Int))
        have bx2 := hbx.keep gS (by simp; exact hne.1)
        have u0 := bx2.cell 0 (by simp)
        have uf0 := bx2.free 0
        simp at u0
        have gT := grown_set (wr.setCell ⟨gc, p, none⟩ (.int .i64 (X : Int))) gx 0 (.int .i64 ((s : Int) + 1))
        have bx3 := bx2.set 0 (.int .i64 ((s : Int) + 1))
        have hM3 := hM2.grown gT (by simp; exact fun e => hne.1 e.symm)
        have hA3 := (hA.kept gS (.inr (fun e => by have := hA.new gc e; omega))).kept gT (.inr (fun e => hA.ne_box hbx gx e rfl))
        have F3 := (hF.trans (Frm.of (p := (fun k => k = gc ∨ k = gx)) gS (fun k e _ => .inl (Option.some.inj e).symm)) (fun _ _ h => h)).trans (Frm.of (p := (fun k => k = gc ∨ k = gx)) gT (fun k e _ => .inr (Option.some.inj e).symm)) (fun _ _ h => h)
        have HH : Hid _ := And.intro bx3 (And.intro hM3 (And.intro hA3 F3))
        have hsb : (s : Int) + 1 ≤ 5000 := by omega
        clear bx3 hM3 hA3 F3 hA hbx hM hF hM2 bx2 gS gT
        go_wp2_with (first
          | (go_at_call 7; refine (hMe _).mono ?_; rintro e wT ⟨rfl, hwT⟩; have hwT := hwT.symm; subst hwT)
          | (go_at_call 8; refine (hC _).mono ?_; rintro e wT ⟨rfl, hwT⟩; have hwT := hwT.symm; subst hwT))
        go_roundw
        case rel =>
          obtain ⟨bx3, hM3, hA3, F3⟩ := HH.out
          exact ⟨j + 1, nl, cl, al, by omega, by rw [HP.out]; try go_num, by go_num, by rw [HC1.out, HP.out]; exact ⟨hM3.row, hM3.code, hM3.one, hM3.most, by rw [List.length_set, HC1len.out]; exact hpn⟩, by rw [HN1.out]; exact bx3, by rw [HL1.out]; exact hA3, F3⟩
        case measure => simp [intOf]; omega
      · skip
        have hMe := fun wz => rmend_any (nth (mgC C nx j) p : Nat) wz
        obtain ⟨m1, m2, m3⟩ := md_ok (z := (nth (mgC C nx j) p : Nat)) ⟨by omega, by omega⟩
        rw [m1, m2, m3, Int.toNat_natCast] at hMe
        clear m1 m2 m3
        have HC1 : Hid (mgC C nx (j + 1) = mgC C nx j) := HS.out.trans (by rw [show viW (nth (mgC C nx j) p) = nth (mgC C nx j) p from by { unfold viW; exact if_pos hy }, set_nth])
        have HN1 : Hid (mgN C nx (j + 1) = mgN C nx j) := HN.out.trans (by rw [hy]; rfl)
        have HL1 : Hid (mgL C nx (j + 1) = mgL C nx j ++ [(p : Int)]) := HL.out.trans (if_pos hy)
        have e : ((riE (nth (mgC C nx j) p) : Nat) : Int) = 18 := by unfold riE; rw [if_pos hy]; rfl
        rw [e] at hMe
        clear e hy HS HN HL
        generalize (wrW (nth (mgC C nx j) p) == 1) = bb at hMe
        generalize gaW (riW (nth (mgC C nx j) p)) 39 = yv at hMe
        generalize nth (mgC C nx j) p = cv at hMe hcl hxc
        generalize mgL C nx j = LL at hA HL1 hll hal
        generalize mgN C nx j = s at HN1 hsl hbx x0
        have hgx2 : ¬ some gx = (Value.slice al nl cl).ownBlock := fun e => AnsZ.ne_box hA hbx gx e.symm rfl
        have HGX : Hid _ := hgx2
        clear hgx2
        have HA : Hid _ := hA
        have HBX : Hid _ := hbx
        have HMM : Hid _ := hM
        have HF : Hid _ := hF
        clear hA hbx hM hF
        go_wp2_with (first
          | (go_at_call 7; refine (hMe _).mono ?_; rintro e wT ⟨rfl, hwT⟩; have hwT := hwT.symm; subst hwT)
          | (at_builtin; refine wpList_pushZ wr W.heap.size rfl (.tmp 165) (.tmp 167) rfl al nl cl (p : Int) LL rfl HA.out (by omega) rfl (by omega) ?_; intro gy cy w2 hA2 hgy hg2; have bx2 := BxS.keep HBX.out hg2 HGX.out; have u1 := bx2.cell 1 (by simp); have uf1 := bx2.free 1; simp at u1))
        have gS := grown_set w2 gx 1 (.slice (some ⟨gy, 0, none⟩) (nl + 1) cy)
        have hA3 := hA2.kept gS (.inr (fun e => AnsZ.ne_box hA2 bx2 gx e rfl))
        have bx3 := bx2.set 1 (.slice (some ⟨gy, 0, none⟩) (nl + 1) cy)
        have hgc2 : some gc ≠ (Value.slice al nl cl).ownBlock := fun e => by have := HA.out.new gc e.symm; omega
        have hM3 := (HMM.out.grown hg2 hgc2).grown gS (by simp; exact fun e => hne.1 e.symm)
        have F3 := (HF.out.trans (Frm.of (p := fun k => (Value.slice al nl cl).ownBlock = some k) hg2 (fun k e _ => e)) (fun i hi h => by have := HA.out.new i h; omega)).trans (Frm.of (p := fun k => k = gc ∨ k = gx) gS (fun k e _ => .inr (Option.some.inj e).symm)) (fun _ _ h => h)
        go_roundw
        case rel => exact ⟨j + 1, nl + 1, cy, some ⟨gy, 0, none⟩, by omega, by rw [HP.out]; try go_num, by go_num, by rw [HC1.out, HP.out]; exact ⟨hM3.row, hM3.code, hM3.one, hM3.most, by rw [HC1len.out]; exact hpn⟩, by rw [HN1.out]; exact bx3, by rw [HL1.out]; exact hA3, F3⟩
        case measure => simp [intOf]; omega
      · skip
        have hMe := fun wz => rmend_any (nth (mgC C nx j) p : Nat) wz
        obtain ⟨m1, m2, m3⟩ := md_ok (z := (nth (mgC C nx j) p : Nat)) ⟨by omega, by omega⟩
        rw [m1, m2, m3, Int.toNat_natCast] at hMe
        clear m1 m2 m3
        have HC1 : Hid (mgC C nx (j + 1) = mgC C nx j) := HS.out.trans (by rw [show viW (nth (mgC C nx j) p) = nth (mgC C nx j) p from by { unfold viW; exact (if_neg (by omega)).trans (ri_same _ hy) }, set_nth])
        have HN1 : Hid (mgN C nx (j + 1) = mgN C nx j) := HN.out.trans (by rw [hy]; rfl)
        have HL1 : Hid (mgL C nx (j + 1) = mgL C nx j) := HL.out.trans (if_neg (by omega))
        have e : ((riE (nth (mgC C nx j) p) : Nat) : Int) = 0 := by unfold riE; rw [if_neg (by omega)]; rfl
        have e2 : (wrW (nth (mgC C nx j) p) == 1) = false := by rw [hy]; rfl
        rw [e, e2] at hMe
        clear e e2 hy HS HN HL
        generalize gaW (riW (nth (mgC C nx j) p)) 39 = yv at hMe
        generalize nth (mgC C nx j) p = cv at hMe hcl hxc
        have HH : Hid _ := And.intro hbx (And.intro hM (And.intro hA hF))
        clear hA hbx hM hF
        go_wp2_with (go_at_call 7; refine (hMe _).mono ?_; rintro e wT ⟨rfl, hwT⟩; have hwT := hwT.symm; subst hwT)
        go_roundw
        case rel =>
          obtain ⟨bx3, hM3, hA3, F3⟩ := HH.out
          exact ⟨j + 1, nl, cl, al, by omega, by rw [HP.out]; try go_num, by go_num, by rw [HC1.out, HP.out]; exact ⟨hM3.row, hM3.code, hM3.one, hM3.most, by rw [HC1len.out]; exact hpn⟩, by rw [HN1.out]; exact bx3, by rw [HL1.out]; exact hA3, F3⟩
        case measure => simp [intOf]; omega
    · obtain rfl : j = y := by omega
      go_wp2
      (try simp only [Exit.inBlock, Exit.then])
      exact HQ.out _ al nl cl ⟨hM, hbx, hA, hF⟩
end

section
open Go.RowKit Go.Shelf

set_option maxHeartbeats 16000000 in
theorem pr_5 {u1 u2 u3 u4 u5 u8 u9 u13 u14 u15 u16 u17 u18 u19 u20 u21 u22 u23 u24 u25 u26 u27 u28 u29 u30 u31 u32 u33 u34 u35 u36 u37 u38 u39 u40 u41 u42 u43 u44 u45 u46 u47 u48 u49 u50 u51 u52 u53 u54 u55 u56 u57 u58 u59 u60 u61 u62 u63 u64 u65 u66 u67 u68 u69 u70 u71 u72 u73 u74 u75 u76 u77 u78 u79 u80 u81 u82 u83 u84 u85 u86 u87 u88 u89 u90 u91 u92 u93 u94 u95 u96 u97 u98 u99 u100 u101 u102 u103 u104 u105 u106 u107 u108 u109 u110 u111 u112 u113 u114 u115 u116 u117 u118 u119 u120 u121 u122 u123 u124 u125 u126 u127 u128 u129 u130 u131 u132 u133 u134 u135 u136 u137 u138 u139 u140 u141 u142 u143 u144 u145 u146 u147 u148 u149 u150 u151 u152 u153 u154 u155 u156 u157 u158 u159 u160 u161 u162 u163 u164 u165 u166 u167 u168 u169 u170 u171 u172 u173 u174 u175 u176 u177 u178 u179 u180 u181 u182 u183 u184 u185 u186 u187 u188 u189 u190 u191 u192 u193 u194 u195 u196 u197 u198 u199 u200 u201 u202 u203 u204 u205 u206 u207 u208 u209 u210 u211 u212 u213 u214 u215 u216 : Value} {Q : Exit → Act → World → Prop} (W : World) (gc gp gx : Nat) (C : List Nat) (nx : Nat) (d at' z : Int) (bi : Bool) (hM : MmR W gc nx C) (bp : BxS W gp 33 #[.int .i64 d, .int .i64 at', .int .i64 z]) (bx : BxS W gx 29 #[.int .i64 0, .slice none 0 0, .int .i64 0, .int .i64 0]) (hne : gx ≠ gc ∧ gp ≠ gc ∧ gp ≠ gx)
    (hPn : ∀ c (a1 a2 : Act) w, a1.defers = a2.defers → Q (.panic c) a1 w → Q (.panic c) a2 w) (hd : d = 5) (hgcl : gc < W.heap.size) (hgxl : gx < W.heap.size)
    (hQ : ∀ W' a n c {z13 z14 z15 z16 z17 z18 z19 z20 z21 z22 z23 z24 z25 z54 z55 z56 z57 z58 z59 z60 z61 z62 z63 z64 z65 z66 z67 z68 z69 z70 z71 z72 z73 z74 z75 z76 z77 z78 z79 z80 z81 z82 z83 z84 z85 z86 z87 z88 z89 z90 z91 z92 z93 z94 z95 z96 z97 z98 z99 z100 z101 z102 z103 z104 z105 z106 z107 z108 z109 z110 z111 z112 z113 z114 z115 z116 z117 z118 z119 z120 z121 z122 z123 z124 z125 z126 z127 z128 z129 z130 z131 z132 z133 z134 z135 z136 z137 z138 z139 z140 z141 z142 z143 z144 z145 z146 z147 z148 z149 z150 z151 z152 z153 z154 z155 z156 z157 z158 z159 z160 z161 z162 z163 z164 z165 z166 z167 z168 z169 z170 z171 z172 z173 z174 z175 z176 z177 z178 z179 z180 z181 z182 z183 z184 z185 z186 z187 z188 z189 z190 z191 z192 z193 z194 z195 z196 z197 z198 z199 z200 z201 z202 z203 z204 z205 z206 z207 z208 z209 z210 z211 : Value}, StR W W' gc gx (pkS (C, nx) (d, at', z)) a n c (pkO (C, nx) (d, at', z)) → Q .normal (Act.mk (List.toArray ((.int .i64 (C.length : Int)) :: u1 :: u2 :: u3 :: u4 :: u5 :: (.slice (some ⟨gc, 0, none⟩) C.length C.length) :: (.int .i64 ((pkS (C, nx) (d, at', z)).2 : Nat)) :: u8 :: u9 :: (.pointer (some ⟨gp, 0, none⟩)) :: (.pointer (some ⟨gx, 0, none⟩)) :: (.bool bi) :: z13 :: z14 :: z15 :: z16 :: z17 :: z18 :: z19 :: z20 :: z21 :: z22 :: z23 :: z24 :: z25 :: u26 :: u27 :: u28 :: u29 :: u30 :: u31 :: u32 :: u33 :: u34 :: u35 :: u36 :: u37 :: u38 :: u39 :: u40 :: u41 :: u42 :: u43 :: u44 :: u45 :: u46 :: u47 :: u48 :: u49 :: u50 :: u51 :: u52 :: u53 :: z54 :: z55 :: z56 :: z57 :: z58 :: z59 :: z60 :: z61 :: z62 :: z63 :: z64 :: z65 :: z66 :: z67 :: z68 :: z69 :: z70 :: z71 :: z72 :: z73 :: z74 :: z75 :: z76 :: z77 :: z78 :: z79 :: z80 :: z81 :: z82 :: z83 :: z84 :: z85 :: z86 :: z87 :: z88 :: z89 :: z90 :: z91 :: z92 :: z93 :: z94 :: z95 :: z96 :: z97 :: z98 :: z99 :: z100 :: z101 :: z102 :: z103 :: z104 :: z105 :: z106 :: z107 :: z108 :: z109 :: z110 :: z111 :: z112 :: z113 :: z114 :: z115 :: z116 :: z117 :: z118 :: z119 :: z120 :: z121 :: z122 :: z123 :: z124 :: z125 :: z126 :: z127 :: z128 :: z129 :: z130 :: z131 :: z132 :: z133 :: z134 :: z135 :: z136 :: z137 :: z138 :: z139 :: z140 :: z141 :: z142 :: z143 :: z144 :: z145 :: z146 :: z147 :: z148 :: z149 :: z150 :: z151 :: z152 :: z153 :: z154 :: z155 :: z156 :: z157 :: z158 :: z159 :: z160 :: z161 :: z162 :: z163 :: z164 :: z165 :: z166 :: z167 :: z168 :: z169 :: z170 :: z171 :: z172 :: z173 :: z174 :: z175 :: z176 :: z177 :: z178 :: z179 :: z180 :: z181 :: z182 :: z183 :: z184 :: z185 :: z186 :: z187 :: z188 :: z189 :: z190 :: z191 :: z192 :: z193 :: z194 :: z195 :: z196 :: z197 :: z198 :: z199 :: z200 :: z201 :: z202 :: z203 :: z204 :: z205 :: z206 :: z207 :: z208 :: z209 :: z210 :: z211 :: u212 :: u213 :: u214 :: u215 :: u216 :: [])) []) W') :
    Code.wp Tryd.prog (headM (tailR 12 (Tryd.f4.body.getD .skip))) Q (Act.mk (List.toArray ((.int .i64 (C.length : Int)) :: u1 :: u2 :: u3 :: u4 :: u5 :: (.slice (some ⟨gc, 0, none⟩) C.length C.length) :: (.int .i64 (nx : Int)) :: u8 :: u9 :: (.pointer (some ⟨gp, 0, none⟩)) :: (.pointer (some ⟨gx, 0, none⟩)) :: (.bool bi) :: u13 :: u14 :: u15 :: u16 :: u17 :: u18 :: u19 :: u20 :: u21 :: u22 :: u23 :: u24 :: u25 :: u26 :: u27 :: u28 :: u29 :: u30 :: u31 :: u32 :: u33 :: u34 :: u35 :: u36 :: u37 :: u38 :: u39 :: u40 :: u41 :: u42 :: u43 :: u44 :: u45 :: u46 :: u47 :: u48 :: u49 :: u50 :: u51 :: u52 :: u53 :: u54 :: u55 :: u56 :: u57 :: u58 :: u59 :: u60 :: u61 :: u62 :: u63 :: u64 :: u65 :: u66 :: u67 :: u68 :: u69 :: u70 :: u71 :: u72 :: u73 :: u74 :: u75 :: u76 :: u77 :: u78 :: u79 :: u80 :: u81 :: u82 :: u83 :: u84 :: u85 :: u86 :: u87 :: u88 :: u89 :: u90 :: u91 :: u92 :: u93 :: u94 :: u95 :: u96 :: u97 :: u98 :: u99 :: u100 :: u101 :: u102 :: u103 :: u104 :: u105 :: u106 :: u107 :: u108 :: u109 :: u110 :: u111 :: u112 :: u113 :: u114 :: u115 :: u116 :: u117 :: u118 :: u119 :: u120 :: u121 :: u122 :: u123 :: u124 :: u125 :: u126 :: u127 :: u128 :: u129 :: u130 :: u131 :: u132 :: u133 :: u134 :: u135 :: u136 :: u137 :: u138 :: u139 :: u140 :: u141 :: u142 :: u143 :: u144 :: u145 :: u146 :: u147 :: u148 :: u149 :: u150 :: u151 :: u152 :: u153 :: u154 :: u155 :: u156 :: u157 :: u158 :: u159 :: u160 :: u161 :: u162 :: u163 :: u164 :: u165 :: u166 :: u167 :: u168 :: u169 :: u170 :: u171 :: u172 :: u173 :: u174 :: u175 :: u176 :: u177 :: u178 :: u179 :: u180 :: u181 :: u182 :: u183 :: u184 :: u185 :: u186 :: u187 :: u188 :: u189 :: u190 :: u191 :: u192 :: u193 :: u194 :: u195 :: u196 :: u197 :: u198 :: u199 :: u200 :: u201 :: u202 :: u203 :: u204 :: u205 :: u206 :: u207 :: u208 :: u209 :: u210 :: u211 :: u212 :: u213 :: u214 :: u215 :: u216 :: [])) []) W := by
  have HQ : Hid _ := @hQ
  clear hQ
  have c0 : W.cell? ⟨gp, 0, none⟩ = some (.int .i64 d) := bp.cell 0 (by simp)
  have c1 : W.cell? ⟨gp, 1, none⟩ = some (.int .i64 at') := bp.cell 1 (by simp)
  have c2 : W.cell? ⟨gp, 2, none⟩ = some (.int .i64 z) := bp.cell 2 (by simp)
  have hmo := hM.most
  have HE : Hid (pkS (C, nx) (d, at', z) = (C, nx) ∧ pkO (C, nx) (d, at', z) = (0, flP (alL C C.length), 0, 0)) := by
    subst hd
    refine ⟨?_, ?_⟩
    · unfold pkS
      dsimp only
      rw [if_neg (by decide), if_neg (by decide), if_neg (by decide), if_neg (by decide)]
    · unfold pkO
      dsimp only
      rw [if_neg (by decide), if_neg (by decide), if_neg (by decide), if_neg (by decide), if_pos rfl]
  rw [HE.out.1, HE.out.2] at HQ
  clear HE
  subst hd
  conv => enter [2]; whnf
  go_wp2
  go_loopw [22] (fun kv wr => ∃ (j nl cl : Nat) (al : Option Addr), j ≤ C.length ∧ kv = .int .i64 (j : Nat) ∧ MmR wr gc nx C ∧ BxS wr gx 29 #[.int .i64 0, .slice al nl cl, .int .i64 0, .int .i64 0] ∧ AnsZ wr W.heap.size al nl cl (flP (alL C j)) ∧ Frm (fun k => k = gc ∨ k = gx) W wr) (fun kv _ => C.length - (intOf kv).toNat)
  case atStart => exact ⟨0, 0, 0, none, by omega, rfl, hM, bx, ansZ_nil _ _, Frm.refl _ _⟩
  case round =>
    obtain ⟨j, nl, cl, al, hj, rfl, hM, hbx, hA, hF⟩ := hrel
    by_cases hlt : j < C.length
    · have hjn : (j : Int) < (C.length : Int) := by omega
      have hal := hA.len
      have hll : (flP (alL C j)).length ≤ 8192 := by rw [flP_len]; have := alL_len C j; omega
      have HL : Hid (alL C (j + 1) = if wrW (nth C j) = 2 then alL C j else alL C j ++ [(j, gaW (riW (nth C j)) 39)]) := rfl
      have hcl := hM.row.cell j hlt
      have hxc := hM.code j hlt
      have hwr := hF.size
      have x1 := hbx.cell 1 (by simp)
      have xf1 := hbx.free 1
      simp at x1
      clear c0 c1 c2
      by_cases hy : wrW (nth C j) = 2
      · skip
        have hMe := fun wz => rmend_any (nth C j : Nat) wz
        obtain ⟨m1, m2, m3⟩ := md_ok (z := (nth C j : Nat)) ⟨by omega, by omega⟩
        rw [m1, m2, m3, Int.toNat_natCast] at hMe
        clear m1 m2 m3
        have e : ((riE (nth C j) : Nat) : Int) = 18 := by unfold riE; rw [if_pos hy]; rfl
        rw [e] at hMe
        have HL1 : Hid (alL C (j + 1) = alL C j) := HL.out.trans (if_pos hy)
        clear e hy HL
        generalize (wrW (nth C j) == 1) = bb at hMe
        generalize gaW (riW (nth C j)) 39 = yv at hMe
        have HH : Hid _ := And.intro hM (And.intro hbx (And.intro hA hF))
        clear hM hbx hA hF
        go_wp2_with (go_at_call 7; refine (hMe _).mono ?_; rintro e wT ⟨rfl, hwT⟩; have hwT := hwT.symm; subst hwT)
        go_roundw
        case rel =>
          obtain ⟨hM, hbx, hA, hF⟩ := HH.out
          exact ⟨j + 1, nl, cl, al, by omega, by go_num, hM, hbx, by rw [HL1.out]; exact hA, hF⟩
        case measure => simp [intOf]; omega
      · skip
        have hMe := fun wz => rmend_any (nth C j : Nat) wz
        obtain ⟨m1, m2, m3⟩ := md_ok (z := (nth C j : Nat)) ⟨by omega, by omega⟩
        rw [m1, m2, m3, Int.toNat_natCast] at hMe
        clear m1 m2 m3
        have e : ((riE (nth C j) : Nat) : Int) = 0 := by unfold riE; rw [if_neg hy]; rfl
        rw [e] at hMe
        have HL1 : Hid (alL C (j + 1) = alL C j ++ [(j, gaW (riW (nth C j)) 39)]) := HL.out.trans (if_neg hy)
        clear e hy HL
        generalize (wrW (nth C j) == 1) = bb at hMe
        generalize gaW (riW (nth C j)) 39 = yv at hMe HL1
        have HL2 : Hid (flP (alL C (j + 1)) = flP (alL C j) ++ [(j : Int), (yv : Int)]) := by show _ = _; rw [HL1.out, flP_add]
        generalize flP (alL C j) = LL at hA HL2 hll hal
        have hgx2 : ¬ some gx = (Value.slice al nl cl).ownBlock := fun e => AnsZ.ne_box hA hbx gx e.symm rfl
        have HGX : Hid _ := hgx2
        have hgA := World.grownBy_alloc wr (.cells #[.int .i64 (j : Int), .int .i64 (yv : Int)] 3) none
        have HGA : Hid _ := hgA
        have HA : Hid _ := hA
        have HBX : Hid _ := hbx
        have HMM : Hid _ := hM
        have HF : Hid _ := hF
        have HOW : Hid _ := hA.own.alloc (.cells #[.int .i64 (j : Int), .int .i64 (yv : Int)] 3)
        clear hA hbx hM hF hgx2 hgA
        go_wp2_with (first
          | (go_at_call 7; refine (hMe _).mono ?_; rintro e wT ⟨rfl, hwT⟩; have hwT := hwT.symm; subst hwT)
          | (at_builtin; refine wpList_apI _ rfl (.tmp 206) (.tmp 209) rfl (.slice al nl cl) nl (zys LL) rfl HOW.out ⟨wr.heap.size, 0, none⟩ 2 2 [.int .i64 (j : Int), .int .i64 (yv : Int)] rfl rfl (cells_twoI wr _ _) (by simp [Value.oneCell']) (by decide) (by omega) ?_; intro gy cy w2 hgy hg2 hO2; have bx2 := BxS.keep (BxS.keep HBX.out HGA.out (by simp)) hg2 HGX.out; have u1 := bx2.cell 1 (by simp); have uf1 := bx2.free 1; simp at u1))
        have hsA := HGA.out.size
        have hA2 : AnsZ w2 W.heap.size (some ⟨gy, 0, none⟩) (nl + 2) cy (LL ++ [(j : Int), (yv : Int)]) := ⟨by simpa [zys] using hO2, fun g e => by
          have e : gy = g := Option.some.inj e
          subst e
          rcases hgy with h | h
          · exact HA.out.new _ h
          · omega⟩
        have gS := grown_set w2 gx 1 (.slice (some ⟨gy, 0, none⟩) (nl + 2) cy)
        have hA3 := hA2.kept gS (.inr (fun e => AnsZ.ne_box hA2 bx2 gx e rfl))
        have bx3 := bx2.set 1 (.slice (some ⟨gy, 0, none⟩) (nl + 2) cy)
        have hgc2 : some gc ≠ (Value.slice al nl cl).ownBlock := fun e => by have := HA.out.new gc e.symm; omega
        have hM3 := ((HMM.out.grown HGA.out (by simp)).grown hg2 hgc2).grown gS (by simp; exact fun e => hne.1 e.symm)
        have F3 := ((HF.out.trans (Frm.of (p := fun _ => False) HGA.out (fun k e _ => by cases e)) (fun _ _ h => h.elim)).trans (Frm.of (p := fun k => (Value.slice al nl cl).ownBlock = some k) hg2 (fun k e _ => e)) (fun i hi h => by have := HA.out.new i h; omega)).trans (Frm.of (p := fun k => k = gc ∨ k = gx) gS (fun k e _ => .inr (Option.some.inj e).symm)) (fun _ _ h => h)
        go_roundw
        case rel => exact ⟨j + 1, nl + 2, cy, some ⟨gy, 0, none⟩, by omega, by go_num, hM3, bx3, by rw [HL2.out]; exact hA3, F3⟩
        case measure => simp [intOf]; omega
    · obtain rfl : j = C.length := by omega
      have hge : ¬ (C.length : Int) < (C.length : Int) := by omega
      have HH : Hid _ := And.intro hM (And.intro hbx (And.intro hA hF))
      clear hM hbx hA hF
      go_wp2
      (try simp only [Exit.inBlock, Exit.then])
      obtain ⟨hM, hbx, hA, hF⟩ := HH.out
      exact HQ.out _ al nl cl ⟨hM, hbx, hA, hF⟩
end
end Go.Proofs.YtgnicopijocnjaaDoor
