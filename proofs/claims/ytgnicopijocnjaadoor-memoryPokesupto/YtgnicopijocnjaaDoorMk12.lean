import Derived.Test.YtgnicopijocnjaaDoorMk11
import Derived.Test.YtgnicopijocnjaaDoorMk3
namespace Go.Proofs.YtgnicopijocnjaaDoor
open Go.RowKit
set_option maxRecDepth 100000
set_option linter.unusedVariables false
set_option linter.unusedSimpArgs false

section
open Go.RowKit Go.Shelf

set_option maxHeartbeats 16000000 in
theorem pr_1l {u1 u2 u3 u4 u5 u8 u9 u13 u14 u15 u16 u17 u18 u19 u20 u21 u22 u23 u24 u25 u26 u27 u28 u29 u30 u31 u32 u33 u34 u35 u36 u37 u38 u39 u40 u41 u42 u43 u44 u45 u46 u47 u48 u49 u50 u51 u52 u53 u54 u55 u56 u57 u58 u59 u60 u61 u62 u63 u64 u65 u66 u67 u68 u69 u70 u71 u72 u73 u74 u75 u76 u77 u78 u79 u80 u81 u82 u83 u84 u85 u86 u87 u88 u89 u90 u91 u92 u93 u94 u95 u96 u97 u98 u99 u100 u101 u102 u103 u104 u105 u106 u107 u108 u109 u110 u111 u112 u113 u114 u115 u116 u117 u118 u119 u120 u121 u122 u123 u124 u125 u126 u127 u128 u129 u130 u131 u132 u133 u134 u135 u136 u137 u138 u139 u140 u141 u142 u143 u144 u145 u146 u147 u148 u149 u150 u151 u152 u153 u154 u155 u156 u157 u158 u159 u160 u161 u162 u163 u164 u165 u166 u167 u168 u169 u170 u171 u172 u173 u174 u175 u176 u177 u178 u179 u180 u181 u182 u183 u184 u185 u186 u187 u188 u189 u190 u191 u192 u193 u194 u195 u196 u197 u198 u199 u200 u201 u202 u203 u204 u205 u206 u207 u208 u209 u210 u211 u212 u213 u214 u215 u216 : Value} {Q : Exit → Act → World → Prop} (W : World) (gc gp gx : Nat) (C : List Nat) (nx : Nat) (d at' z : Int) (hM : MmR W gc nx C) (bp : BxS W gp 33 #[.int .i64 d, .int .i64 at', .int .i64 z]) (bx : BxS W gx 29 #[.int .i64 0, .slice none 0 0, .int .i64 0, .int .i64 0]) (hne : gx ≠ gc ∧ gp ≠ gc ∧ gp ≠ gx)
    (hPn : ∀ c (a1 a2 : Act) w, a1.defers = a2.defers → Q (.panic c) a1 w → Q (.panic c) a2 w) (hd : d = 1) (hc : 0 ≤ at' ∧ at' ≤ (C.length : Int) - 1) (hw : wrW (nth C at'.toNat) = 2)
    (hQ : ∀ W' a n c {z13 z14 z15 z16 z17 z18 z19 z20 z21 z22 z23 z24 z25 z54 z55 z56 z57 z58 z59 z60 z61 z62 z63 z64 z65 z66 z67 z68 z69 z70 z71 z72 z73 z74 z75 z76 z77 z78 z79 z80 z81 z82 z83 z84 z85 z86 z87 z88 z89 z90 z91 z92 z93 z94 z95 z96 z97 z98 z99 z100 z101 z102 z103 z104 z105 z106 z107 z108 z109 z110 z111 z112 z113 z114 z115 z116 z117 z118 z119 z120 z121 z122 z123 z124 z125 z126 z127 z128 z129 z130 z131 z132 z133 z134 z135 z136 z137 z138 z139 z140 z141 z142 z143 z144 z145 z146 z147 z148 z149 z150 z151 z152 z153 z154 z155 z156 z157 z158 z159 z160 z161 z162 z163 z164 z165 z166 z167 z168 z169 z170 z171 z172 z173 z174 z175 z176 z177 z178 z179 z180 z181 z182 z183 z184 z185 z186 z187 z188 z189 z190 z191 z192 z193 z194 z195 z196 z197 z198 z199 z200 z201 z202 z203 z204 z205 z206 z207 z208 z209 z210 z211 : Value}, StR W W' gc gx (pkS (C, nx) (d, at', z)) a n c (pkO (C, nx) (d, at', z)) → Q .normal (Act.mk (List.toArray ((.int .i64 (C.length : Int)) :: u1 :: u2 :: u3 :: u4 :: u5 :: (.slice (some ⟨gc, 0, none⟩) C.length C.length) :: (.int .i64 ((pkS (C, nx) (d, at', z)).2 : Nat)) :: u8 :: u9 :: (.pointer (some ⟨gp, 0, none⟩)) :: (.pointer (some ⟨gx, 0, none⟩)) :: (.bool true) :: z13 :: z14 :: z15 :: z16 :: z17 :: z18 :: z19 :: z20 :: z21 :: z22 :: z23 :: z24 :: z25 :: u26 :: u27 :: u28 :: u29 :: u30 :: u31 :: u32 :: u33 :: u34 :: u35 :: u36 :: u37 :: u38 :: u39 :: u40 :: u41 :: u42 :: u43 :: u44 :: u45 :: u46 :: u47 :: u48 :: u49 :: u50 :: u51 :: u52 :: u53 :: z54 :: z55 :: z56 :: z57 :: z58 :: z59 :: z60 :: z61 :: z62 :: z63 :: z64 :: z65 :: z66 :: z67 :: z68 :: z69 :: z70 :: z71 :: z72 :: z73 :: z74 :: z75 :: z76 :: z77 :: z78 :: z79 :: z80 :: z81 :: z82 :: z83 :: z84 :: z85 :: z86 :: z87 :: z88 :: z89 :: z90 :: z91 :: z92 :: z93 :: z94 :: z95 :: z96 :: z97 :: z98 :: z99 :: z100 :: z101 :: z102 :: z103 :: z104 :: z105 :: z106 :: z107 :: z108 :: z109 :: z110 :: z111 :: z112 :: z113 :: z114 :: z115 :: z116 :: z117 :: z118 :: z119 :: z120 :: z121 :: z122 :: z123 :: z124 :: z125 :: z126 :: z127 :: z128 :: z129 :: z130 :: z131 :: z132 :: z133 :: z134 :: z135 :: z136 :: z137 :: z138 :: z139 :: z140 :: z141 :: z142 :: z143 :: z144 :: z145 :: z146 :: z147 :: z148 :: z149 :: z150 :: z151 :: z152 :: z153 :: z154 :: z155 :: z156 :: z157 :: z158 :: z159 :: z160 :: z161 :: z162 :: z163 :: z164 :: z165 :: z166 :: z167 :: z168 :: z169 :: z170 :: z171 :: z172 :: z173 :: z174 :: z175 :: z176 :: z177 :: z178 :: z179 :: z180 :: z181 :: z182 :: z183 :: z184 :: z185 :: z186 :: z187 :: z188 :: z189 :: z190 :: z191 :: z192 :: z193 :: z194 :: z195 :: z196 :: z197 :: z198 :: z199 :: z200 :: z201 :: z202 :: z203 :: z204 :: z205 :: z206 :: z207 :: z208 :: z209 :: z210 :: z211 :: u212 :: u213 :: u214 :: u215 :: u216 :: [])) []) W') :
    Code.wp Tryd.prog (headM (tailR 12 (Tryd.f4.body.getD .skip))) Q (Act.mk (List.toArray ((.int .i64 (C.length : Int)) :: u1 :: u2 :: u3 :: u4 :: u5 :: (.slice (some ⟨gc, 0, none⟩) C.length C.length) :: (.int .i64 (nx : Int)) :: u8 :: u9 :: (.pointer (some ⟨gp, 0, none⟩)) :: (.pointer (some ⟨gx, 0, none⟩)) :: (.bool true) :: u13 :: u14 :: u15 :: u16 :: u17 :: u18 :: u19 :: u20 :: u21 :: u22 :: u23 :: u24 :: u25 :: u26 :: u27 :: u28 :: u29 :: u30 :: u31 :: u32 :: u33 :: u34 :: u35 :: u36 :: u37 :: u38 :: u39 :: u40 :: u41 :: u42 :: u43 :: u44 :: u45 :: u46 :: u47 :: u48 :: u49 :: u50 :: u51 :: u52 :: u53 :: u54 :: u55 :: u56 :: u57 :: u58 :: u59 :: u60 :: u61 :: u62 :: u63 :: u64 :: u65 :: u66 :: u67 :: u68 :: u69 :: u70 :: u71 :: u72 :: u73 :: u74 :: u75 :: u76 :: u77 :: u78 :: u79 :: u80 :: u81 :: u82 :: u83 :: u84 :: u85 :: u86 :: u87 :: u88 :: u89 :: u90 :: u91 :: u92 :: u93 :: u94 :: u95 :: u96 :: u97 :: u98 :: u99 :: u100 :: u101 :: u102 :: u103 :: u104 :: u105 :: u106 :: u107 :: u108 :: u109 :: u110 :: u111 :: u112 :: u113 :: u114 :: u115 :: u116 :: u117 :: u118 :: u119 :: u120 :: u121 :: u122 :: u123 :: u124 :: u125 :: u126 :: u127 :: u128 :: u129 :: u130 :: u131 :: u132 :: u133 :: u134 :: u135 :: u136 :: u137 :: u138 :: u139 :: u140 :: u141 :: u142 :: u143 :: u144 :: u145 :: u146 :: u147 :: u148 :: u149 :: u150 :: u151 :: u152 :: u153 :: u154 :: u155 :: u156 :: u157 :: u158 :: u159 :: u160 :: u161 :: u162 :: u163 :: u164 :: u165 :: u166 :: u167 :: u168 :: u169 :: u170 :: u171 :: u172 :: u173 :: u174 :: u175 :: u176 :: u177 :: u178 :: u179 :: u180 :: u181 :: u182 :: u183 :: u184 :: u185 :: u186 :: u187 :: u188 :: u189 :: u190 :: u191 :: u192 :: u193 :: u194 :: u195 :: u196 :: u197 :: u198 :: u199 :: u200 :: u201 :: u202 :: u203 :: u204 :: u205 :: u206 :: u207 :: u208 :: u209 :: u210 :: u211 :: u212 :: u213 :: u214 :: u215 :: u216 :: [])) []) W := by
  have HQ : Hid _ := @hQ
  clear hQ
  have c0 : W.cell? ⟨gp, 0, none⟩ = some (.int .i64 d) := bp.cell 0 (by simp)
  have c1 : W.cell? ⟨gp, 1, none⟩ = some (.int .i64 at') := bp.cell 1 (by simp)
  have c2 : W.cell? ⟨gp, 2, none⟩ = some (.int .i64 z) := bp.cell 2 (by simp)
  have hmo := hM.most
  obtain ⟨k, rfl⟩ : ∃ k : Nat, at' = (k : Int) := ⟨at'.toNat, by omega⟩
  have HE : Hid (pkS (C, nx) (d, (k : Int), z) = (C, nx) ∧ pkO (C, nx) (d, (k : Int), z) = (0, [], 18, (k : Int))) := by
    subst hd
    refine ⟨?_, ?_⟩
    · unfold pkS
      dsimp only
      rw [if_pos rfl, if_pos hc, show ((k : Int).toNat) = k from rfl, show viW (nth C k) = nth C k from by { unfold viW; exact if_pos hw }, set_nth]
      try rfl
    · unfold pkO
      dsimp only
      rw [if_pos rfl, if_pos hc, if_pos hw]
      try rfl
  rw [HE.out.1, HE.out.2] at HQ
  clear HE
  subst hd
  have hkl : k < C.length := by omega
  have hkl' : (k : Int) < (C.length : Int) := by omega
  have hcl := hM.row.cell k hkl
  have hcf := hM.row.free k
  have hxc := hM.code k hkl
  have hMe := fun wz => rmend_any (nth C k : Nat) wz
  obtain ⟨m1, m2, m3⟩ := md_ok (z := (nth C k : Nat)) ⟨by omega, by omega⟩
  rw [m1, m2, m3, Int.toNat_natCast] at hMe
  clear m1 m2 m3
  have hgx := bx.lt
  have e : ((riE (nth C k) : Nat) : Int) = 18 := by unfold riE; rw [if_pos (show wrW (nth C k) = 2 from hw)]; rfl
  rw [e] at hMe
  clear e
  generalize (wrW (nth C k) == 1) = bb at hMe
  generalize gaW (riW (nth C k)) 39 = y at hMe
  have x2 := bx.cell 2 (by simp)
  have xf2 := bx.free 2
  simp at x2
  have x3 := bx.cell 3 (by simp)
  have xf3 := bx.free 3
  simp at x3
  conv => enter [2]; whnf
  go_wp2_with (go_at_call 7; refine (hMe _).mono ?_; rintro e wT ⟨rfl, hwT⟩; have hwT := hwT.symm; subst hwT)
  go_region
  all_goals
    go_wp2
    (try simp only [Exit.inBlock, Exit.then])
    exact HQ.out _ none 0 0 ⟨((hM.grown (grown_set W gx 2 (.int .i64 18)) (by simp; exact fun e => hne.1 e.symm)).grown (grown_set (W.setCell ⟨gx, 2, none⟩ (.int .i64 18)) gx 3 (.int .i64 (k : Int))) (by simp; exact fun e => hne.1 e.symm)).grown (grown_drew _ none) (by simp), ((bx.set 2 (.int .i64 18)).set 3 (.int .i64 (k : Int))).keep (grown_drew _ none) (by simp), ansZ_nil _ _, ((Frm.of (p := fun k => k = gc ∨ k = gx) (grown_set W gx 2 (.int .i64 18)) (fun k e _ => .inr (Option.some.inj e).symm)).trans (Frm.of (p := fun k => k = gc ∨ k = gx) (grown_set (W.setCell ⟨gx, 2, none⟩ (.int .i64 18)) gx 3 (.int .i64 (k : Int))) (fun k e _ => .inr (Option.some.inj e).symm)) (fun _ _ h => h)).trans (Frm.of (p := fun k => k = gc ∨ k = gx) (grown_drew _ none) (fun k e _ => by cases e)) (fun _ _ h => h)⟩
set_option maxHeartbeats 16000000 in
theorem pr_1g0 {u1 u2 u3 u4 u5 u8 u9 u13 u14 u15 u16 u17 u18 u19 u20 u21 u22 u23 u24 u25 u26 u27 u28 u29 u30 u31 u32 u33 u34 u35 u36 u37 u38 u39 u40 u41 u42 u43 u44 u45 u46 u47 u48 u49 u50 u51 u52 u53 u54 u55 u56 u57 u58 u59 u60 u61 u62 u63 u64 u65 u66 u67 u68 u69 u70 u71 u72 u73 u74 u75 u76 u77 u78 u79 u80 u81 u82 u83 u84 u85 u86 u87 u88 u89 u90 u91 u92 u93 u94 u95 u96 u97 u98 u99 u100 u101 u102 u103 u104 u105 u106 u107 u108 u109 u110 u111 u112 u113 u114 u115 u116 u117 u118 u119 u120 u121 u122 u123 u124 u125 u126 u127 u128 u129 u130 u131 u132 u133 u134 u135 u136 u137 u138 u139 u140 u141 u142 u143 u144 u145 u146 u147 u148 u149 u150 u151 u152 u153 u154 u155 u156 u157 u158 u159 u160 u161 u162 u163 u164 u165 u166 u167 u168 u169 u170 u171 u172 u173 u174 u175 u176 u177 u178 u179 u180 u181 u182 u183 u184 u185 u186 u187 u188 u189 u190 u191 u192 u193 u194 u195 u196 u197 u198 u199 u200 u201 u202 u203 u204 u205 u206 u207 u208 u209 u210 u211 u212 u213 u214 u215 u216 : Value} {Q : Exit → Act → World → Prop} (W : World) (gc gp gx : Nat) (C : List Nat) (nx : Nat) (d at' z : Int) (hM : MmR W gc nx C) (bp : BxS W gp 33 #[.int .i64 d, .int .i64 at', .int .i64 z]) (bx : BxS W gx 29 #[.int .i64 0, .slice none 0 0, .int .i64 0, .int .i64 0]) (hne : gx ≠ gc ∧ gp ≠ gc ∧ gp ≠ gx)
    (hPn : ∀ c (a1 a2 : Act) w, a1.defers = a2.defers → Q (.panic c) a1 w → Q (.panic c) a2 w) (hd : d = 1) (hc : 0 ≤ at' ∧ at' ≤ (C.length : Int) - 1) (hw : wrW (nth C at'.toNat) = 0)
    (hQ : ∀ W' a n c {z13 z14 z15 z16 z17 z18 z19 z20 z21 z22 z23 z24 z25 z54 z55 z56 z57 z58 z59 z60 z61 z62 z63 z64 z65 z66 z67 z68 z69 z70 z71 z72 z73 z74 z75 z76 z77 z78 z79 z80 z81 z82 z83 z84 z85 z86 z87 z88 z89 z90 z91 z92 z93 z94 z95 z96 z97 z98 z99 z100 z101 z102 z103 z104 z105 z106 z107 z108 z109 z110 z111 z112 z113 z114 z115 z116 z117 z118 z119 z120 z121 z122 z123 z124 z125 z126 z127 z128 z129 z130 z131 z132 z133 z134 z135 z136 z137 z138 z139 z140 z141 z142 z143 z144 z145 z146 z147 z148 z149 z150 z151 z152 z153 z154 z155 z156 z157 z158 z159 z160 z161 z162 z163 z164 z165 z166 z167 z168 z169 z170 z171 z172 z173 z174 z175 z176 z177 z178 z179 z180 z181 z182 z183 z184 z185 z186 z187 z188 z189 z190 z191 z192 z193 z194 z195 z196 z197 z198 z199 z200 z201 z202 z203 z204 z205 z206 z207 z208 z209 z210 z211 : Value}, StR W W' gc gx (pkS (C, nx) (d, at', z)) a n c (pkO (C, nx) (d, at', z)) → Q .normal (Act.mk (List.toArray ((.int .i64 (C.length : Int)) :: u1 :: u2 :: u3 :: u4 :: u5 :: (.slice (some ⟨gc, 0, none⟩) C.length C.length) :: (.int .i64 ((pkS (C, nx) (d, at', z)).2 : Nat)) :: u8 :: u9 :: (.pointer (some ⟨gp, 0, none⟩)) :: (.pointer (some ⟨gx, 0, none⟩)) :: (.bool true) :: z13 :: z14 :: z15 :: z16 :: z17 :: z18 :: z19 :: z20 :: z21 :: z22 :: z23 :: z24 :: z25 :: u26 :: u27 :: u28 :: u29 :: u30 :: u31 :: u32 :: u33 :: u34 :: u35 :: u36 :: u37 :: u38 :: u39 :: u40 :: u41 :: u42 :: u43 :: u44 :: u45 :: u46 :: u47 :: u48 :: u49 :: u50 :: u51 :: u52 :: u53 :: z54 :: z55 :: z56 :: z57 :: z58 :: z59 :: z60 :: z61 :: z62 :: z63 :: z64 :: z65 :: z66 :: z67 :: z68 :: z69 :: z70 :: z71 :: z72 :: z73 :: z74 :: z75 :: z76 :: z77 :: z78 :: z79 :: z80 :: z81 :: z82 :: z83 :: z84 :: z85 :: z86 :: z87 :: z88 :: z89 :: z90 :: z91 :: z92 :: z93 :: z94 :: z95 :: z96 :: z97 :: z98 :: z99 :: z100 :: z101 :: z102 :: z103 :: z104 :: z105 :: z106 :: z107 :: z108 :: z109 :: z110 :: z111 :: z112 :: z113 :: z114 :: z115 :: z116 :: z117 :: z118 :: z119 :: z120 :: z121 :: z122 :: z123 :: z124 :: z125 :: z126 :: z127 :: z128 :: z129 :: z130 :: z131 :: z132 :: z133 :: z134 :: z135 :: z136 :: z137 :: z138 :: z139 :: z140 :: z141 :: z142 :: z143 :: z144 :: z145 :: z146 :: z147 :: z148 :: z149 :: z150 :: z151 :: z152 :: z153 :: z154 :: z155 :: z156 :: z157 :: z158 :: z159 :: z160 :: z161 :: z162 :: z163 :: z164 :: z165 :: z166 :: z167 :: z168 :: z169 :: z170 :: z171 :: z172 :: z173 :: z174 :: z175 :: z176 :: z177 :: z178 :: z179 :: z180 :: z181 :: z182 :: z183 :: z184 :: z185 :: z186 :: z187 :: z188 :: z189 :: z190 :: z191 :: z192 :: z193 :: z194 :: z195 :: z196 :: z197 :: z198 :: z199 :: z200 :: z201 :: z202 :: z203 :: z204 :: z205 :: z206 :: z207 :: z208 :: z209 :: z210 :: z211 :: u212 :: u213 :: u214 :: u215 :: u216 :: [])) []) W') :
    Code.wp Tryd.prog (headM (tailR 12 (Tryd.f4.body.getD .skip))) Q (Act.mk (List.toArray ((.int .i64 (C.length : Int)) :: u1 :: u2 :: u3 :: u4 :: u5 :: (.slice (some ⟨gc, 0, none⟩) C.length C.length) :: (.int .i64 (nx : Int)) :: u8 :: u9 :: (.pointer (some ⟨gp, 0, none⟩)) :: (.pointer (some ⟨gx, 0, none⟩)) :: (.bool true) :: u13 :: u14 :: u15 :: u16 :: u17 :: u18 :: u19 :: u20 :: u21 :: u22 :: u23 :: u24 :: u25 :: u26 :: u27 :: u28 :: u29 :: u30 :: u31 :: u32 :: u33 :: u34 :: u35 :: u36 :: u37 :: u38 :: u39 :: u40 :: u41 :: u42 :: u43 :: u44 :: u45 :: u46 :: u47 :: u48 :: u49 :: u50 :: u51 :: u52 :: u53 :: u54 :: u55 :: u56 :: u57 :: u58 :: u59 :: u60 :: u61 :: u62 :: u63 :: u64 :: u65 :: u66 :: u67 :: u68 :: u69 :: u70 :: u71 :: u72 :: u73 :: u74 :: u75 :: u76 :: u77 :: u78 :: u79 :: u80 :: u81 :: u82 :: u83 :: u84 :: u85 :: u86 :: u87 :: u88 :: u89 :: u90 :: u91 :: u92 :: u93 :: u94 :: u95 :: u96 :: u97 :: u98 :: u99 :: u100 :: u101 :: u102 :: u103 :: u104 :: u105 :: u106 :: u107 :: u108 :: u109 :: u110 :: u111 :: u112 :: u113 :: u114 :: u115 :: u116 :: u117 :: u118 :: u119 :: u120 :: u121 :: u122 :: u123 :: u124 :: u125 :: u126 :: u127 :: u128 :: u129 :: u130 :: u131 :: u132 :: u133 :: u134 :: u135 :: u136 :: u137 :: u138 :: u139 :: u140 :: u141 :: u142 :: u143 :: u144 :: u145 :: u146 :: u147 :: u148 :: u149 :: u150 :: u151 :: u152 :: u153 :: u154 :: u155 :: u156 :: u157 :: u158 :: u159 :: u160 :: u161 :: u162 :: u163 :: u164 :: u165 :: u166 :: u167 :: u168 :: u169 :: u170 :: u171 :: u172 :: u173 :: u174 :: u175 :: u176 :: u177 :: u178 :: u179 :: u180 :: u181 :: u182 :: u183 :: u184 :: u185 :: u186 :: u187 :: u188 :: u189 :: u190 :: u191 :: u192 :: u193 :: u194 :: u195 :: u196 :: u197 :: u198 :: u199 :: u200 :: u201 :: u202 :: u203 :: u204 :: u205 :: u206 :: u207 :: u208 :: u209 :: u210 :: u211 :: u212 :: u213 :: u214 :: u215 :: u216 :: [])) []) W := by
  have HQ : Hid _ := @hQ
  clear hQ
  have c0 : W.cell? ⟨gp, 0, none⟩ = some (.int .i64 d) := bp.cell 0 (by simp)
  have c1 : W.cell? ⟨gp, 1, none⟩ = some (.int .i64 at') := bp.cell 1 (by simp)
  have c2 : W.cell? ⟨gp, 2, none⟩ = some (.int .i64 z) := bp.cell 2 (by simp)
  have hmo := hM.most
  obtain ⟨k, rfl⟩ : ∃ k : Nat, at' = (k : Int) := ⟨at'.toNat, by omega⟩
  have hw2 : ¬ wrW (nth C k) = 2 := by have hw : wrW (nth C k) = 0 := hw; omega
  have HE : Hid (pkS (C, nx) (d, (k : Int), z) = (C.set k (riW (nth C k)), nx) ∧ pkO (C, nx) (d, (k : Int), z) = (((gaW (riW (nth C k)) 39 : Nat) : Int), [], 0, 0)) := by
    subst hd
    refine ⟨?_, ?_⟩
    · unfold pkS
      dsimp only
      rw [if_pos rfl, if_pos hc, show ((k : Int).toNat) = k from rfl, show viW (nth C k) = riW (nth C k) from by { unfold viW; exact if_neg hw2 }]
      try rfl
    · unfold pkO
      dsimp only
      rw [if_pos rfl, if_pos hc, show ((k : Int).toNat) = k from rfl, if_neg hw2]
      try rfl
  rw [HE.out.1, HE.out.2] at HQ
  clear HE
  subst hd
  have hkl : k < C.length := by omega
  have hkl' : (k : Int) < (C.length : Int) := by omega
  have hcl := hM.row.cell k hkl
  have hcf := hM.row.free k
  have hxc := hM.code k hkl
  have hMe := fun wz => rmend_any (nth C k : Nat) wz
  obtain ⟨m1, m2, m3⟩ := md_ok (z := (nth C k : Nat)) ⟨by omega, by omega⟩
  rw [m1, m2, m3, Int.toNat_natCast] at hMe
  clear m1 m2 m3
  have hgx := bx.lt
  have e : ((riE (nth C k) : Nat) : Int) = 0 := by unfold riE; rw [if_neg hw2]; rfl
  have e2 : (wrW (nth C k) == 1) = false := by have hw : wrW (nth C k) = 0 := hw; rw [hw]; rfl
  rw [e, e2] at hMe
  have x0 := bx.cell 0 (by simp)
  have xf0 := bx.free 0
  simp at x0
  have er : riW (nth C k) = nth C k := ri_same _ (by have hw : wrW (nth C k) = 0 := hw; exact hw)
  rw [er, set_nth] at HQ
  rw [er] at hMe
  clear e e2 er hw hw2
  generalize gaW (nth C k) 39 = y at hMe HQ
  conv => enter [2]; whnf
  go_wp2_with (go_at_call 7; refine (hMe _).mono ?_; rintro e wT ⟨rfl, hwT⟩; have hwT := hwT.symm; subst hwT)
  (try simp only [Exit.inBlock, Exit.then])
  exact HQ.out _ none 0 0 ⟨hM.grown (grown_set W gx 0 (.int .i64 (y : Int))) (by simp; exact fun e => hne.1 e.symm), bx.set 0 (.int .i64 (y : Int)), ansZ_nil _ _, Frm.of (p := fun k => k = gc ∨ k = gx) (grown_set W gx 0 (.int .i64 (y : Int))) (fun k e _ => .inr (Option.some.inj e).symm)⟩
set_option maxHeartbeats 16000000 in
theorem pr_1g1 {u1 u2 u3 u4 u5 u8 u9 u13 u14 u15 u16 u17 u18 u19 u20 u21 u22 u23 u24 u25 u26 u27 u28 u29 u30 u31 u32 u33 u34 u35 u36 u37 u38 u39 u40 u41 u42 u43 u44 u45 u46 u47 u48 u49 u50 u51 u52 u53 u54 u55 u56 u57 u58 u59 u60 u61 u62 u63 u64 u65 u66 u67 u68 u69 u70 u71 u72 u73 u74 u75 u76 u77 u78 u79 u80 u81 u82 u83 u84 u85 u86 u87 u88 u89 u90 u91 u92 u93 u94 u95 u96 u97 u98 u99 u100 u101 u102 u103 u104 u105 u106 u107 u108 u109 u110 u111 u112 u113 u114 u115 u116 u117 u118 u119 u120 u121 u122 u123 u124 u125 u126 u127 u128 u129 u130 u131 u132 u133 u134 u135 u136 u137 u138 u139 u140 u141 u142 u143 u144 u145 u146 u147 u148 u149 u150 u151 u152 u153 u154 u155 u156 u157 u158 u159 u160 u161 u162 u163 u164 u165 u166 u167 u168 u169 u170 u171 u172 u173 u174 u175 u176 u177 u178 u179 u180 u181 u182 u183 u184 u185 u186 u187 u188 u189 u190 u191 u192 u193 u194 u195 u196 u197 u198 u199 u200 u201 u202 u203 u204 u205 u206 u207 u208 u209 u210 u211 u212 u213 u214 u215 u216 : Value} {Q : Exit → Act → World → Prop} (W : World) (gc gp gx : Nat) (C : List Nat) (nx : Nat) (d at' z : Int) (hM : MmR W gc nx C) (bp : BxS W gp 33 #[.int .i64 d, .int .i64 at', .int .i64 z]) (bx : BxS W gx 29 #[.int .i64 0, .slice none 0 0, .int .i64 0, .int .i64 0]) (hne : gx ≠ gc ∧ gp ≠ gc ∧ gp ≠ gx)
    (hPn : ∀ c (a1 a2 : Act) w, a1.defers = a2.defers → Q (.panic c) a1 w → Q (.panic c) a2 w) (hd : d = 1) (hc : 0 ≤ at' ∧ at' ≤ (C.length : Int) - 1) (hw : wrW (nth C at'.toNat) = 1)
    (hQ : ∀ W' a n c {z13 z14 z15 z16 z17 z18 z19 z20 z21 z22 z23 z24 z25 z54 z55 z56 z57 z58 z59 z60 z61 z62 z63 z64 z65 z66 z67 z68 z69 z70 z71 z72 z73 z74 z75 z76 z77 z78 z79 z80 z81 z82 z83 z84 z85 z86 z87 z88 z89 z90 z91 z92 z93 z94 z95 z96 z97 z98 z99 z100 z101 z102 z103 z104 z105 z106 z107 z108 z109 z110 z111 z112 z113 z114 z115 z116 z117 z118 z119 z120 z121 z122 z123 z124 z125 z126 z127 z128 z129 z130 z131 z132 z133 z134 z135 z136 z137 z138 z139 z140 z141 z142 z143 z144 z145 z146 z147 z148 z149 z150 z151 z152 z153 z154 z155 z156 z157 z158 z159 z160 z161 z162 z163 z164 z165 z166 z167 z168 z169 z170 z171 z172 z173 z174 z175 z176 z177 z178 z179 z180 z181 z182 z183 z184 z185 z186 z187 z188 z189 z190 z191 z192 z193 z194 z195 z196 z197 z198 z199 z200 z201 z202 z203 z204 z205 z206 z207 z208 z209 z210 z211 : Value}, StR W W' gc gx (pkS (C, nx) (d, at', z)) a n c (pkO (C, nx) (d, at', z)) → Q .normal (Act.mk (List.toArray ((.int .i64 (C.length : Int)) :: u1 :: u2 :: u3 :: u4 :: u5 :: (.slice (some ⟨gc, 0, none⟩) C.length C.length) :: (.int .i64 ((pkS (C, nx) (d, at', z)).2 : Nat)) :: u8 :: u9 :: (.pointer (some ⟨gp, 0, none⟩)) :: (.pointer (some ⟨gx, 0, none⟩)) :: (.bool true) :: z13 :: z14 :: z15 :: z16 :: z17 :: z18 :: z19 :: z20 :: z21 :: z22 :: z23 :: z24 :: z25 :: u26 :: u27 :: u28 :: u29 :: u30 :: u31 :: u32 :: u33 :: u34 :: u35 :: u36 :: u37 :: u38 :: u39 :: u40 :: u41 :: u42 :: u43 :: u44 :: u45 :: u46 :: u47 :: u48 :: u49 :: u50 :: u51 :: u52 :: u53 :: z54 :: z55 :: z56 :: z57 :: z58 :: z59 :: z60 :: z61 :: z62 :: z63 :: z64 :: z65 :: z66 :: z67 :: z68 :: z69 :: z70 :: z71 :: z72 :: z73 :: z74 :: z75 :: z76 :: z77 :: z78 :: z79 :: z80 :: z81 :: z82 :: z83 :: z84 :: z85 :: z86 :: z87 :: z88 :: z89 :: z90 :: z91 :: z92 :: z93 :: z94 :: z95 :: z96 :: z97 :: z98 :: z99 :: z100 :: z101 :: z102 :: z103 :: z104 :: z105 :: z106 :: z107 :: z108 :: z109 :: z110 :: z111 :: z112 :: z113 :: z114 :: z115 :: z116 :: z117 :: z118 :: z119 :: z120 :: z121 :: z122 :: z123 :: z124 :: z125 :: z126 :: z127 :: z128 :: z129 :: z130 :: z131 :: z132 :: z133 :: z134 :: z135 :: z136 :: z137 :: z138 :: z139 :: z140 :: z141 :: z142 :: z143 :: z144 :: z145 :: z146 :: z147 :: z148 :: z149 :: z150 :: z151 :: z152 :: z153 :: z154 :: z155 :: z156 :: z157 :: z158 :: z159 :: z160 :: z161 :: z162 :: z163 :: z164 :: z165 :: z166 :: z167 :: z168 :: z169 :: z170 :: z171 :: z172 :: z173 :: z174 :: z175 :: z176 :: z177 :: z178 :: z179 :: z180 :: z181 :: z182 :: z183 :: z184 :: z185 :: z186 :: z187 :: z188 :: z189 :: z190 :: z191 :: z192 :: z193 :: z194 :: z195 :: z196 :: z197 :: z198 :: z199 :: z200 :: z201 :: z202 :: z203 :: z204 :: z205 :: z206 :: z207 :: z208 :: z209 :: z210 :: z211 :: u212 :: u213 :: u214 :: u215 :: u216 :: [])) []) W') :
    Code.wp Tryd.prog (headM (tailR 12 (Tryd.f4.body.getD .skip))) Q (Act.mk (List.toArray ((.int .i64 (C.length : Int)) :: u1 :: u2 :: u3 :: u4 :: u5 :: (.slice (some ⟨gc, 0, none⟩) C.length C.length) :: (.int .i64 (nx : Int)) :: u8 :: u9 :: (.pointer (some ⟨gp, 0, none⟩)) :: (.pointer (some ⟨gx, 0, none⟩)) :: (.bool true) :: u13 :: u14 :: u15 :: u16 :: u17 :: u18 :: u19 :: u20 :: u21 :: u22 :: u23 :: u24 :: u25 :: u26 :: u27 :: u28 :: u29 :: u30 :: u31 :: u32 :: u33 :: u34 :: u35 :: u36 :: u37 :: u38 :: u39 :: u40 :: u41 :: u42 :: u43 :: u44 :: u45 :: u46 :: u47 :: u48 :: u49 :: u50 :: u51 :: u52 :: u53 :: u54 :: u55 :: u56 :: u57 :: u58 :: u59 :: u60 :: u61 :: u62 :: u63 :: u64 :: u65 :: u66 :: u67 :: u68 :: u69 :: u70 :: u71 :: u72 :: u73 :: u74 :: u75 :: u76 :: u77 :: u78 :: u79 :: u80 :: u81 :: u82 :: u83 :: u84 :: u85 :: u86 :: u87 :: u88 :: u89 :: u90 :: u91 :: u92 :: u93 :: u94 :: u95 :: u96 :: u97 :: u98 :: u99 :: u100 :: u101 :: u102 :: u103 :: u104 :: u105 :: u106 :: u107 :: u108 :: u109 :: u110 :: u111 :: u112 :: u113 :: u114 :: u115 :: u116 :: u117 :: u118 :: u119 :: u120 :: u121 :: u122 :: u123 :: u124 :: u125 :: u126 :: u127 :: u128 :: u129 :: u130 :: u131 :: u132 :: u133 :: u134 :: u135 :: u136 :: u137 :: u138 :: u139 :: u140 :: u141 :: u142 :: u143 :: u144 :: u145 :: u146 :: u147 :: u148 :: u149 :: u150 :: u151 :: u152 :: u153 :: u154 :: u155 :: u156 :: u157 :: u158 :: u159 :: u160 :: u161 :: u162 :: u163 :: u164 :: u165 :: u166 :: u167 :: u168 :: u169 :: u170 :: u171 :: u172 :: u173 :: u174 :: u175 :: u176 :: u177 :: u178 :: u179 :: u180 :: u181 :: u182 :: u183 :: u184 :: u185 :: u186 :: u187 :: u188 :: u189 :: u190 :: u191 :: u192 :: u193 :: u194 :: u195 :: u196 :: u197 :: u198 :: u199 :: u200 :: u201 :: u202 :: u203 :: u204 :: u205 :: u206 :: u207 :: u208 :: u209 :: u210 :: u211 :: u212 :: u213 :: u214 :: u215 :: u216 :: [])) []) W := by
  have HQ : Hid _ := @hQ
  clear hQ
  have c0 : W.cell? ⟨gp, 0, none⟩ = some (.int .i64 d) := bp.cell 0 (by simp)
  have c1 : W.cell? ⟨gp, 1, none⟩ = some (.int .i64 at') := bp.cell 1 (by simp)
  have c2 : W.cell? ⟨gp, 2, none⟩ = some (.int .i64 z) := bp.cell 2 (by simp)
  have hmo := hM.most
  obtain ⟨k, rfl⟩ : ∃ k : Nat, at' = (k : Int) := ⟨at'.toNat, by omega⟩
  have hw2 : ¬ wrW (nth C k) = 2 := by have hw : wrW (nth C k) = 1 := hw; omega
  have HE : Hid (pkS (C, nx) (d, (k : Int), z) = (C.set k (riW (nth C k)), nx) ∧ pkO (C, nx) (d, (k : Int), z) = (((gaW (riW (nth C k)) 39 : Nat) : Int), [], 0, 0)) := by
    subst hd
    refine ⟨?_, ?_⟩
    · unfold pkS
      dsimp only
      rw [if_pos rfl, if_pos hc, show ((k : Int).toNat) = k from rfl, show viW (nth C k) = riW (nth C k) from by { unfold viW; exact if_neg hw2 }]
      try rfl
    · unfold pkO
      dsimp only
      rw [if_pos rfl, if_pos hc, show ((k : Int).toNat) = k from rfl, if_neg hw2]
      try rfl
  rw [HE.out.1, HE.out.2] at HQ
  clear HE
  subst hd
  have hkl : k < C.length := by omega
  have hkl' : (k : Int) < (C.length : Int) := by omega
  have hcl := hM.row.cell k hkl
  have hcf := hM.row.free k
  have hxc := hM.code k hkl
  have hMe := fun wz => rmend_any (nth C k : Nat) wz
  obtain ⟨m1, m2, m3⟩ := md_ok (z := (nth C k : Nat)) ⟨by omega, by omega⟩
  rw [m1, m2, m3, Int.toNat_natCast] at hMe
  clear m1 m2 m3
  have hgx := bx.lt
  have e : ((riE (nth C k) : Nat) : Int) = 0 := by unfold riE; rw [if_neg hw2]; rfl
  have e2 : (wrW (nth C k) == 1) = true := by have hw : wrW (nth C k) = 1 := hw; rw [hw]; rfl
  rw [e, e2] at hMe
  have x0 := bx.cell 0 (by simp)
  have xf0 := bx.free 0
  simp at x0
  have hq := ri_code (nth C k) hxc hw2
  have hl := riW_lt _ hxc
  have hyl : gaW (riW (nth C k)) 39 < 4294967296 := by
    have := gaW_lt (riW (nth C k)) 39
    rwa [show cntW 39 = 32 by decide +kernel] at this
  have hC := fun wz => rcode_any ((gaW (riW (nth C k)) 39 : Nat) : Int) wz
  obtain ⟨q1, q2⟩ := cdE_ok (z := ((gaW (riW (nth C k)) 39 : Nat) : Int)) ⟨by omega, by omega⟩
  rw [q1, q2, Int.toNat_natCast, hq] at hC
  have hMs := hM.set k (riW (nth C k)) hl
  clear e e2 hw hw2 hq q1 q2
  generalize gaW (riW (nth C k)) 39 = y at hMe HQ hC hyl
  generalize riW (nth C k) = X at HQ hC hMs hl
  conv => enter [2]; whnf
  go_upto_region 20 with (go_at_call 7; refine (hMe _).mono ?_; rintro e wT ⟨rfl, hwT⟩; have hwT := hwT.symm; subst hwT)
  have e1 : W.drew.cell? ⟨gp, 1, none⟩ = some (.int .i64 (k : Int)) := c1
  have e2 : W.drew.cell? ⟨gc, k, none⟩ = some (.int .i64 (nth C k : Nat)) := hcl
  have e3 : W.drew.frozen? ⟨gc, k, none⟩ = false := hcf
  refine wp_regionM (fun wz => wz = W.drew) [9] #[false, false, false, false, false, false, false, false, false, false] rfl (by kernel_rfl) ?_
  try simp only [List.getElem_toArray, List.getElem_cons_succ, List.getElem_cons_zero, Act.put, List.setIfInBounds_toArray, List.set_cons_zero, List.set_cons_succ]
  refine wpAnyY_takeF 0 (.slice (some ⟨gc, 0, none⟩) C.length C.length) rfl (by kernel_rfl) (fun _ _ _ h => hPn _ _ _ _ (by rfl) h) rfl (by intro wz; go_simp; try rfl) ?_
  try simp only [List.getElem_toArray, List.getElem_cons_succ, List.getElem_cons_zero, Act.put, List.setIfInBounds_toArray, List.set_cons_zero, List.set_cons_succ]
  refine wpAnyY_takeF 1 (.pointer (some ⟨gp, 1, none⟩)) rfl (by kernel_rfl) (fun _ _ _ h => hPn _ _ _ _ (by rfl) h) rfl (by intro wz; go_simp; try rfl) ?_
  try simp only [List.getElem_toArray, List.getElem_cons_succ, List.getElem_cons_zero, Act.put, List.setIfInBounds_toArray, List.set_cons_zero, List.set_cons_succ]
  refine wpAnyY_take [9] 2 (.int .i64 (k : Int)) rfl (by kernel_rfl) (fun _ _ _ h => hPn _ _ _ _ (by rfl) h) rfl rfl (by rintro wz rfl; go_simp) ?_
  try simp only [List.getElem_toArray, List.getElem_cons_succ, List.getElem_cons_zero, Act.put, List.setIfInBounds_toArray, List.set_cons_zero, List.set_cons_succ]
  refine wpAnyY_takeF 3 (.int .i64 (y : Int)) rfl (by kernel_rfl) (fun _ _ _ h => hPn _ _ _ _ (by rfl) h) rfl (by intro wz; go_simp; try rfl) ?_
  try simp only [List.getElem_toArray, List.getElem_cons_succ, List.getElem_cons_zero, Act.put, List.setIfInBounds_toArray, List.set_cons_zero, List.set_cons_succ]
  refine wpAnyY_oneB 4 rfl (by kernel_rfl) (fun KK hKK => ?_)
  go_simp
  go_at_call 8
  refine (hC _).mono ?_
  rintro e wT ⟨rfl, hwT⟩
  have hwT := hwT.symm
  subst hwT
  dsimp only
  refine hKK _ _ (fun h _ => h) ?_
  try simp only [List.getElem_toArray, List.getElem_cons_succ, List.getElem_cons_zero, Act.put, List.setIfInBounds_toArray, List.set_cons_zero, List.set_cons_succ]
  refine wpAnyY_takeF 5 (.tuple #[.int .i64 (X : Int), .int .i64 0]) rfl (by kernel_rfl) (fun _ _ _ h => hPn _ _ _ _ (by rfl) h) rfl (by intro wz; go_simp; try rfl) ?_
  try simp only [List.getElem_toArray, List.getElem_cons_succ, List.getElem_cons_zero, Act.put, List.setIfInBounds_toArray, List.set_cons_zero, List.set_cons_succ]
  refine wpAnyY_takeF 6 (.int .i64 (X : Int)) rfl (by kernel_rfl) (fun _ _ _ h => hPn _ _ _ _ (by rfl) h) rfl (by intro wz; go_simp; try rfl) ?_
  try simp only [List.getElem_toArray, List.getElem_cons_succ, List.getElem_cons_zero, Act.put, List.setIfInBounds_toArray, List.set_cons_zero, List.set_cons_succ]
  refine wpAnyY_takeF 7 (.int .i64 0) rfl (by kernel_rfl) (fun _ _ _ h => hPn _ _ _ _ (by rfl) h) rfl (by intro wz; go_simp; try rfl) ?_
  try simp only [List.getElem_toArray, List.getElem_cons_succ, List.getElem_cons_zero, Act.put, List.setIfInBounds_toArray, List.set_cons_zero, List.set_cons_succ]
  refine wpAnyY_takeF 8 (.pointer (some ⟨gc, k, none⟩)) rfl (by kernel_rfl) (fun _ _ _ h => hPn _ _ _ _ (by rfl) h) rfl (by intro wz; go_simp; try rfl) ?_
  try simp only [List.getElem_toArray, List.getElem_cons_succ, List.getElem_cons_zero, Act.put, List.setIfInBounds_toArray, List.set_cons_zero, List.set_cons_succ]
  refine wpAnyY_oneB 9 rfl (by kernel_rfl) (fun KK hKK => ?_)
  go_simp
  refine hKK _ _ (fun _ h => absurd (by decide) h) ?_
  try simp only [List.getElem_toArray, List.getElem_cons_succ, List.getElem_cons_zero, Act.put, List.setIfInBounds_toArray, List.set_cons_zero, List.set_cons_succ]
  refine wpAnyY_doneB (by kernel_rfl) ?_ _
  have gS := grown_trans (grown_set W gc k (.int .i64 (X : Int))) (grown_drew _ (some gc))
  have bx1 := bx.keep gS (by simp; exact hne.1)
  have hM1 := hMs.grown (grown_drew _ none) (by simp)
  clear x0 xf0 e1 e2 e3
  generalize (W.setCell ⟨gc, k, none⟩ (.int .i64 (X : Int))).drew = W1 at *
  have x0 := bx1.cell 0 (by simp)
  have xf0 := bx1.free 0
  simp at x0
  go_wp2
  (try simp only [Exit.inBlock, Exit.then])
  exact HQ.out _ none 0 0 ⟨hM1.grown (grown_set W1 gx 0 (.int .i64 (y : Int))) (by simp; exact fun e => hne.1 e.symm), bx1.set 0 (.int .i64 (y : Int)), ansZ_nil _ _, (Frm.of (p := fun k => k = gc ∨ k = gx) gS (fun k e _ => .inl (Option.some.inj e).symm)).trans (Frm.of (p := fun k => k = gc ∨ k = gx) (grown_set W1 gx 0 (.int .i64 (y : Int))) (fun k e _ => .inr (Option.some.inj e).symm)) (fun _ _ h => h)⟩
end
end Go.Proofs.YtgnicopijocnjaaDoor
