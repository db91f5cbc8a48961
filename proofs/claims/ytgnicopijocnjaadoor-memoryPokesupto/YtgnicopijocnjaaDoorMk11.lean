import Derived.Test.YtgnicopijocnjaaDoorMk10
namespace Go.Proofs.YtgnicopijocnjaaDoor
open Go.RowKit
set_option maxRecDepth 100000
set_option linter.unusedVariables false
set_option linter.unusedSimpArgs false

section
open Go.RowKit Go.Shelf


/-- the document's memory: the row of codes, the place that comes next -/
structure MmR (w : World) (gc nx : Nat) (C : List Nat) : Prop where
  row : BlZ w gc C
  code : ∀ k, k < C.length → nth C k < 549755813888
  one : 1 ≤ C.length
  most : C.length ≤ 4096
  next : nx < C.length
theorem BlZ.frmM {w w' : World} {p : Nat → Prop} {g : Nat} {L : List Nat} (h : BlZ w g L) (hF : Frm p w w') (hn : ¬ p g) : BlZ w' g L := (hF.block g h.lt hn).trans h
theorem MmR.frm {w w' : World} {p : Nat → Prop} {gc nx : Nat} {C : List Nat} (h : MmR w gc nx C) (hF : Frm p w w') (hn : ¬ p gc) : MmR w' gc nx C := ⟨h.row.frmM hF hn, h.code, h.one, h.most, h.next⟩
theorem MmR.grown {w w' : World} {gc nx : Nat} {C : List Nat} {r : Option Nat} (h : MmR w gc nx C) (hg : w.grownBy w' r) (hr : some gc ≠ r) : MmR w' gc nx C := ⟨h.row.grown hg hr, h.code, h.one, h.most, h.next⟩
theorem MmR.set {w : World} {gc nx : Nat} {C : List Nat} (h : MmR w gc nx C) (k x : Nat) (hx : x < 549755813888) : MmR (w.setCell ⟨gc, k, none⟩ (.int .i64 (x : Int))) gc nx (C.set k x) := by
  refine ⟨h.row.set k x, fun j hj => ?_, by rw [List.length_set]; exact h.one, by rw [List.length_set]; exact h.most, by rw [List.length_set]; exact h.next⟩
  rw [List.length_set] at hj
  by_cases hk : k < C.length
  · rw [nth_set _ _ _ _ hk]
    split
    · exact hx
    · exact h.code j hj
  · rw [List.set_eq_of_length_le (by omega)]
    exact h.code j hj
/-- what is so behind the switch -/
structure StR (W W' : World) (gc gx : Nat) (s : List Nat × Nat) (a : Option Addr) (n c : Nat) (o : Int × List Int × Int × Int) : Prop where
  mem : MmR W' gc s.2 s.1
  box : BxS W' gx 29 #[.int .i64 o.1, .slice a n c, .int .i64 o.2.2.1, .int .i64 o.2.2.2]
  own : AnsZ W' W.heap.size a n c o.2.1
  frm : Frm (fun k => k = gc ∨ k = gx) W W'
set_option maxHeartbeats 16000000 in
theorem pr_1b {u1 u2 u3 u4 u5 u8 u9 u13 u14 u15 u16 u17 u18 u19 u20 u21 u22 u23 u24 u25 u26 u27 u28 u29 u30 u31 u32 u33 u34 u35 u36 u37 u38 u39 u40 u41 u42 u43 u44 u45 u46 u47 u48 u49 u50 u51 u52 u53 u54 u55 u56 u57 u58 u59 u60 u61 u62 u63 u64 u65 u66 u67 u68 u69 u70 u71 u72 u73 u74 u75 u76 u77 u78 u79 u80 u81 u82 u83 u84 u85 u86 u87 u88 u89 u90 u91 u92 u93 u94 u95 u96 u97 u98 u99 u100 u101 u102 u103 u104 u105 u106 u107 u108 u109 u110 u111 u112 u113 u114 u115 u116 u117 u118 u119 u120 u121 u122 u123 u124 u125 u126 u127 u128 u129 u130 u131 u132 u133 u134 u135 u136 u137 u138 u139 u140 u141 u142 u143 u144 u145 u146 u147 u148 u149 u150 u151 u152 u153 u154 u155 u156 u157 u158 u159 u160 u161 u162 u163 u164 u165 u166 u167 u168 u169 u170 u171 u172 u173 u174 u175 u176 u177 u178 u179 u180 u181 u182 u183 u184 u185 u186 u187 u188 u189 u190 u191 u192 u193 u194 u195 u196 u197 u198 u199 u200 u201 u202 u203 u204 u205 u206 u207 u208 u209 u210 u211 u212 u213 u214 u215 u216 : Value} {Q : Exit → Act → World → Prop} (W : World) (gc gp gx : Nat) (C : List Nat) (nx : Nat) (d at' z : Int) (hM : MmR W gc nx C) (bp : BxS W gp 33 #[.int .i64 d, .int .i64 at', .int .i64 z]) (bx : BxS W gx 29 #[.int .i64 0, .slice none 0 0, .int .i64 0, .int .i64 0]) (hne : gx ≠ gc ∧ gp ≠ gc ∧ gp ≠ gx)
    (hPn : ∀ c (a1 a2 : Act) w, a1.defers = a2.defers → Q (.panic c) a1 w → Q (.panic c) a2 w) (hd : d = 1) (hc : ¬ (0 ≤ at' ∧ at' ≤ (C.length : Int) - 1))
    (hQ : ∀ W' a n c {z13 z14 z15 z16 z17 z18 z19 z20 z21 z22 z23 z24 z25 z54 z55 z56 z57 z58 z59 z60 z61 z62 z63 z64 z65 z66 z67 z68 z69 z70 z71 z72 z73 z74 z75 z76 z77 z78 z79 z80 z81 z82 z83 z84 z85 z86 z87 z88 z89 z90 z91 z92 z93 z94 z95 z96 z97 z98 z99 z100 z101 z102 z103 z104 z105 z106 z107 z108 z109 z110 z111 z112 z113 z114 z115 z116 z117 z118 z119 z120 z121 z122 z123 z124 z125 z126 z127 z128 z129 z130 z131 z132 z133 z134 z135 z136 z137 z138 z139 z140 z141 z142 z143 z144 z145 z146 z147 z148 z149 z150 z151 z152 z153 z154 z155 z156 z157 z158 z159 z160 z161 z162 z163 z164 z165 z166 z167 z168 z169 z170 z171 z172 z173 z174 z175 z176 z177 z178 z179 z180 z181 z182 z183 z184 z185 z186 z187 z188 z189 z190 z191 z192 z193 z194 z195 z196 z197 z198 z199 z200 z201 z202 z203 z204 z205 z206 z207 z208 z209 z210 z211 : Value}, StR W W' gc gx (pkS (C, nx) (d, at', z)) a n c (pkO (C, nx) (d, at', z)) → Q .normal (Act.mk (List.toArray ((.int .i64 (C.length : Int)) :: u1 :: u2 :: u3 :: u4 :: u5 :: (.slice (some ⟨gc, 0, none⟩) C.length C.length) :: (.int .i64 ((pkS (C, nx) (d, at', z)).2 : Nat)) :: u8 :: u9 :: (.pointer (some ⟨gp, 0, none⟩)) :: (.pointer (some ⟨gx, 0, none⟩)) :: (.bool false) :: z13 :: z14 :: z15 :: z16 :: z17 :: z18 :: z19 :: z20 :: z21 :: z22 :: z23 :: z24 :: z25 :: u26 :: u27 :: u28 :: u29 :: u30 :: u31 :: u32 :: u33 :: u34 :: u35 :: u36 :: u37 :: u38 :: u39 :: u40 :: u41 :: u42 :: u43 :: u44 :: u45 :: u46 :: u47 :: u48 :: u49 :: u50 :: u51 :: u52 :: u53 :: z54 :: z55 :: z56 :: z57 :: z58 :: z59 :: z60 :: z61 :: z62 :: z63 :: z64 :: z65 :: z66 :: z67 :: z68 :: z69 :: z70 :: z71 :: z72 :: z73 :: z74 :: z75 :: z76 :: z77 :: z78 :: z79 :: z80 :: z81 :: z82 :: z83 :: z84 :: z85 :: z86 :: z87 :: z88 :: z89 :: z90 :: z91 :: z92 :: z93 :: z94 :: z95 :: z96 :: z97 :: z98 :: z99 :: z100 :: z101 :: z102 :: z103 :: z104 :: z105 :: z106 :: z107 :: z108 :: z109 :: z110 :: z111 :: z112 :: z113 :: z114 :: z115 :: z116 :: z117 :: z118 :: z119 :: z120 :: z121 :: z122 :: z123 :: z124 :: z125 :: z126 :: z127 :: z128 :: z129 :: z130 :: z131 :: z132 :: z133 :: z134 :: z135 :: z136 :: z137 :: z138 :: z139 :: z140 :: z141 :: z142 :: z143 :: z144 :: z145 :: z146 :: z147 :: z148 :: z149 :: z150 :: z151 :: z152 :: z153 :: z154 :: z155 :: z156 :: z157 :: z158 :: z159 :: z160 :: z161 :: z162 :: z163 :: z164 :: z165 :: z166 :: z167 :: z168 :: z169 :: z170 :: z171 :: z172 :: z173 :: z174 :: z175 :: z176 :: z177 :: z178 :: z179 :: z180 :: z181 :: z182 :: z183 :: z184 :: z185 :: z186 :: z187 :: z188 :: z189 :: z190 :: z191 :: z192 :: z193 :: z194 :: z195 :: z196 :: z197 :: z198 :: z199 :: z200 :: z201 :: z202 :: z203 :: z204 :: z205 :: z206 :: z207 :: z208 :: z209 :: z210 :: z211 :: u212 :: u213 :: u214 :: u215 :: u216 :: [])) []) W') :
    Code.wp Tryd.prog (headM (tailR 12 (Tryd.f4.body.getD .skip))) Q (Act.mk (List.toArray ((.int .i64 (C.length : Int)) :: u1 :: u2 :: u3 :: u4 :: u5 :: (.slice (some ⟨gc, 0, none⟩) C.length C.length) :: (.int .i64 (nx : Int)) :: u8 :: u9 :: (.pointer (some ⟨gp, 0, none⟩)) :: (.pointer (some ⟨gx, 0, none⟩)) :: (.bool false) :: u13 :: u14 :: u15 :: u16 :: u17 :: u18 :: u19 :: u20 :: u21 :: u22 :: u23 :: u24 :: u25 :: u26 :: u27 :: u28 :: u29 :: u30 :: u31 :: u32 :: u33 :: u34 :: u35 :: u36 :: u37 :: u38 :: u39 :: u40 :: u41 :: u42 :: u43 :: u44 :: u45 :: u46 :: u47 :: u48 :: u49 :: u50 :: u51 :: u52 :: u53 :: u54 :: u55 :: u56 :: u57 :: u58 :: u59 :: u60 :: u61 :: u62 :: u63 :: u64 :: u65 :: u66 :: u67 :: u68 :: u69 :: u70 :: u71 :: u72 :: u73 :: u74 :: u75 :: u76 :: u77 :: u78 :: u79 :: u80 :: u81 :: u82 :: u83 :: u84 :: u85 :: u86 :: u87 :: u88 :: u89 :: u90 :: u91 :: u92 :: u93 :: u94 :: u95 :: u96 :: u97 :: u98 :: u99 :: u100 :: u101 :: u102 :: u103 :: u104 :: u105 :: u106 :: u107 :: u108 :: u109 :: u110 :: u111 :: u112 :: u113 :: u114 :: u115 :: u116 :: u117 :: u118 :: u119 :: u120 :: u121 :: u122 :: u123 :: u124 :: u125 :: u126 :: u127 :: u128 :: u129 :: u130 :: u131 :: u132 :: u133 :: u134 :: u135 :: u136 :: u137 :: u138 :: u139 :: u140 :: u141 :: u142 :: u143 :: u144 :: u145 :: u146 :: u147 :: u148 :: u149 :: u150 :: u151 :: u152 :: u153 :: u154 :: u155 :: u156 :: u157 :: u158 :: u159 :: u160 :: u161 :: u162 :: u163 :: u164 :: u165 :: u166 :: u167 :: u168 :: u169 :: u170 :: u171 :: u172 :: u173 :: u174 :: u175 :: u176 :: u177 :: u178 :: u179 :: u180 :: u181 :: u182 :: u183 :: u184 :: u185 :: u186 :: u187 :: u188 :: u189 :: u190 :: u191 :: u192 :: u193 :: u194 :: u195 :: u196 :: u197 :: u198 :: u199 :: u200 :: u201 :: u202 :: u203 :: u204 :: u205 :: u206 :: u207 :: u208 :: u209 :: u210 :: u211 :: u212 :: u213 :: u214 :: u215 :: u216 :: [])) []) W := by
  have HQ : Hid _ := @hQ
  clear hQ
  have c0 : W.cell? ⟨gp, 0, none⟩ = some (.int .i64 d) := bp.cell 0 (by simp)
  have c1 : W.cell? ⟨gp, 1, none⟩ = some (.int .i64 at') := bp.cell 1 (by simp)
  have c2 : W.cell? ⟨gp, 2, none⟩ = some (.int .i64 z) := bp.cell 2 (by simp)
  have hmo := hM.most
  have HE : Hid (pkS (C, nx) (d, at', z) = (C, nx) ∧ pkO (C, nx) (d, at', z) = (0, [], 2, 0)) := by
    subst hd
    refine ⟨?_, ?_⟩
    · unfold pkS
      dsimp only
      rw [if_pos rfl, if_neg hc]
      try rfl
    · unfold pkO
      dsimp only
      rw [if_pos rfl, if_neg hc]
      try rfl
  rw [HE.out.1, HE.out.2] at HQ
  clear HE
  subst hd
  have x2 := bx.cell 2 (by simp)
  have xf2 := bx.free 2
  simp at x2
  conv => enter [2]; whnf
  go_wp2
  (try simp only [Exit.inBlock, Exit.then])
  exact HQ.out _ none 0 0 ⟨hM.grown (grown_set W gx 2 (.int .i64 2)) (by simp; exact fun e => hne.1 e.symm), bx.set 2 (.int .i64 2), ansZ_nil _ _, Frm.of (p := fun k => k = gc ∨ k = gx) (grown_set W gx 2 (.int .i64 2)) (fun k e _ => .inr (Option.some.inj e).symm)⟩
set_option maxHeartbeats 16000000 in
theorem pr_2b {u1 u2 u3 u4 u5 u8 u9 u13 u14 u15 u16 u17 u18 u19 u20 u21 u22 u23 u24 u25 u26 u27 u28 u29 u30 u31 u32 u33 u34 u35 u36 u37 u38 u39 u40 u41 u42 u43 u44 u45 u46 u47 u48 u49 u50 u51 u52 u53 u54 u55 u56 u57 u58 u59 u60 u61 u62 u63 u64 u65 u66 u67 u68 u69 u70 u71 u72 u73 u74 u75 u76 u77 u78 u79 u80 u81 u82 u83 u84 u85 u86 u87 u88 u89 u90 u91 u92 u93 u94 u95 u96 u97 u98 u99 u100 u101 u102 u103 u104 u105 u106 u107 u108 u109 u110 u111 u112 u113 u114 u115 u116 u117 u118 u119 u120 u121 u122 u123 u124 u125 u126 u127 u128 u129 u130 u131 u132 u133 u134 u135 u136 u137 u138 u139 u140 u141 u142 u143 u144 u145 u146 u147 u148 u149 u150 u151 u152 u153 u154 u155 u156 u157 u158 u159 u160 u161 u162 u163 u164 u165 u166 u167 u168 u169 u170 u171 u172 u173 u174 u175 u176 u177 u178 u179 u180 u181 u182 u183 u184 u185 u186 u187 u188 u189 u190 u191 u192 u193 u194 u195 u196 u197 u198 u199 u200 u201 u202 u203 u204 u205 u206 u207 u208 u209 u210 u211 u212 u213 u214 u215 u216 : Value} {Q : Exit → Act → World → Prop} (W : World) (gc gp gx : Nat) (C : List Nat) (nx : Nat) (d at' z : Int) (hM : MmR W gc nx C) (bp : BxS W gp 33 #[.int .i64 d, .int .i64 at', .int .i64 z]) (bx : BxS W gx 29 #[.int .i64 0, .slice none 0 0, .int .i64 0, .int .i64 0]) (hne : gx ≠ gc ∧ gp ≠ gc ∧ gp ≠ gx)
    (hPn : ∀ c (a1 a2 : Act) w, a1.defers = a2.defers → Q (.panic c) a1 w → Q (.panic c) a2 w) (hd : d = 2) (hc : ¬ (0 ≤ at' ∧ at' ≤ (C.length : Int) - 1))
    (hQ : ∀ W' a n c {z13 z14 z15 z16 z17 z18 z19 z20 z21 z22 z23 z24 z25 z54 z55 z56 z57 z58 z59 z60 z61 z62 z63 z64 z65 z66 z67 z68 z69 z70 z71 z72 z73 z74 z75 z76 z77 z78 z79 z80 z81 z82 z83 z84 z85 z86 z87 z88 z89 z90 z91 z92 z93 z94 z95 z96 z97 z98 z99 z100 z101 z102 z103 z104 z105 z106 z107 z108 z109 z110 z111 z112 z113 z114 z115 z116 z117 z118 z119 z120 z121 z122 z123 z124 z125 z126 z127 z128 z129 z130 z131 z132 z133 z134 z135 z136 z137 z138 z139 z140 z141 z142 z143 z144 z145 z146 z147 z148 z149 z150 z151 z152 z153 z154 z155 z156 z157 z158 z159 z160 z161 z162 z163 z164 z165 z166 z167 z168 z169 z170 z171 z172 z173 z174 z175 z176 z177 z178 z179 z180 z181 z182 z183 z184 z185 z186 z187 z188 z189 z190 z191 z192 z193 z194 z195 z196 z197 z198 z199 z200 z201 z202 z203 z204 z205 z206 z207 z208 z209 z210 z211 : Value}, StR W W' gc gx (pkS (C, nx) (d, at', z)) a n c (pkO (C, nx) (d, at', z)) → Q .normal (Act.mk (List.toArray ((.int .i64 (C.length : Int)) :: u1 :: u2 :: u3 :: u4 :: u5 :: (.slice (some ⟨gc, 0, none⟩) C.length C.length) :: (.int .i64 ((pkS (C, nx) (d, at', z)).2 : Nat)) :: u8 :: u9 :: (.pointer (some ⟨gp, 0, none⟩)) :: (.pointer (some ⟨gx, 0, none⟩)) :: (.bool false) :: z13 :: z14 :: z15 :: z16 :: z17 :: z18 :: z19 :: z20 :: z21 :: z22 :: z23 :: z24 :: z25 :: u26 :: u27 :: u28 :: u29 :: u30 :: u31 :: u32 :: u33 :: u34 :: u35 :: u36 :: u37 :: u38 :: u39 :: u40 :: u41 :: u42 :: u43 :: u44 :: u45 :: u46 :: u47 :: u48 :: u49 :: u50 :: u51 :: u52 :: u53 :: z54 :: z55 :: z56 :: z57 :: z58 :: z59 :: z60 :: z61 :: z62 :: z63 :: z64 :: z65 :: z66 :: z67 :: z68 :: z69 :: z70 :: z71 :: z72 :: z73 :: z74 :: z75 :: z76 :: z77 :: z78 :: z79 :: z80 :: z81 :: z82 :: z83 :: z84 :: z85 :: z86 :: z87 :: z88 :: z89 :: z90 :: z91 :: z92 :: z93 :: z94 :: z95 :: z96 :: z97 :: z98 :: z99 :: z100 :: z101 :: z102 :: z103 :: z104 :: z105 :: z106 :: z107 :: z108 :: z109 :: z110 :: z111 :: z112 :: z113 :: z114 :: z115 :: z116 :: z117 :: z118 :: z119 :: z120 :: z121 :: z122 :: z123 :: z124 :: z125 :: z126 :: z127 :: z128 :: z129 :: z130 :: z131 :: z132 :: z133 :: z134 :: z135 :: z136 :: z137 :: z138 :: z139 :: z140 :: z141 :: z142 :: z143 :: z144 :: z145 :: z146 :: z147 :: z148 :: z149 :: z150 :: z151 :: z152 :: z153 :: z154 :: z155 :: z156 :: z157 :: z158 :: z159 :: z160 :: z161 :: z162 :: z163 :: z164 :: z165 :: z166 :: z167 :: z168 :: z169 :: z170 :: z171 :: z172 :: z173 :: z174 :: z175 :: z176 :: z177 :: z178 :: z179 :: z180 :: z181 :: z182 :: z183 :: z184 :: z185 :: z186 :: z187 :: z188 :: z189 :: z190 :: z191 :: z192 :: z193 :: z194 :: z195 :: z196 :: z197 :: z198 :: z199 :: z200 :: z201 :: z202 :: z203 :: z204 :: z205 :: z206 :: z207 :: z208 :: z209 :: z210 :: z211 :: u212 :: u213 :: u214 :: u215 :: u216 :: [])) []) W') :
    Code.wp Tryd.prog (headM (tailR 12 (Tryd.f4.body.getD .skip))) Q (Act.mk (List.toArray ((.int .i64 (C.length : Int)) :: u1 :: u2 :: u3 :: u4 :: u5 :: (.slice (some ⟨gc, 0, none⟩) C.length C.length) :: (.int .i64 (nx : Int)) :: u8 :: u9 :: (.pointer (some ⟨gp, 0, none⟩)) :: (.pointer (some ⟨gx, 0, none⟩)) :: (.bool false) :: u13 :: u14 :: u15 :: u16 :: u17 :: u18 :: u19 :: u20 :: u21 :: u22 :: u23 :: u24 :: u25 :: u26 :: u27 :: u28 :: u29 :: u30 :: u31 :: u32 :: u33 :: u34 :: u35 :: u36 :: u37 :: u38 :: u39 :: u40 :: u41 :: u42 :: u43 :: u44 :: u45 :: u46 :: u47 :: u48 :: u49 :: u50 :: u51 :: u52 :: u53 :: u54 :: u55 :: u56 :: u57 :: u58 :: u59 :: u60 :: u61 :: u62 :: u63 :: u64 :: u65 :: u66 :: u67 :: u68 :: u69 :: u70 :: u71 :: u72 :: u73 :: u74 :: u75 :: u76 :: u77 :: u78 :: u79 :: u80 :: u81 :: u82 :: u83 :: u84 :: u85 :: u86 :: u87 :: u88 :: u89 :: u90 :: u91 :: u92 :: u93 :: u94 :: u95 :: u96 :: u97 :: u98 :: u99 :: u100 :: u101 :: u102 :: u103 :: u104 :: u105 :: u106 :: u107 :: u108 :: u109 :: u110 :: u111 :: u112 :: u113 :: u114 :: u115 :: u116 :: u117 :: u118 :: u119 :: u120 :: u121 :: u122 :: u123 :: u124 :: u125 :: u126 :: u127 :: u128 :: u129 :: u130 :: u131 :: u132 :: u133 :: u134 :: u135 :: u136 :: u137 :: u138 :: u139 :: u140 :: u141 :: u142 :: u143 :: u144 :: u145 :: u146 :: u147 :: u148 :: u149 :: u150 :: u151 :: u152 :: u153 :: u154 :: u155 :: u156 :: u157 :: u158 :: u159 :: u160 :: u161 :: u162 :: u163 :: u164 :: u165 :: u166 :: u167 :: u168 :: u169 :: u170 :: u171 :: u172 :: u173 :: u174 :: u175 :: u176 :: u177 :: u178 :: u179 :: u180 :: u181 :: u182 :: u183 :: u184 :: u185 :: u186 :: u187 :: u188 :: u189 :: u190 :: u191 :: u192 :: u193 :: u194 :: u195 :: u196 :: u197 :: u198 :: u199 :: u200 :: u201 :: u202 :: u203 :: u204 :: u205 :: u206 :: u207 :: u208 :: u209 :: u210 :: u211 :: u212 :: u213 :: u214 :: u215 :: u216 :: [])) []) W := by
  have HQ : Hid _ := @hQ
  clear hQ
  have c0 : W.cell? ⟨gp, 0, none⟩ = some (.int .i64 d) := bp.cell 0 (by simp)
  have c1 : W.cell? ⟨gp, 1, none⟩ = some (.int .i64 at') := bp.cell 1 (by simp)
  have c2 : W.cell? ⟨gp, 2, none⟩ = some (.int .i64 z) := bp.cell 2 (by simp)
  have hmo := hM.most
  have HE : Hid (pkS (C, nx) (d, at', z) = (C, nx) ∧ pkO (C, nx) (d, at', z) = (0, [], 2, 0)) := by
    subst hd
    refine ⟨?_, ?_⟩
    · unfold pkS
      dsimp only
      rw [if_neg (by decide), if_pos rfl, if_neg (fun h => hc h.1)]
      try rfl
    · unfold pkO
      dsimp only
      rw [if_neg (by decide), if_pos rfl, if_neg (fun h => hc h.1)]
      try rfl
  rw [HE.out.1, HE.out.2] at HQ
  clear HE
  subst hd
  have hC := fun wz => rcode_any z wz
  generalize cdV z = cv at hC
  generalize cdE z = ce at hC
  have x2 := bx.cell 2 (by simp)
  have xf2 := bx.free 2
  simp at x2
  conv => enter [2]; whnf
  go_wp2_with (go_at_call 8; refine (hC _).mono ?_; rintro e wT ⟨rfl, hwT⟩; have hwT := hwT.symm; subst hwT)
  (try simp only [Exit.inBlock, Exit.then])
  exact HQ.out _ none 0 0 ⟨hM.grown (grown_set W gx 2 (.int .i64 2)) (by simp; exact fun e => hne.1 e.symm), bx.set 2 (.int .i64 2), ansZ_nil _ _, Frm.of (p := fun k => k = gc ∨ k = gx) (grown_set W gx 2 (.int .i64 2)) (fun k e _ => .inr (Option.some.inj e).symm)⟩
set_option maxHeartbeats 16000000 in
theorem pr_2c {u1 u2 u3 u4 u5 u8 u9 u13 u14 u15 u16 u17 u18 u19 u20 u21 u22 u23 u24 u25 u26 u27 u28 u29 u30 u31 u32 u33 u34 u35 u36 u37 u38 u39 u40 u41 u42 u43 u44 u45 u46 u47 u48 u49 u50 u51 u52 u53 u54 u55 u56 u57 u58 u59 u60 u61 u62 u63 u64 u65 u66 u67 u68 u69 u70 u71 u72 u73 u74 u75 u76 u77 u78 u79 u80 u81 u82 u83 u84 u85 u86 u87 u88 u89 u90 u91 u92 u93 u94 u95 u96 u97 u98 u99 u100 u101 u102 u103 u104 u105 u106 u107 u108 u109 u110 u111 u112 u113 u114 u115 u116 u117 u118 u119 u120 u121 u122 u123 u124 u125 u126 u127 u128 u129 u130 u131 u132 u133 u134 u135 u136 u137 u138 u139 u140 u141 u142 u143 u144 u145 u146 u147 u148 u149 u150 u151 u152 u153 u154 u155 u156 u157 u158 u159 u160 u161 u162 u163 u164 u165 u166 u167 u168 u169 u170 u171 u172 u173 u174 u175 u176 u177 u178 u179 u180 u181 u182 u183 u184 u185 u186 u187 u188 u189 u190 u191 u192 u193 u194 u195 u196 u197 u198 u199 u200 u201 u202 u203 u204 u205 u206 u207 u208 u209 u210 u211 u212 u213 u214 u215 u216 : Value} {Q : Exit → Act → World → Prop} (W : World) (gc gp gx : Nat) (C : List Nat) (nx : Nat) (d at' z : Int) (hM : MmR W gc nx C) (bp : BxS W gp 33 #[.int .i64 d, .int .i64 at', .int .i64 z]) (bx : BxS W gx 29 #[.int .i64 0, .slice none 0 0, .int .i64 0, .int .i64 0]) (hne : gx ≠ gc ∧ gp ≠ gc ∧ gp ≠ gx)
    (hPn : ∀ c (a1 a2 : Act) w, a1.defers = a2.defers → Q (.panic c) a1 w → Q (.panic c) a2 w) (hd : d = 2) (hc : (0 ≤ at' ∧ at' ≤ (C.length : Int) - 1) ∧ ¬ (0 ≤ z ∧ z ≤ 4294967295))
    (hQ : ∀ W' a n c {z13 z14 z15 z16 z17 z18 z19 z20 z21 z22 z23 z24 z25 z54 z55 z56 z57 z58 z59 z60 z61 z62 z63 z64 z65 z66 z67 z68 z69 z70 z71 z72 z73 z74 z75 z76 z77 z78 z79 z80 z81 z82 z83 z84 z85 z86 z87 z88 z89 z90 z91 z92 z93 z94 z95 z96 z97 z98 z99 z100 z101 z102 z103 z104 z105 z106 z107 z108 z109 z110 z111 z112 z113 z114 z115 z116 z117 z118 z119 z120 z121 z122 z123 z124 z125 z126 z127 z128 z129 z130 z131 z132 z133 z134 z135 z136 z137 z138 z139 z140 z141 z142 z143 z144 z145 z146 z147 z148 z149 z150 z151 z152 z153 z154 z155 z156 z157 z158 z159 z160 z161 z162 z163 z164 z165 z166 z167 z168 z169 z170 z171 z172 z173 z174 z175 z176 z177 z178 z179 z180 z181 z182 z183 z184 z185 z186 z187 z188 z189 z190 z191 z192 z193 z194 z195 z196 z197 z198 z199 z200 z201 z202 z203 z204 z205 z206 z207 z208 z209 z210 z211 : Value}, StR W W' gc gx (pkS (C, nx) (d, at', z)) a n c (pkO (C, nx) (d, at', z)) → Q .normal (Act.mk (List.toArray ((.int .i64 (C.length : Int)) :: u1 :: u2 :: u3 :: u4 :: u5 :: (.slice (some ⟨gc, 0, none⟩) C.length C.length) :: (.int .i64 ((pkS (C, nx) (d, at', z)).2 : Nat)) :: u8 :: u9 :: (.pointer (some ⟨gp, 0, none⟩)) :: (.pointer (some ⟨gx, 0, none⟩)) :: (.bool true) :: z13 :: z14 :: z15 :: z16 :: z17 :: z18 :: z19 :: z20 :: z21 :: z22 :: z23 :: z24 :: z25 :: u26 :: u27 :: u28 :: u29 :: u30 :: u31 :: u32 :: u33 :: u34 :: u35 :: u36 :: u37 :: u38 :: u39 :: u40 :: u41 :: u42 :: u43 :: u44 :: u45 :: u46 :: u47 :: u48 :: u49 :: u50 :: u51 :: u52 :: u53 :: z54 :: z55 :: z56 :: z57 :: z58 :: z59 :: z60 :: z61 :: z62 :: z63 :: z64 :: z65 :: z66 :: z67 :: z68 :: z69 :: z70 :: z71 :: z72 :: z73 :: z74 :: z75 :: z76 :: z77 :: z78 :: z79 :: z80 :: z81 :: z82 :: z83 :: z84 :: z85 :: z86 :: z87 :: z88 :: z89 :: z90 :: z91 :: z92 :: z93 :: z94 :: z95 :: z96 :: z97 :: z98 :: z99 :: z100 :: z101 :: z102 :: z103 :: z104 :: z105 :: z106 :: z107 :: z108 :: z109 :: z110 :: z111 :: z112 :: z113 :: z114 :: z115 :: z116 :: z117 :: z118 :: z119 :: z120 :: z121 :: z122 :: z123 :: z124 :: z125 :: z126 :: z127 :: z128 :: z129 :: z130 :: z131 :: z132 :: z133 :: z134 :: z135 :: z136 :: z137 :: z138 :: z139 :: z140 :: z141 :: z142 :: z143 :: z144 :: z145 :: z146 :: z147 :: z148 :: z149 :: z150 :: z151 :: z152 :: z153 :: z154 :: z155 :: z156 :: z157 :: z158 :: z159 :: z160 :: z161 :: z162 :: z163 :: z164 :: z165 :: z166 :: z167 :: z168 :: z169 :: z170 :: z171 :: z172 :: z173 :: z174 :: z175 :: z176 :: z177 :: z178 :: z179 :: z180 :: z181 :: z182 :: z183 :: z184 :: z185 :: z186 :: z187 :: z188 :: z189 :: z190 :: z191 :: z192 :: z193 :: z194 :: z195 :: z196 :: z197 :: z198 :: z199 :: z200 :: z201 :: z202 :: z203 :: z204 :: z205 :: z206 :: z207 :: z208 :: z209 :: z210 :: z211 :: u212 :: u213 :: u214 :: u215 :: u216 :: [])) []) W') :
    Code.wp Tryd.prog (headM (tailR 12 (Tryd.f4.body.getD .skip))) Q (Act.mk (List.toArray ((.int .i64 (C.length : Int)) :: u1 :: u2 :: u3 :: u4 :: u5 :: (.slice (some ⟨gc, 0, none⟩) C.length C.length) :: (.int .i64 (nx : Int)) :: u8 :: u9 :: (.pointer (some ⟨gp, 0, none⟩)) :: (.pointer (some ⟨gx, 0, none⟩)) :: (.bool true) :: u13 :: u14 :: u15 :: u16 :: u17 :: u18 :: u19 :: u20 :: u21 :: u22 :: u23 :: u24 :: u25 :: u26 :: u27 :: u28 :: u29 :: u30 :: u31 :: u32 :: u33 :: u34 :: u35 :: u36 :: u37 :: u38 :: u39 :: u40 :: u41 :: u42 :: u43 :: u44 :: u45 :: u46 :: u47 :: u48 :: u49 :: u50 :: u51 :: u52 :: u53 :: u54 :: u55 :: u56 :: u57 :: u58 :: u59 :: u60 :: u61 :: u62 :: u63 :: u64 :: u65 :: u66 :: u67 :: u68 :: u69 :: u70 :: u71 :: u72 :: u73 :: u74 :: u75 :: u76 :: u77 :: u78 :: u79 :: u80 :: u81 :: u82 :: u83 :: u84 :: u85 :: u86 :: u87 :: u88 :: u89 :: u90 :: u91 :: u92 :: u93 :: u94 :: u95 :: u96 :: u97 :: u98 :: u99 :: u100 :: u101 :: u102 :: u103 :: u104 :: u105 :: u106 :: u107 :: u108 :: u109 :: u110 :: u111 :: u112 :: u113 :: u114 :: u115 :: u116 :: u117 :: u118 :: u119 :: u120 :: u121 :: u122 :: u123 :: u124 :: u125 :: u126 :: u127 :: u128 :: u129 :: u130 :: u131 :: u132 :: u133 :: u134 :: u135 :: u136 :: u137 :: u138 :: u139 :: u140 :: u141 :: u142 :: u143 :: u144 :: u145 :: u146 :: u147 :: u148 :: u149 :: u150 :: u151 :: u152 :: u153 :: u154 :: u155 :: u156 :: u157 :: u158 :: u159 :: u160 :: u161 :: u162 :: u163 :: u164 :: u165 :: u166 :: u167 :: u168 :: u169 :: u170 :: u171 :: u172 :: u173 :: u174 :: u175 :: u176 :: u177 :: u178 :: u179 :: u180 :: u181 :: u182 :: u183 :: u184 :: u185 :: u186 :: u187 :: u188 :: u189 :: u190 :: u191 :: u192 :: u193 :: u194 :: u195 :: u196 :: u197 :: u198 :: u199 :: u200 :: u201 :: u202 :: u203 :: u204 :: u205 :: u206 :: u207 :: u208 :: u209 :: u210 :: u211 :: u212 :: u213 :: u214 :: u215 :: u216 :: [])) []) W := by
  have HQ : Hid _ := @hQ
  clear hQ
  have c0 : W.cell? ⟨gp, 0, none⟩ = some (.int .i64 d) := bp.cell 0 (by simp)
  have c1 : W.cell? ⟨gp, 1, none⟩ = some (.int .i64 at') := bp.cell 1 (by simp)
  have c2 : W.cell? ⟨gp, 2, none⟩ = some (.int .i64 z) := bp.cell 2 (by simp)
  have hmo := hM.most
  have HE : Hid (pkS (C, nx) (d, at', z) = (C, nx) ∧ pkO (C, nx) (d, at', z) = (0, [], 2, 0)) := by
    subst hd
    refine ⟨?_, ?_⟩
    · unfold pkS
      dsimp only
      rw [if_neg (by decide), if_pos rfl, if_neg (fun h => hc.2 h.2)]
      try rfl
    · unfold pkO
      dsimp only
      rw [if_neg (by decide), if_pos rfl, if_neg (fun h => hc.2 h.2)]
      try rfl
  rw [HE.out.1, HE.out.2] at HQ
  clear HE
  subst hd
  have hC := fun wz => rcode_any z wz
  have ece : cdE z = 2 := by unfold cdE; rw [inN_f hc.2]; rfl
  rw [ece] at hC
  generalize cdV z = cv at hC
  have x2 := bx.cell 2 (by simp)
  have xf2 := bx.free 2
  simp at x2
  conv => enter [2]; whnf
  go_wp2_with (go_at_call 8; refine (hC _).mono ?_; rintro e wT ⟨rfl, hwT⟩; have hwT := hwT.symm; subst hwT)
  (try simp only [Exit.inBlock, Exit.then])
  exact HQ.out _ none 0 0 ⟨hM.grown (grown_set W gx 2 (.int .i64 2)) (by simp; exact fun e => hne.1 e.symm), bx.set 2 (.int .i64 2), ansZ_nil _ _, Frm.of (p := fun k => k = gc ∨ k = gx) (grown_set W gx 2 (.int .i64 2)) (fun k e _ => .inr (Option.some.inj e).symm)⟩
set_option maxHeartbeats 16000000 in
theorem pr_3b {u1 u2 u3 u4 u5 u8 u9 u13 u14 u15 u16 u17 u18 u19 u20 u21 u22 u23 u24 u25 u26 u27 u28 u29 u30 u31 u32 u33 u34 u35 u36 u37 u38 u39 u40 u41 u42 u43 u44 u45 u46 u47 u48 u49 u50 u51 u52 u53 u54 u55 u56 u57 u58 u59 u60 u61 u62 u63 u64 u65 u66 u67 u68 u69 u70 u71 u72 u73 u74 u75 u76 u77 u78 u79 u80 u81 u82 u83 u84 u85 u86 u87 u88 u89 u90 u91 u92 u93 u94 u95 u96 u97 u98 u99 u100 u101 u102 u103 u104 u105 u106 u107 u108 u109 u110 u111 u112 u113 u114 u115 u116 u117 u118 u119 u120 u121 u122 u123 u124 u125 u126 u127 u128 u129 u130 u131 u132 u133 u134 u135 u136 u137 u138 u139 u140 u141 u142 u143 u144 u145 u146 u147 u148 u149 u150 u151 u152 u153 u154 u155 u156 u157 u158 u159 u160 u161 u162 u163 u164 u165 u166 u167 u168 u169 u170 u171 u172 u173 u174 u175 u176 u177 u178 u179 u180 u181 u182 u183 u184 u185 u186 u187 u188 u189 u190 u191 u192 u193 u194 u195 u196 u197 u198 u199 u200 u201 u202 u203 u204 u205 u206 u207 u208 u209 u210 u211 u212 u213 u214 u215 u216 : Value} {Q : Exit → Act → World → Prop} (W : World) (gc gp gx : Nat) (C : List Nat) (nx : Nat) (d at' z : Int) (hM : MmR W gc nx C) (bp : BxS W gp 33 #[.int .i64 d, .int .i64 at', .int .i64 z]) (bx : BxS W gx 29 #[.int .i64 0, .slice none 0 0, .int .i64 0, .int .i64 0]) (hne : gx ≠ gc ∧ gp ≠ gc ∧ gp ≠ gx)
    (hPn : ∀ c (a1 a2 : Act) w, a1.defers = a2.defers → Q (.panic c) a1 w → Q (.panic c) a2 w) (hd : d = 3) (hc : ¬ (0 ≤ at' ∧ at' ≤ (C.length : Int) - 1))
    (hQ : ∀ W' a n c {z13 z14 z15 z16 z17 z18 z19 z20 z21 z22 z23 z24 z25 z54 z55 z56 z57 z58 z59 z60 z61 z62 z63 z64 z65 z66 z67 z68 z69 z70 z71 z72 z73 z74 z75 z76 z77 z78 z79 z80 z81 z82 z83 z84 z85 z86 z87 z88 z89 z90 z91 z92 z93 z94 z95 z96 z97 z98 z99 z100 z101 z102 z103 z104 z105 z106 z107 z108 z109 z110 z111 z112 z113 z114 z115 z116 z117 z118 z119 z120 z121 z122 z123 z124 z125 z126 z127 z128 z129 z130 z131 z132 z133 z134 z135 z136 z137 z138 z139 z140 z141 z142 z143 z144 z145 z146 z147 z148 z149 z150 z151 z152 z153 z154 z155 z156 z157 z158 z159 z160 z161 z162 z163 z164 z165 z166 z167 z168 z169 z170 z171 z172 z173 z174 z175 z176 z177 z178 z179 z180 z181 z182 z183 z184 z185 z186 z187 z188 z189 z190 z191 z192 z193 z194 z195 z196 z197 z198 z199 z200 z201 z202 z203 z204 z205 z206 z207 z208 z209 z210 z211 : Value}, StR W W' gc gx (pkS (C, nx) (d, at', z)) a n c (pkO (C, nx) (d, at', z)) → Q .normal (Act.mk (List.toArray ((.int .i64 (C.length : Int)) :: u1 :: u2 :: u3 :: u4 :: u5 :: (.slice (some ⟨gc, 0, none⟩) C.length C.length) :: (.int .i64 ((pkS (C, nx) (d, at', z)).2 : Nat)) :: u8 :: u9 :: (.pointer (some ⟨gp, 0, none⟩)) :: (.pointer (some ⟨gx, 0, none⟩)) :: (.bool false) :: z13 :: z14 :: z15 :: z16 :: z17 :: z18 :: z19 :: z20 :: z21 :: z22 :: z23 :: z24 :: z25 :: u26 :: u27 :: u28 :: u29 :: u30 :: u31 :: u32 :: u33 :: u34 :: u35 :: u36 :: u37 :: u38 :: u39 :: u40 :: u41 :: u42 :: u43 :: u44 :: u45 :: u46 :: u47 :: u48 :: u49 :: u50 :: u51 :: u52 :: u53 :: z54 :: z55 :: z56 :: z57 :: z58 :: z59 :: z60 :: z61 :: z62 :: z63 :: z64 :: z65 :: z66 :: z67 :: z68 :: z69 :: z70 :: z71 :: z72 :: z73 :: z74 :: z75 :: z76 :: z77 :: z78 :: z79 :: z80 :: z81 :: z82 :: z83 :: z84 :: z85 :: z86 :: z87 :: z88 :: z89 :: z90 :: z91 :: z92 :: z93 :: z94 :: z95 :: z96 :: z97 :: z98 :: z99 :: z100 :: z101 :: z102 :: z103 :: z104 :: z105 :: z106 :: z107 :: z108 :: z109 :: z110 :: z111 :: z112 :: z113 :: z114 :: z115 :: z116 :: z117 :: z118 :: z119 :: z120 :: z121 :: z122 :: z123 :: z124 :: z125 :: z126 :: z127 :: z128 :: z129 :: z130 :: z131 :: z132 :: z133 :: z134 :: z135 :: z136 :: z137 :: z138 :: z139 :: z140 :: z141 :: z142 :: z143 :: z144 :: z145 :: z146 :: z147 :: z148 :: z149 :: z150 :: z151 :: z152 :: z153 :: z154 :: z155 :: z156 :: z157 :: z158 :: z159 :: z160 :: z161 :: z162 :: z163 :: z164 :: z165 :: z166 :: z167 :: z168 :: z169 :: z170 :: z171 :: z172 :: z173 :: z174 :: z175 :: z176 :: z177 :: z178 :: z179 :: z180 :: z181 :: z182 :: z183 :: z184 :: z185 :: z186 :: z187 :: z188 :: z189 :: z190 :: z191 :: z192 :: z193 :: z194 :: z195 :: z196 :: z197 :: z198 :: z199 :: z200 :: z201 :: z202 :: z203 :: z204 :: z205 :: z206 :: z207 :: z208 :: z209 :: z210 :: z211 :: u212 :: u213 :: u214 :: u215 :: u216 :: [])) []) W') :
    Code.wp Tryd.prog (headM (tailR 12 (Tryd.f4.body.getD .skip))) Q (Act.mk (List.toArray ((.int .i64 (C.length : Int)) :: u1 :: u2 :: u3 :: u4 :: u5 :: (.slice (some ⟨gc, 0, none⟩) C.length C.length) :: (.int .i64 (nx : Int)) :: u8 :: u9 :: (.pointer (some ⟨gp, 0, none⟩)) :: (.pointer (some ⟨gx, 0, none⟩)) :: (.bool false) :: u13 :: u14 :: u15 :: u16 :: u17 :: u18 :: u19 :: u20 :: u21 :: u22 :: u23 :: u24 :: u25 :: u26 :: u27 :: u28 :: u29 :: u30 :: u31 :: u32 :: u33 :: u34 :: u35 :: u36 :: u37 :: u38 :: u39 :: u40 :: u41 :: u42 :: u43 :: u44 :: u45 :: u46 :: u47 :: u48 :: u49 :: u50 :: u51 :: u52 :: u53 :: u54 :: u55 :: u56 :: u57 :: u58 :: u59 :: u60 :: u61 :: u62 :: u63 :: u64 :: u65 :: u66 :: u67 :: u68 :: u69 :: u70 :: u71 :: u72 :: u73 :: u74 :: u75 :: u76 :: u77 :: u78 :: u79 :: u80 :: u81 :: u82 :: u83 :: u84 :: u85 :: u86 :: u87 :: u88 :: u89 :: u90 :: u91 :: u92 :: u93 :: u94 :: u95 :: u96 :: u97 :: u98 :: u99 :: u100 :: u101 :: u102 :: u103 :: u104 :: u105 :: u106 :: u107 :: u108 :: u109 :: u110 :: u111 :: u112 :: u113 :: u114 :: u115 :: u116 :: u117 :: u118 :: u119 :: u120 :: u121 :: u122 :: u123 :: u124 :: u125 :: u126 :: u127 :: u128 :: u129 :: u130 :: u131 :: u132 :: u133 :: u134 :: u135 :: u136 :: u137 :: u138 :: u139 :: u140 :: u141 :: u142 :: u143 :: u144 :: u145 :: u146 :: u147 :: u148 :: u149 :: u150 :: u151 :: u152 :: u153 :: u154 :: u155 :: u156 :: u157 :: u158 :: u159 :: u160 :: u161 :: u162 :: u163 :: u164 :: u165 :: u166 :: u167 :: u168 :: u169 :: u170 :: u171 :: u172 :: u173 :: u174 :: u175 :: u176 :: u177 :: u178 :: u179 :: u180 :: u181 :: u182 :: u183 :: u184 :: u185 :: u186 :: u187 :: u188 :: u189 :: u190 :: u191 :: u192 :: u193 :: u194 :: u195 :: u196 :: u197 :: u198 :: u199 :: u200 :: u201 :: u202 :: u203 :: u204 :: u205 :: u206 :: u207 :: u208 :: u209 :: u210 :: u211 :: u212 :: u213 :: u214 :: u215 :: u216 :: [])) []) W := by
  have HQ : Hid _ := @hQ
  clear hQ
  have c0 : W.cell? ⟨gp, 0, none⟩ = some (.int .i64 d) := bp.cell 0 (by simp)
  have c1 : W.cell? ⟨gp, 1, none⟩ = some (.int .i64 at') := bp.cell 1 (by simp)
  have c2 : W.cell? ⟨gp, 2, none⟩ = some (.int .i64 z) := bp.cell 2 (by simp)
  have hmo := hM.most
  have HE : Hid (pkS (C, nx) (d, at', z) = (C, nx) ∧ pkO (C, nx) (d, at', z) = (0, [], 2, 0)) := by
    subst hd
    refine ⟨?_, ?_⟩
    · unfold pkS
      dsimp only
      rw [if_neg (by decide), if_neg (by decide), if_pos rfl, if_neg (fun h => hc h.1)]
      try rfl
    · unfold pkO
      dsimp only
      rw [if_neg (by decide), if_neg (by decide), if_pos rfl, if_neg (fun h => hc h.1)]
      try rfl
  rw [HE.out.1, HE.out.2] at HQ
  clear HE
  subst hd
  have x2 := bx.cell 2 (by simp)
  have xf2 := bx.free 2
  simp at x2
  conv => enter [2]; whnf
  go_wp2
  (try simp only [Exit.inBlock, Exit.then])
  exact HQ.out _ none 0 0 ⟨hM.grown (grown_set W gx 2 (.int .i64 2)) (by simp; exact fun e => hne.1 e.symm), bx.set 2 (.int .i64 2), ansZ_nil _ _, Frm.of (p := fun k => k = gc ∨ k = gx) (grown_set W gx 2 (.int .i64 2)) (fun k e _ => .inr (Option.some.inj e).symm)⟩
set_option maxHeartbeats 16000000 in
theorem pr_3c {u1 u2 u3 u4 u5 u8 u9 u13 u14 u15 u16 u17 u18 u19 u20 u21 u22 u23 u24 u25 u26 u27 u28 u29 u30 u31 u32 u33 u34 u35 u36 u37 u38 u39 u40 u41 u42 u43 u44 u45 u46 u47 u48 u49 u50 u51 u52 u53 u54 u55 u56 u57 u58 u59 u60 u61 u62 u63 u64 u65 u66 u67 u68 u69 u70 u71 u72 u73 u74 u75 u76 u77 u78 u79 u80 u81 u82 u83 u84 u85 u86 u87 u88 u89 u90 u91 u92 u93 u94 u95 u96 u97 u98 u99 u100 u101 u102 u103 u104 u105 u106 u107 u108 u109 u110 u111 u112 u113 u114 u115 u116 u117 u118 u119 u120 u121 u122 u123 u124 u125 u126 u127 u128 u129 u130 u131 u132 u133 u134 u135 u136 u137 u138 u139 u140 u141 u142 u143 u144 u145 u146 u147 u148 u149 u150 u151 u152 u153 u154 u155 u156 u157 u158 u159 u160 u161 u162 u163 u164 u165 u166 u167 u168 u169 u170 u171 u172 u173 u174 u175 u176 u177 u178 u179 u180 u181 u182 u183 u184 u185 u186 u187 u188 u189 u190 u191 u192 u193 u194 u195 u196 u197 u198 u199 u200 u201 u202 u203 u204 u205 u206 u207 u208 u209 u210 u211 u212 u213 u214 u215 u216 : Value} {Q : Exit → Act → World → Prop} (W : World) (gc gp gx : Nat) (C : List Nat) (nx : Nat) (d at' z : Int) (hM : MmR W gc nx C) (bp : BxS W gp 33 #[.int .i64 d, .int .i64 at', .int .i64 z]) (bx : BxS W gx 29 #[.int .i64 0, .slice none 0 0, .int .i64 0, .int .i64 0]) (hne : gx ≠ gc ∧ gp ≠ gc ∧ gp ≠ gx)
    (hPn : ∀ c (a1 a2 : Act) w, a1.defers = a2.defers → Q (.panic c) a1 w → Q (.panic c) a2 w) (hd : d = 3) (hc : (0 ≤ at' ∧ at' ≤ (C.length : Int) - 1) ∧ z < 0)
    (hQ : ∀ W' a n c {z13 z14 z15 z16 z17 z18 z19 z20 z21 z22 z23 z24 z25 z54 z55 z56 z57 z58 z59 z60 z61 z62 z63 z64 z65 z66 z67 z68 z69 z70 z71 z72 z73 z74 z75 z76 z77 z78 z79 z80 z81 z82 z83 z84 z85 z86 z87 z88 z89 z90 z91 z92 z93 z94 z95 z96 z97 z98 z99 z100 z101 z102 z103 z104 z105 z106 z107 z108 z109 z110 z111 z112 z113 z114 z115 z116 z117 z118 z119 z120 z121 z122 z123 z124 z125 z126 z127 z128 z129 z130 z131 z132 z133 z134 z135 z136 z137 z138 z139 z140 z141 z142 z143 z144 z145 z146 z147 z148 z149 z150 z151 z152 z153 z154 z155 z156 z157 z158 z159 z160 z161 z162 z163 z164 z165 z166 z167 z168 z169 z170 z171 z172 z173 z174 z175 z176 z177 z178 z179 z180 z181 z182 z183 z184 z185 z186 z187 z188 z189 z190 z191 z192 z193 z194 z195 z196 z197 z198 z199 z200 z201 z202 z203 z204 z205 z206 z207 z208 z209 z210 z211 : Value}, StR W W' gc gx (pkS (C, nx) (d, at', z)) a n c (pkO (C, nx) (d, at', z)) → Q .normal (Act.mk (List.toArray ((.int .i64 (C.length : Int)) :: u1 :: u2 :: u3 :: u4 :: u5 :: (.slice (some ⟨gc, 0, none⟩) C.length C.length) :: (.int .i64 ((pkS (C, nx) (d, at', z)).2 : Nat)) :: u8 :: u9 :: (.pointer (some ⟨gp, 0, none⟩)) :: (.pointer (some ⟨gx, 0, none⟩)) :: (.bool true) :: z13 :: z14 :: z15 :: z16 :: z17 :: z18 :: z19 :: z20 :: z21 :: z22 :: z23 :: z24 :: z25 :: u26 :: u27 :: u28 :: u29 :: u30 :: u31 :: u32 :: u33 :: u34 :: u35 :: u36 :: u37 :: u38 :: u39 :: u40 :: u41 :: u42 :: u43 :: u44 :: u45 :: u46 :: u47 :: u48 :: u49 :: u50 :: u51 :: u52 :: u53 :: z54 :: z55 :: z56 :: z57 :: z58 :: z59 :: z60 :: z61 :: z62 :: z63 :: z64 :: z65 :: z66 :: z67 :: z68 :: z69 :: z70 :: z71 :: z72 :: z73 :: z74 :: z75 :: z76 :: z77 :: z78 :: z79 :: z80 :: z81 :: z82 :: z83 :: z84 :: z85 :: z86 :: z87 :: z88 :: z89 :: z90 :: z91 :: z92 :: z93 :: z94 :: z95 :: z96 :: z97 :: z98 :: z99 :: z100 :: z101 :: z102 :: z103 :: z104 :: z105 :: z106 :: z107 :: z108 :: z109 :: z110 :: z111 :: z112 :: z113 :: z114 :: z115 :: z116 :: z117 :: z118 :: z119 :: z120 :: z121 :: z122 :: z123 :: z124 :: z125 :: z126 :: z127 :: z128 :: z129 :: z130 :: z131 :: z132 :: z133 :: z134 :: z135 :: z136 :: z137 :: z138 :: z139 :: z140 :: z141 :: z142 :: z143 :: z144 :: z145 :: z146 :: z147 :: z148 :: z149 :: z150 :: z151 :: z152 :: z153 :: z154 :: z155 :: z156 :: z157 :: z158 :: z159 :: z160 :: z161 :: z162 :: z163 :: z164 :: z165 :: z166 :: z167 :: z168 :: z169 :: z170 :: z171 :: z172 :: z173 :: z174 :: z175 :: z176 :: z177 :: z178 :: z179 :: z180 :: z181 :: z182 :: z183 :: z184 :: z185 :: z186 :: z187 :: z188 :: z189 :: z190 :: z191 :: z192 :: z193 :: z194 :: z195 :: z196 :: z197 :: z198 :: z199 :: z200 :: z201 :: z202 :: z203 :: z204 :: z205 :: z206 :: z207 :: z208 :: z209 :: z210 :: z211 :: u212 :: u213 :: u214 :: u215 :: u216 :: [])) []) W') :
    Code.wp Tryd.prog (headM (tailR 12 (Tryd.f4.body.getD .skip))) Q (Act.mk (List.toArray ((.int .i64 (C.length : Int)) :: u1 :: u2 :: u3 :: u4 :: u5 :: (.slice (some ⟨gc, 0, none⟩) C.length C.length) :: (.int .i64 (nx : Int)) :: u8 :: u9 :: (.pointer (some ⟨gp, 0, none⟩)) :: (.pointer (some ⟨gx, 0, none⟩)) :: (.bool true) :: u13 :: u14 :: u15 :: u16 :: u17 :: u18 :: u19 :: u20 :: u21 :: u22 :: u23 :: u24 :: u25 :: u26 :: u27 :: u28 :: u29 :: u30 :: u31 :: u32 :: u33 :: u34 :: u35 :: u36 :: u37 :: u38 :: u39 :: u40 :: u41 :: u42 :: u43 :: u44 :: u45 :: u46 :: u47 :: u48 :: u49 :: u50 :: u51 :: u52 :: u53 :: u54 :: u55 :: u56 :: u57 :: u58 :: u59 :: u60 :: u61 :: u62 :: u63 :: u64 :: u65 :: u66 :: u67 :: u68 :: u69 :: u70 :: u71 :: u72 :: u73 :: u74 :: u75 :: u76 :: u77 :: u78 :: u79 :: u80 :: u81 :: u82 :: u83 :: u84 :: u85 :: u86 :: u87 :: u88 :: u89 :: u90 :: u91 :: u92 :: u93 :: u94 :: u95 :: u96 :: u97 :: u98 :: u99 :: u100 :: u101 :: u102 :: u103 :: u104 :: u105 :: u106 :: u107 :: u108 :: u109 :: u110 :: u111 :: u112 :: u113 :: u114 :: u115 :: u116 :: u117 :: u118 :: u119 :: u120 :: u121 :: u122 :: u123 :: u124 :: u125 :: u126 :: u127 :: u128 :: u129 :: u130 :: u131 :: u132 :: u133 :: u134 :: u135 :: u136 :: u137 :: u138 :: u139 :: u140 :: u141 :: u142 :: u143 :: u144 :: u145 :: u146 :: u147 :: u148 :: u149 :: u150 :: u151 :: u152 :: u153 :: u154 :: u155 :: u156 :: u157 :: u158 :: u159 :: u160 :: u161 :: u162 :: u163 :: u164 :: u165 :: u166 :: u167 :: u168 :: u169 :: u170 :: u171 :: u172 :: u173 :: u174 :: u175 :: u176 :: u177 :: u178 :: u179 :: u180 :: u181 :: u182 :: u183 :: u184 :: u185 :: u186 :: u187 :: u188 :: u189 :: u190 :: u191 :: u192 :: u193 :: u194 :: u195 :: u196 :: u197 :: u198 :: u199 :: u200 :: u201 :: u202 :: u203 :: u204 :: u205 :: u206 :: u207 :: u208 :: u209 :: u210 :: u211 :: u212 :: u213 :: u214 :: u215 :: u216 :: [])) []) W := by
  have HQ : Hid _ := @hQ
  clear hQ
  have c0 : W.cell? ⟨gp, 0, none⟩ = some (.int .i64 d) := bp.cell 0 (by simp)
  have c1 : W.cell? ⟨gp, 1, none⟩ = some (.int .i64 at') := bp.cell 1 (by simp)
  have c2 : W.cell? ⟨gp, 2, none⟩ = some (.int .i64 z) := bp.cell 2 (by simp)
  have hmo := hM.most
  have HE : Hid (pkS (C, nx) (d, at', z) = (C, nx) ∧ pkO (C, nx) (d, at', z) = (0, [], 2, 0)) := by
    subst hd
    refine ⟨?_, ?_⟩
    · unfold pkS
      dsimp only
      rw [if_neg (by decide), if_neg (by decide), if_pos rfl, if_neg (fun h => by omega)]
      try rfl
    · unfold pkO
      dsimp only
      rw [if_neg (by decide), if_neg (by decide), if_pos rfl, if_neg (fun h => by omega)]
      try rfl
  rw [HE.out.1, HE.out.2] at HQ
  clear HE
  subst hd
  have hz0 := hc.2
  have x2 := bx.cell 2 (by simp)
  have xf2 := bx.free 2
  simp at x2
  conv => enter [2]; whnf
  go_wp2
  (try simp only [Exit.inBlock, Exit.then])
  exact HQ.out _ none 0 0 ⟨hM.grown (grown_set W gx 2 (.int .i64 2)) (by simp; exact fun e => hne.1 e.symm), bx.set 2 (.int .i64 2), ansZ_nil _ _, Frm.of (p := fun k => k = gc ∨ k = gx) (grown_set W gx 2 (.int .i64 2)) (fun k e _ => .inr (Option.some.inj e).symm)⟩
set_option maxHeartbeats 16000000 in
theorem pr_3d {u1 u2 u3 u4 u5 u8 u9 u13 u14 u15 u16 u17 u18 u19 u20 u21 u22 u23 u24 u25 u26 u27 u28 u29 u30 u31 u32 u33 u34 u35 u36 u37 u38 u39 u40 u41 u42 u43 u44 u45 u46 u47 u48 u49 u50 u51 u52 u53 u54 u55 u56 u57 u58 u59 u60 u61 u62 u63 u64 u65 u66 u67 u68 u69 u70 u71 u72 u73 u74 u75 u76 u77 u78 u79 u80 u81 u82 u83 u84 u85 u86 u87 u88 u89 u90 u91 u92 u93 u94 u95 u96 u97 u98 u99 u100 u101 u102 u103 u104 u105 u106 u107 u108 u109 u110 u111 u112 u113 u114 u115 u116 u117 u118 u119 u120 u121 u122 u123 u124 u125 u126 u127 u128 u129 u130 u131 u132 u133 u134 u135 u136 u137 u138 u139 u140 u141 u142 u143 u144 u145 u146 u147 u148 u149 u150 u151 u152 u153 u154 u155 u156 u157 u158 u159 u160 u161 u162 u163 u164 u165 u166 u167 u168 u169 u170 u171 u172 u173 u174 u175 u176 u177 u178 u179 u180 u181 u182 u183 u184 u185 u186 u187 u188 u189 u190 u191 u192 u193 u194 u195 u196 u197 u198 u199 u200 u201 u202 u203 u204 u205 u206 u207 u208 u209 u210 u211 u212 u213 u214 u215 u216 : Value} {Q : Exit → Act → World → Prop} (W : World) (gc gp gx : Nat) (C : List Nat) (nx : Nat) (d at' z : Int) (hM : MmR W gc nx C) (bp : BxS W gp 33 #[.int .i64 d, .int .i64 at', .int .i64 z]) (bx : BxS W gx 29 #[.int .i64 0, .slice none 0 0, .int .i64 0, .int .i64 0]) (hne : gx ≠ gc ∧ gp ≠ gc ∧ gp ≠ gx)
    (hPn : ∀ c (a1 a2 : Act) w, a1.defers = a2.defers → Q (.panic c) a1 w → Q (.panic c) a2 w) (hd : d = 3) (hc : (0 ≤ at' ∧ at' ≤ (C.length : Int) - 1) ∧ ¬ z < 0 ∧ 39 ≤ z)
    (hQ : ∀ W' a n c {z13 z14 z15 z16 z17 z18 z19 z20 z21 z22 z23 z24 z25 z54 z55 z56 z57 z58 z59 z60 z61 z62 z63 z64 z65 z66 z67 z68 z69 z70 z71 z72 z73 z74 z75 z76 z77 z78 z79 z80 z81 z82 z83 z84 z85 z86 z87 z88 z89 z90 z91 z92 z93 z94 z95 z96 z97 z98 z99 z100 z101 z102 z103 z104 z105 z106 z107 z108 z109 z110 z111 z112 z113 z114 z115 z116 z117 z118 z119 z120 z121 z122 z123 z124 z125 z126 z127 z128 z129 z130 z131 z132 z133 z134 z135 z136 z137 z138 z139 z140 z141 z142 z143 z144 z145 z146 z147 z148 z149 z150 z151 z152 z153 z154 z155 z156 z157 z158 z159 z160 z161 z162 z163 z164 z165 z166 z167 z168 z169 z170 z171 z172 z173 z174 z175 z176 z177 z178 z179 z180 z181 z182 z183 z184 z185 z186 z187 z188 z189 z190 z191 z192 z193 z194 z195 z196 z197 z198 z199 z200 z201 z202 z203 z204 z205 z206 z207 z208 z209 z210 z211 : Value}, StR W W' gc gx (pkS (C, nx) (d, at', z)) a n c (pkO (C, nx) (d, at', z)) → Q .normal (Act.mk (List.toArray ((.int .i64 (C.length : Int)) :: u1 :: u2 :: u3 :: u4 :: u5 :: (.slice (some ⟨gc, 0, none⟩) C.length C.length) :: (.int .i64 ((pkS (C, nx) (d, at', z)).2 : Nat)) :: u8 :: u9 :: (.pointer (some ⟨gp, 0, none⟩)) :: (.pointer (some ⟨gx, 0, none⟩)) :: (.bool true) :: z13 :: z14 :: z15 :: z16 :: z17 :: z18 :: z19 :: z20 :: z21 :: z22 :: z23 :: z24 :: z25 :: u26 :: u27 :: u28 :: u29 :: u30 :: u31 :: u32 :: u33 :: u34 :: u35 :: u36 :: u37 :: u38 :: u39 :: u40 :: u41 :: u42 :: u43 :: u44 :: u45 :: u46 :: u47 :: u48 :: u49 :: u50 :: u51 :: u52 :: u53 :: z54 :: z55 :: z56 :: z57 :: z58 :: z59 :: z60 :: z61 :: z62 :: z63 :: z64 :: z65 :: z66 :: z67 :: z68 :: z69 :: z70 :: z71 :: z72 :: z73 :: z74 :: z75 :: z76 :: z77 :: z78 :: z79 :: z80 :: z81 :: z82 :: z83 :: z84 :: z85 :: z86 :: z87 :: z88 :: z89 :: z90 :: z91 :: z92 :: z93 :: z94 :: z95 :: z96 :: z97 :: z98 :: z99 :: z100 :: z101 :: z102 :: z103 :: z104 :: z105 :: z106 :: z107 :: z108 :: z109 :: z110 :: z111 :: z112 :: z113 :: z114 :: z115 :: z116 :: z117 :: z118 :: z119 :: z120 :: z121 :: z122 :: z123 :: z124 :: z125 :: z126 :: z127 :: z128 :: z129 :: z130 :: z131 :: z132 :: z133 :: z134 :: z135 :: z136 :: z137 :: z138 :: z139 :: z140 :: z141 :: z142 :: z143 :: z144 :: z145 :: z146 :: z147 :: z148 :: z149 :: z150 :: z151 :: z152 :: z153 :: z154 :: z155 :: z156 :: z157 :: z158 :: z159 :: z160 :: z161 :: z162 :: z163 :: z164 :: z165 :: z166 :: z167 :: z168 :: z169 :: z170 :: z171 :: z172 :: z173 :: z174 :: z175 :: z176 :: z177 :: z178 :: z179 :: z180 :: z181 :: z182 :: z183 :: z184 :: z185 :: z186 :: z187 :: z188 :: z189 :: z190 :: z191 :: z192 :: z193 :: z194 :: z195 :: z196 :: z197 :: z198 :: z199 :: z200 :: z201 :: z202 :: z203 :: z204 :: z205 :: z206 :: z207 :: z208 :: z209 :: z210 :: z211 :: u212 :: u213 :: u214 :: u215 :: u216 :: [])) []) W') :
    Code.wp Tryd.prog (headM (tailR 12 (Tryd.f4.body.getD .skip))) Q (Act.mk (List.toArray ((.int .i64 (C.length : Int)) :: u1 :: u2 :: u3 :: u4 :: u5 :: (.slice (some ⟨gc, 0, none⟩) C.length C.length) :: (.int .i64 (nx : Int)) :: u8 :: u9 :: (.pointer (some ⟨gp, 0, none⟩)) :: (.pointer (some ⟨gx, 0, none⟩)) :: (.bool true) :: u13 :: u14 :: u15 :: u16 :: u17 :: u18 :: u19 :: u20 :: u21 :: u22 :: u23 :: u24 :: u25 :: u26 :: u27 :: u28 :: u29 :: u30 :: u31 :: u32 :: u33 :: u34 :: u35 :: u36 :: u37 :: u38 :: u39 :: u40 :: u41 :: u42 :: u43 :: u44 :: u45 :: u46 :: u47 :: u48 :: u49 :: u50 :: u51 :: u52 :: u53 :: u54 :: u55 :: u56 :: u57 :: u58 :: u59 :: u60 :: u61 :: u62 :: u63 :: u64 :: u65 :: u66 :: u67 :: u68 :: u69 :: u70 :: u71 :: u72 :: u73 :: u74 :: u75 :: u76 :: u77 :: u78 :: u79 :: u80 :: u81 :: u82 :: u83 :: u84 :: u85 :: u86 :: u87 :: u88 :: u89 :: u90 :: u91 :: u92 :: u93 :: u94 :: u95 :: u96 :: u97 :: u98 :: u99 :: u100 :: u101 :: u102 :: u103 :: u104 :: u105 :: u106 :: u107 :: u108 :: u109 :: u110 :: u111 :: u112 :: u113 :: u114 :: u115 :: u116 :: u117 :: u118 :: u119 :: u120 :: u121 :: u122 :: u123 :: u124 :: u125 :: u126 :: u127 :: u128 :: u129 :: u130 :: u131 :: u132 :: u133 :: u134 :: u135 :: u136 :: u137 :: u138 :: u139 :: u140 :: u141 :: u142 :: u143 :: u144 :: u145 :: u146 :: u147 :: u148 :: u149 :: u150 :: u151 :: u152 :: u153 :: u154 :: u155 :: u156 :: u157 :: u158 :: u159 :: u160 :: u161 :: u162 :: u163 :: u164 :: u165 :: u166 :: u167 :: u168 :: u169 :: u170 :: u171 :: u172 :: u173 :: u174 :: u175 :: u176 :: u177 :: u178 :: u179 :: u180 :: u181 :: u182 :: u183 :: u184 :: u185 :: u186 :: u187 :: u188 :: u189 :: u190 :: u191 :: u192 :: u193 :: u194 :: u195 :: u196 :: u197 :: u198 :: u199 :: u200 :: u201 :: u202 :: u203 :: u204 :: u205 :: u206 :: u207 :: u208 :: u209 :: u210 :: u211 :: u212 :: u213 :: u214 :: u215 :: u216 :: [])) []) W := by
  have HQ : Hid _ := @hQ
  clear hQ
  have c0 : W.cell? ⟨gp, 0, none⟩ = some (.int .i64 d) := bp.cell 0 (by simp)
  have c1 : W.cell? ⟨gp, 1, none⟩ = some (.int .i64 at') := bp.cell 1 (by simp)
  have c2 : W.cell? ⟨gp, 2, none⟩ = some (.int .i64 z) := bp.cell 2 (by simp)
  have hmo := hM.most
  have HE : Hid (pkS (C, nx) (d, at', z) = (C, nx) ∧ pkO (C, nx) (d, at', z) = (0, [], 2, 0)) := by
    subst hd
    refine ⟨?_, ?_⟩
    · unfold pkS
      dsimp only
      rw [if_neg (by decide), if_neg (by decide), if_pos rfl, if_neg (fun h => by omega)]
      try rfl
    · unfold pkO
      dsimp only
      rw [if_neg (by decide), if_neg (by decide), if_pos rfl, if_neg (fun h => by omega)]
      try rfl
  rw [HE.out.1, HE.out.2] at HQ
  clear HE
  subst hd
  have hz0 := hc.2.1
  have hz1 := hc.2.2
  have x2 := bx.cell 2 (by simp)
  have xf2 := bx.free 2
  simp at x2
  conv => enter [2]; whnf
  go_wp2
  (try simp only [Exit.inBlock, Exit.then])
  exact HQ.out _ none 0 0 ⟨hM.grown (grown_set W gx 2 (.int .i64 2)) (by simp; exact fun e => hne.1 e.symm), bx.set 2 (.int .i64 2), ansZ_nil _ _, Frm.of (p := fun k => k = gc ∨ k = gx) (grown_set W gx 2 (.int .i64 2)) (fun k e _ => .inr (Option.some.inj e).symm)⟩
set_option maxHeartbeats 16000000 in
theorem pr_4b {u1 u2 u3 u4 u5 u8 u9 u13 u14 u15 u16 u17 u18 u19 u20 u21 u22 u23 u24 u25 u26 u27 u28 u29 u30 u31 u32 u33 u34 u35 u36 u37 u38 u39 u40 u41 u42 u43 u44 u45 u46 u47 u48 u49 u50 u51 u52 u53 u54 u55 u56 u57 u58 u59 u60 u61 u62 u63 u64 u65 u66 u67 u68 u69 u70 u71 u72 u73 u74 u75 u76 u77 u78 u79 u80 u81 u82 u83 u84 u85 u86 u87 u88 u89 u90 u91 u92 u93 u94 u95 u96 u97 u98 u99 u100 u101 u102 u103 u104 u105 u106 u107 u108 u109 u110 u111 u112 u113 u114 u115 u116 u117 u118 u119 u120 u121 u122 u123 u124 u125 u126 u127 u128 u129 u130 u131 u132 u133 u134 u135 u136 u137 u138 u139 u140 u141 u142 u143 u144 u145 u146 u147 u148 u149 u150 u151 u152 u153 u154 u155 u156 u157 u158 u159 u160 u161 u162 u163 u164 u165 u166 u167 u168 u169 u170 u171 u172 u173 u174 u175 u176 u177 u178 u179 u180 u181 u182 u183 u184 u185 u186 u187 u188 u189 u190 u191 u192 u193 u194 u195 u196 u197 u198 u199 u200 u201 u202 u203 u204 u205 u206 u207 u208 u209 u210 u211 u212 u213 u214 u215 u216 : Value} {Q : Exit → Act → World → Prop} (W : World) (gc gp gx : Nat) (C : List Nat) (nx : Nat) (d at' z : Int) (bi : Bool) (hM : MmR W gc nx C) (bp : BxS W gp 33 #[.int .i64 d, .int .i64 at', .int .i64 z]) (bx : BxS W gx 29 #[.int .i64 0, .slice none 0 0, .int .i64 0, .int .i64 0]) (hne : gx ≠ gc ∧ gp ≠ gc ∧ gp ≠ gx)
    (hPn : ∀ c (a1 a2 : Act) w, a1.defers = a2.defers → Q (.panic c) a1 w → Q (.panic c) a2 w) (hd : d = 4) (hc : z < 0)
    (hQ : ∀ W' a n c {z13 z14 z15 z16 z17 z18 z19 z20 z21 z22 z23 z24 z25 z54 z55 z56 z57 z58 z59 z60 z61 z62 z63 z64 z65 z66 z67 z68 z69 z70 z71 z72 z73 z74 z75 z76 z77 z78 z79 z80 z81 z82 z83 z84 z85 z86 z87 z88 z89 z90 z91 z92 z93 z94 z95 z96 z97 z98 z99 z100 z101 z102 z103 z104 z105 z106 z107 z108 z109 z110 z111 z112 z113 z114 z115 z116 z117 z118 z119 z120 z121 z122 z123 z124 z125 z126 z127 z128 z129 z130 z131 z132 z133 z134 z135 z136 z137 z138 z139 z140 z141 z142 z143 z144 z145 z146 z147 z148 z149 z150 z151 z152 z153 z154 z155 z156 z157 z158 z159 z160 z161 z162 z163 z164 z165 z166 z167 z168 z169 z170 z171 z172 z173 z174 z175 z176 z177 z178 z179 z180 z181 z182 z183 z184 z185 z186 z187 z188 z189 z190 z191 z192 z193 z194 z195 z196 z197 z198 z199 z200 z201 z202 z203 z204 z205 z206 z207 z208 z209 z210 z211 : Value}, StR W W' gc gx (pkS (C, nx) (d, at', z)) a n c (pkO (C, nx) (d, at', z)) → Q .normal (Act.mk (List.toArray ((.int .i64 (C.length : Int)) :: u1 :: u2 :: u3 :: u4 :: u5 :: (.slice (some ⟨gc, 0, none⟩) C.length C.length) :: (.int .i64 ((pkS (C, nx) (d, at', z)).2 : Nat)) :: u8 :: u9 :: (.pointer (some ⟨gp, 0, none⟩)) :: (.pointer (some ⟨gx, 0, none⟩)) :: (.bool bi) :: z13 :: z14 :: z15 :: z16 :: z17 :: z18 :: z19 :: z20 :: z21 :: z22 :: z23 :: z24 :: z25 :: u26 :: u27 :: u28 :: u29 :: u30 :: u31 :: u32 :: u33 :: u34 :: u35 :: u36 :: u37 :: u38 :: u39 :: u40 :: u41 :: u42 :: u43 :: u44 :: u45 :: u46 :: u47 :: u48 :: u49 :: u50 :: u51 :: u52 :: u53 :: z54 :: z55 :: z56 :: z57 :: z58 :: z59 :: z60 :: z61 :: z62 :: z63 :: z64 :: z65 :: z66 :: z67 :: z68 :: z69 :: z70 :: z71 :: z72 :: z73 :: z74 :: z75 :: z76 :: z77 :: z78 :: z79 :: z80 :: z81 :: z82 :: z83 :: z84 :: z85 :: z86 :: z87 :: z88 :: z89 :: z90 :: z91 :: z92 :: z93 :: z94 :: z95 :: z96 :: z97 :: z98 :: z99 :: z100 :: z101 :: z102 :: z103 :: z104 :: z105 :: z106 :: z107 :: z108 :: z109 :: z110 :: z111 :: z112 :: z113 :: z114 :: z115 :: z116 :: z117 :: z118 :: z119 :: z120 :: z121 :: z122 :: z123 :: z124 :: z125 :: z126 :: z127 :: z128 :: z129 :: z130 :: z131 :: z132 :: z133 :: z134 :: z135 :: z136 :: z137 :: z138 :: z139 :: z140 :: z141 :: z142 :: z143 :: z144 :: z145 :: z146 :: z147 :: z148 :: z149 :: z150 :: z151 :: z152 :: z153 :: z154 :: z155 :: z156 :: z157 :: z158 :: z159 :: z160 :: z161 :: z162 :: z163 :: z164 :: z165 :: z166 :: z167 :: z168 :: z169 :: z170 :: z171 :: z172 :: z173 :: z174 :: z175 :: z176 :: z177 :: z178 :: z179 :: z180 :: z181 :: z182 :: z183 :: z184 :: z185 :: z186 :: z187 :: z188 :: z189 :: z190 :: z191 :: z192 :: z193 :: z194 :: z195 :: z196 :: z197 :: z198 :: z199 :: z200 :: z201 :: z202 :: z203 :: z204 :: z205 :: z206 :: z207 :: z208 :: z209 :: z210 :: z211 :: u212 :: u213 :: u214 :: u215 :: u216 :: [])) []) W') :
    Code.wp Tryd.prog (headM (tailR 12 (Tryd.f4.body.getD .skip))) Q (Act.mk (List.toArray ((.int .i64 (C.length : Int)) :: u1 :: u2 :: u3 :: u4 :: u5 :: (.slice (some ⟨gc, 0, none⟩) C.length C.length) :: (.int .i64 (nx : Int)) :: u8 :: u9 :: (.pointer (some ⟨gp, 0, none⟩)) :: (.pointer (some ⟨gx, 0, none⟩)) :: (.bool bi) :: u13 :: u14 :: u15 :: u16 :: u17 :: u18 :: u19 :: u20 :: u21 :: u22 :: u23 :: u24 :: u25 :: u26 :: u27 :: u28 :: u29 :: u30 :: u31 :: u32 :: u33 :: u34 :: u35 :: u36 :: u37 :: u38 :: u39 :: u40 :: u41 :: u42 :: u43 :: u44 :: u45 :: u46 :: u47 :: u48 :: u49 :: u50 :: u51 :: u52 :: u53 :: u54 :: u55 :: u56 :: u57 :: u58 :: u59 :: u60 :: u61 :: u62 :: u63 :: u64 :: u65 :: u66 :: u67 :: u68 :: u69 :: u70 :: u71 :: u72 :: u73 :: u74 :: u75 :: u76 :: u77 :: u78 :: u79 :: u80 :: u81 :: u82 :: u83 :: u84 :: u85 :: u86 :: u87 :: u88 :: u89 :: u90 :: u91 :: u92 :: u93 :: u94 :: u95 :: u96 :: u97 :: u98 :: u99 :: u100 :: u101 :: u102 :: u103 :: u104 :: u105 :: u106 :: u107 :: u108 :: u109 :: u110 :: u111 :: u112 :: u113 :: u114 :: u115 :: u116 :: u117 :: u118 :: u119 :: u120 :: u121 :: u122 :: u123 :: u124 :: u125 :: u126 :: u127 :: u128 :: u129 :: u130 :: u131 :: u132 :: u133 :: u134 :: u135 :: u136 :: u137 :: u138 :: u139 :: u140 :: u141 :: u142 :: u143 :: u144 :: u145 :: u146 :: u147 :: u148 :: u149 :: u150 :: u151 :: u152 :: u153 :: u154 :: u155 :: u156 :: u157 :: u158 :: u159 :: u160 :: u161 :: u162 :: u163 :: u164 :: u165 :: u166 :: u167 :: u168 :: u169 :: u170 :: u171 :: u172 :: u173 :: u174 :: u175 :: u176 :: u177 :: u178 :: u179 :: u180 :: u181 :: u182 :: u183 :: u184 :: u185 :: u186 :: u187 :: u188 :: u189 :: u190 :: u191 :: u192 :: u193 :: u194 :: u195 :: u196 :: u197 :: u198 :: u199 :: u200 :: u201 :: u202 :: u203 :: u204 :: u205 :: u206 :: u207 :: u208 :: u209 :: u210 :: u211 :: u212 :: u213 :: u214 :: u215 :: u216 :: [])) []) W := by
  have HQ : Hid _ := @hQ
  clear hQ
  have c0 : W.cell? ⟨gp, 0, none⟩ = some (.int .i64 d) := bp.cell 0 (by simp)
  have c1 : W.cell? ⟨gp, 1, none⟩ = some (.int .i64 at') := bp.cell 1 (by simp)
  have c2 : W.cell? ⟨gp, 2, none⟩ = some (.int .i64 z) := bp.cell 2 (by simp)
  have hmo := hM.most
  have HE : Hid (pkS (C, nx) (d, at', z) = (C, nx) ∧ pkO (C, nx) (d, at', z) = (0, [], 2, 0)) := by
    subst hd
    refine ⟨?_, ?_⟩
    · unfold pkS
      dsimp only
      rw [if_neg (by decide), if_neg (by decide), if_neg (by decide), if_pos rfl, if_neg (fun h => by omega)]
      try rfl
    · unfold pkO
      dsimp only
      rw [if_neg (by decide), if_neg (by decide), if_neg (by decide), if_pos rfl, if_neg (fun h => by omega)]
      try rfl
  rw [HE.out.1, HE.out.2] at HQ
  clear HE
  subst hd
  have x2 := bx.cell 2 (by simp)
  have xf2 := bx.free 2
  simp at x2
  conv => enter [2]; whnf
  go_wp2
  (try simp only [Exit.inBlock, Exit.then])
  exact HQ.out _ none 0 0 ⟨hM.grown (grown_set W gx 2 (.int .i64 2)) (by simp; exact fun e => hne.1 e.symm), bx.set 2 (.int .i64 2), ansZ_nil _ _, Frm.of (p := fun k => k = gc ∨ k = gx) (grown_set W gx 2 (.int .i64 2)) (fun k e _ => .inr (Option.some.inj e).symm)⟩
set_option maxHeartbeats 16000000 in
theorem pr_4c {u1 u2 u3 u4 u5 u8 u9 u13 u14 u15 u16 u17 u18 u19 u20 u21 u22 u23 u24 u25 u26 u27 u28 u29 u30 u31 u32 u33 u34 u35 u36 u37 u38 u39 u40 u41 u42 u43 u44 u45 u46 u47 u48 u49 u50 u51 u52 u53 u54 u55 u56 u57 u58 u59 u60 u61 u62 u63 u64 u65 u66 u67 u68 u69 u70 u71 u72 u73 u74 u75 u76 u77 u78 u79 u80 u81 u82 u83 u84 u85 u86 u87 u88 u89 u90 u91 u92 u93 u94 u95 u96 u97 u98 u99 u100 u101 u102 u103 u104 u105 u106 u107 u108 u109 u110 u111 u112 u113 u114 u115 u116 u117 u118 u119 u120 u121 u122 u123 u124 u125 u126 u127 u128 u129 u130 u131 u132 u133 u134 u135 u136 u137 u138 u139 u140 u141 u142 u143 u144 u145 u146 u147 u148 u149 u150 u151 u152 u153 u154 u155 u156 u157 u158 u159 u160 u161 u162 u163 u164 u165 u166 u167 u168 u169 u170 u171 u172 u173 u174 u175 u176 u177 u178 u179 u180 u181 u182 u183 u184 u185 u186 u187 u188 u189 u190 u191 u192 u193 u194 u195 u196 u197 u198 u199 u200 u201 u202 u203 u204 u205 u206 u207 u208 u209 u210 u211 u212 u213 u214 u215 u216 : Value} {Q : Exit → Act → World → Prop} (W : World) (gc gp gx : Nat) (C : List Nat) (nx : Nat) (d at' z : Int) (bi : Bool) (hM : MmR W gc nx C) (bp : BxS W gp 33 #[.int .i64 d, .int .i64 at', .int .i64 z]) (bx : BxS W gx 29 #[.int .i64 0, .slice none 0 0, .int .i64 0, .int .i64 0]) (hne : gx ≠ gc ∧ gp ≠ gc ∧ gp ≠ gx)
    (hPn : ∀ c (a1 a2 : Act) w, a1.defers = a2.defers → Q (.panic c) a1 w → Q (.panic c) a2 w) (hd : d = 4) (hc : ¬ z < 0 ∧ (C.length : Int) < z)
    (hQ : ∀ W' a n c {z13 z14 z15 z16 z17 z18 z19 z20 z21 z22 z23 z24 z25 z54 z55 z56 z57 z58 z59 z60 z61 z62 z63 z64 z65 z66 z67 z68 z69 z70 z71 z72 z73 z74 z75 z76 z77 z78 z79 z80 z81 z82 z83 z84 z85 z86 z87 z88 z89 z90 z91 z92 z93 z94 z95 z96 z97 z98 z99 z100 z101 z102 z103 z104 z105 z106 z107 z108 z109 z110 z111 z112 z113 z114 z115 z116 z117 z118 z119 z120 z121 z122 z123 z124 z125 z126 z127 z128 z129 z130 z131 z132 z133 z134 z135 z136 z137 z138 z139 z140 z141 z142 z143 z144 z145 z146 z147 z148 z149 z150 z151 z152 z153 z154 z155 z156 z157 z158 z159 z160 z161 z162 z163 z164 z165 z166 z167 z168 z169 z170 z171 z172 z173 z174 z175 z176 z177 z178 z179 z180 z181 z182 z183 z184 z185 z186 z187 z188 z189 z190 z191 z192 z193 z194 z195 z196 z197 z198 z199 z200 z201 z202 z203 z204 z205 z206 z207 z208 z209 z210 z211 : Value}, StR W W' gc gx (pkS (C, nx) (d, at', z)) a n c (pkO (C, nx) (d, at', z)) → Q .normal (Act.mk (List.toArray ((.int .i64 (C.length : Int)) :: u1 :: u2 :: u3 :: u4 :: u5 :: (.slice (some ⟨gc, 0, none⟩) C.length C.length) :: (.int .i64 ((pkS (C, nx) (d, at', z)).2 : Nat)) :: u8 :: u9 :: (.pointer (some ⟨gp, 0, none⟩)) :: (.pointer (some ⟨gx, 0, none⟩)) :: (.bool bi) :: z13 :: z14 :: z15 :: z16 :: z17 :: z18 :: z19 :: z20 :: z21 :: z22 :: z23 :: z24 :: z25 :: u26 :: u27 :: u28 :: u29 :: u30 :: u31 :: u32 :: u33 :: u34 :: u35 :: u36 :: u37 :: u38 :: u39 :: u40 :: u41 :: u42 :: u43 :: u44 :: u45 :: u46 :: u47 :: u48 :: u49 :: u50 :: u51 :: u52 :: u53 :: z54 :: z55 :: z56 :: z57 :: z58 :: z59 :: z60 :: z61 :: z62 :: z63 :: z64 :: z65 :: z66 :: z67 :: z68 :: z69 :: z70 :: z71 :: z72 :: z73 :: z74 :: z75 :: z76 :: z77 :: z78 :: z79 :: z80 :: z81 :: z82 :: z83 :: z84 :: z85 :: z86 :: z87 :: z88 :: z89 :: z90 :: z91 :: z92 :: z93 :: z94 :: z95 :: z96 :: z97 :: z98 :: z99 :: z100 :: z101 :: z102 :: z103 :: z104 :: z105 :: z106 :: z107 :: z108 :: z109 :: z110 :: z111 :: z112 :: z113 :: z114 :: z115 :: z116 :: z117 :: z118 :: z119 :: z120 :: z121 :: z122 :: z123 :: z124 :: z125 :: z126 :: z127 :: z128 :: z129 :: z130 :: z131 :: z132 :: z133 :: z134 :: z135 :: z136 :: z137 :: z138 :: z139 :: z140 :: z141 :: z142 :: z143 :: z144 :: z145 :: z146 :: z147 :: z148 :: z149 :: z150 :: z151 :: z152 :: z153 :: z154 :: z155 :: z156 :: z157 :: z158 :: z159 :: z160 :: z161 :: z162 :: z163 :: z164 :: z165 :: z166 :: z167 :: z168 :: z169 :: z170 :: z171 :: z172 :: z173 :: z174 :: z175 :: z176 :: z177 :: z178 :: z179 :: z180 :: z181 :: z182 :: z183 :: z184 :: z185 :: z186 :: z187 :: z188 :: z189 :: z190 :: z191 :: z192 :: z193 :: z194 :: z195 :: z196 :: z197 :: z198 :: z199 :: z200 :: z201 :: z202 :: z203 :: z204 :: z205 :: z206 :: z207 :: z208 :: z209 :: z210 :: z211 :: u212 :: u213 :: u214 :: u215 :: u216 :: [])) []) W') :
    Code.wp Tryd.prog (headM (tailR 12 (Tryd.f4.body.getD .skip))) Q (Act.mk (List.toArray ((.int .i64 (C.length : Int)) :: u1 :: u2 :: u3 :: u4 :: u5 :: (.slice (some ⟨gc, 0, none⟩) C.length C.length) :: (.int .i64 (nx : Int)) :: u8 :: u9 :: (.pointer (some ⟨gp, 0, none⟩)) :: (.pointer (some ⟨gx, 0, none⟩)) :: (.bool bi) :: u13 :: u14 :: u15 :: u16 :: u17 :: u18 :: u19 :: u20 :: u21 :: u22 :: u23 :: u24 :: u25 :: u26 :: u27 :: u28 :: u29 :: u30 :: u31 :: u32 :: u33 :: u34 :: u35 :: u36 :: u37 :: u38 :: u39 :: u40 :: u41 :: u42 :: u43 :: u44 :: u45 :: u46 :: u47 :: u48 :: u49 :: u50 :: u51 :: u52 :: u53 :: u54 :: u55 :: u56 :: u57 :: u58 :: u59 :: u60 :: u61 :: u62 :: u63 :: u64 :: u65 :: u66 :: u67 :: u68 :: u69 :: u70 :: u71 :: u72 :: u73 :: u74 :: u75 :: u76 :: u77 :: u78 :: u79 :: u80 :: u81 :: u82 :: u83 :: u84 :: u85 :: u86 :: u87 :: u88 :: u89 :: u90 :: u91 :: u92 :: u93 :: u94 :: u95 :: u96 :: u97 :: u98 :: u99 :: u100 :: u101 :: u102 :: u103 :: u104 :: u105 :: u106 :: u107 :: u108 :: u109 :: u110 :: u111 :: u112 :: u113 :: u114 :: u115 :: u116 :: u117 :: u118 :: u119 :: u120 :: u121 :: u122 :: u123 :: u124 :: u125 :: u126 :: u127 :: u128 :: u129 :: u130 :: u131 :: u132 :: u133 :: u134 :: u135 :: u136 :: u137 :: u138 :: u139 :: u140 :: u141 :: u142 :: u143 :: u144 :: u145 :: u146 :: u147 :: u148 :: u149 :: u150 :: u151 :: u152 :: u153 :: u154 :: u155 :: u156 :: u157 :: u158 :: u159 :: u160 :: u161 :: u162 :: u163 :: u164 :: u165 :: u166 :: u167 :: u168 :: u169 :: u170 :: u171 :: u172 :: u173 :: u174 :: u175 :: u176 :: u177 :: u178 :: u179 :: u180 :: u181 :: u182 :: u183 :: u184 :: u185 :: u186 :: u187 :: u188 :: u189 :: u190 :: u191 :: u192 :: u193 :: u194 :: u195 :: u196 :: u197 :: u198 :: u199 :: u200 :: u201 :: u202 :: u203 :: u204 :: u205 :: u206 :: u207 :: u208 :: u209 :: u210 :: u211 :: u212 :: u213 :: u214 :: u215 :: u216 :: [])) []) W := by
  have HQ : Hid _ := @hQ
  clear hQ
  have c0 : W.cell? ⟨gp, 0, none⟩ = some (.int .i64 d) := bp.cell 0 (by simp)
  have c1 : W.cell? ⟨gp, 1, none⟩ = some (.int .i64 at') := bp.cell 1 (by simp)
  have c2 : W.cell? ⟨gp, 2, none⟩ = some (.int .i64 z) := bp.cell 2 (by simp)
  have hmo := hM.most
  have HE : Hid (pkS (C, nx) (d, at', z) = (C, nx) ∧ pkO (C, nx) (d, at', z) = (0, [], 2, 0)) := by
    subst hd
    refine ⟨?_, ?_⟩
    · unfold pkS
      dsimp only
      rw [if_neg (by decide), if_neg (by decide), if_neg (by decide), if_pos rfl, if_neg (fun h => by omega)]
      try rfl
    · unfold pkO
      dsimp only
      rw [if_neg (by decide), if_neg (by decide), if_neg (by decide), if_pos rfl, if_neg (fun h => by omega)]
      try rfl
  rw [HE.out.1, HE.out.2] at HQ
  clear HE
  subst hd
  have hz0 := hc.1
  have hz1 := hc.2
  have x2 := bx.cell 2 (by simp)
  have xf2 := bx.free 2
  simp at x2
  conv => enter [2]; whnf
  go_wp2
  (try simp only [Exit.inBlock, Exit.then])
  exact HQ.out _ none 0 0 ⟨hM.grown (grown_set W gx 2 (.int .i64 2)) (by simp; exact fun e => hne.1 e.symm), bx.set 2 (.int .i64 2), ansZ_nil _ _, Frm.of (p := fun k => k = gc ∨ k = gx) (grown_set W gx 2 (.int .i64 2)) (fun k e _ => .inr (Option.some.inj e).symm)⟩
set_option maxHeartbeats 16000000 in
theorem pr_0 {u1 u2 u3 u4 u5 u8 u9 u13 u14 u15 u16 u17 u18 u19 u20 u21 u22 u23 u24 u25 u26 u27 u28 u29 u30 u31 u32 u33 u34 u35 u36 u37 u38 u39 u40 u41 u42 u43 u44 u45 u46 u47 u48 u49 u50 u51 u52 u53 u54 u55 u56 u57 u58 u59 u60 u61 u62 u63 u64 u65 u66 u67 u68 u69 u70 u71 u72 u73 u74 u75 u76 u77 u78 u79 u80 u81 u82 u83 u84 u85 u86 u87 u88 u89 u90 u91 u92 u93 u94 u95 u96 u97 u98 u99 u100 u101 u102 u103 u104 u105 u106 u107 u108 u109 u110 u111 u112 u113 u114 u115 u116 u117 u118 u119 u120 u121 u122 u123 u124 u125 u126 u127 u128 u129 u130 u131 u132 u133 u134 u135 u136 u137 u138 u139 u140 u141 u142 u143 u144 u145 u146 u147 u148 u149 u150 u151 u152 u153 u154 u155 u156 u157 u158 u159 u160 u161 u162 u163 u164 u165 u166 u167 u168 u169 u170 u171 u172 u173 u174 u175 u176 u177 u178 u179 u180 u181 u182 u183 u184 u185 u186 u187 u188 u189 u190 u191 u192 u193 u194 u195 u196 u197 u198 u199 u200 u201 u202 u203 u204 u205 u206 u207 u208 u209 u210 u211 u212 u213 u214 u215 u216 : Value} {Q : Exit → Act → World → Prop} (W : World) (gc gp gx : Nat) (C : List Nat) (nx : Nat) (d at' z : Int) (bi : Bool) (hM : MmR W gc nx C) (bp : BxS W gp 33 #[.int .i64 d, .int .i64 at', .int .i64 z]) (bx : BxS W gx 29 #[.int .i64 0, .slice none 0 0, .int .i64 0, .int .i64 0]) (hne : gx ≠ gc ∧ gp ≠ gc ∧ gp ≠ gx)
    (hPn : ∀ c (a1 a2 : Act) w, a1.defers = a2.defers → Q (.panic c) a1 w → Q (.panic c) a2 w) (hd : d ≠ 1 ∧ d ≠ 2 ∧ d ≠ 3 ∧ d ≠ 4 ∧ d ≠ 5)
    (hQ : ∀ W' a n c {z13 z14 z15 z16 z17 z18 z19 z20 z21 z22 z23 z24 z25 z54 z55 z56 z57 z58 z59 z60 z61 z62 z63 z64 z65 z66 z67 z68 z69 z70 z71 z72 z73 z74 z75 z76 z77 z78 z79 z80 z81 z82 z83 z84 z85 z86 z87 z88 z89 z90 z91 z92 z93 z94 z95 z96 z97 z98 z99 z100 z101 z102 z103 z104 z105 z106 z107 z108 z109 z110 z111 z112 z113 z114 z115 z116 z117 z118 z119 z120 z121 z122 z123 z124 z125 z126 z127 z128 z129 z130 z131 z132 z133 z134 z135 z136 z137 z138 z139 z140 z141 z142 z143 z144 z145 z146 z147 z148 z149 z150 z151 z152 z153 z154 z155 z156 z157 z158 z159 z160 z161 z162 z163 z164 z165 z166 z167 z168 z169 z170 z171 z172 z173 z174 z175 z176 z177 z178 z179 z180 z181 z182 z183 z184 z185 z186 z187 z188 z189 z190 z191 z192 z193 z194 z195 z196 z197 z198 z199 z200 z201 z202 z203 z204 z205 z206 z207 z208 z209 z210 z211 : Value}, StR W W' gc gx (pkS (C, nx) (d, at', z)) a n c (pkO (C, nx) (d, at', z)) → Q .normal (Act.mk (List.toArray ((.int .i64 (C.length : Int)) :: u1 :: u2 :: u3 :: u4 :: u5 :: (.slice (some ⟨gc, 0, none⟩) C.length C.length) :: (.int .i64 ((pkS (C, nx) (d, at', z)).2 : Nat)) :: u8 :: u9 :: (.pointer (some ⟨gp, 0, none⟩)) :: (.pointer (some ⟨gx, 0, none⟩)) :: (.bool bi) :: z13 :: z14 :: z15 :: z16 :: z17 :: z18 :: z19 :: z20 :: z21 :: z22 :: z23 :: z24 :: z25 :: u26 :: u27 :: u28 :: u29 :: u30 :: u31 :: u32 :: u33 :: u34 :: u35 :: u36 :: u37 :: u38 :: u39 :: u40 :: u41 :: u42 :: u43 :: u44 :: u45 :: u46 :: u47 :: u48 :: u49 :: u50 :: u51 :: u52 :: u53 :: z54 :: z55 :: z56 :: z57 :: z58 :: z59 :: z60 :: z61 :: z62 :: z63 :: z64 :: z65 :: z66 :: z67 :: z68 :: z69 :: z70 :: z71 :: z72 :: z73 :: z74 :: z75 :: z76 :: z77 :: z78 :: z79 :: z80 :: z81 :: z82 :: z83 :: z84 :: z85 :: z86 :: z87 :: z88 :: z89 :: z90 :: z91 :: z92 :: z93 :: z94 :: z95 :: z96 :: z97 :: z98 :: z99 :: z100 :: z101 :: z102 :: z103 :: z104 :: z105 :: z106 :: z107 :: z108 :: z109 :: z110 :: z111 :: z112 :: z113 :: z114 :: z115 :: z116 :: z117 :: z118 :: z119 :: z120 :: z121 :: z122 :: z123 :: z124 :: z125 :: z126 :: z127 :: z128 :: z129 :: z130 :: z131 :: z132 :: z133 :: z134 :: z135 :: z136 :: z137 :: z138 :: z139 :: z140 :: z141 :: z142 :: z143 :: z144 :: z145 :: z146 :: z147 :: z148 :: z149 :: z150 :: z151 :: z152 :: z153 :: z154 :: z155 :: z156 :: z157 :: z158 :: z159 :: z160 :: z161 :: z162 :: z163 :: z164 :: z165 :: z166 :: z167 :: z168 :: z169 :: z170 :: z171 :: z172 :: z173 :: z174 :: z175 :: z176 :: z177 :: z178 :: z179 :: z180 :: z181 :: z182 :: z183 :: z184 :: z185 :: z186 :: z187 :: z188 :: z189 :: z190 :: z191 :: z192 :: z193 :: z194 :: z195 :: z196 :: z197 :: z198 :: z199 :: z200 :: z201 :: z202 :: z203 :: z204 :: z205 :: z206 :: z207 :: z208 :: z209 :: z210 :: z211 :: u212 :: u213 :: u214 :: u215 :: u216 :: [])) []) W') :
    Code.wp Tryd.prog (headM (tailR 12 (Tryd.f4.body.getD .skip))) Q (Act.mk (List.toArray ((.int .i64 (C.length : Int)) :: u1 :: u2 :: u3 :: u4 :: u5 :: (.slice (some ⟨gc, 0, none⟩) C.length C.length) :: (.int .i64 (nx : Int)) :: u8 :: u9 :: (.pointer (some ⟨gp, 0, none⟩)) :: (.pointer (some ⟨gx, 0, none⟩)) :: (.bool bi) :: u13 :: u14 :: u15 :: u16 :: u17 :: u18 :: u19 :: u20 :: u21 :: u22 :: u23 :: u24 :: u25 :: u26 :: u27 :: u28 :: u29 :: u30 :: u31 :: u32 :: u33 :: u34 :: u35 :: u36 :: u37 :: u38 :: u39 :: u40 :: u41 :: u42 :: u43 :: u44 :: u45 :: u46 :: u47 :: u48 :: u49 :: u50 :: u51 :: u52 :: u53 :: u54 :: u55 :: u56 :: u57 :: u58 :: u59 :: u60 :: u61 :: u62 :: u63 :: u64 :: u65 :: u66 :: u67 :: u68 :: u69 :: u70 :: u71 :: u72 :: u73 :: u74 :: u75 :: u76 :: u77 :: u78 :: u79 :: u80 :: u81 :: u82 :: u83 :: u84 :: u85 :: u86 :: u87 :: u88 :: u89 :: u90 :: u91 :: u92 :: u93 :: u94 :: u95 :: u96 :: u97 :: u98 :: u99 :: u100 :: u101 :: u102 :: u103 :: u104 :: u105 :: u106 :: u107 :: u108 :: u109 :: u110 :: u111 :: u112 :: u113 :: u114 :: u115 :: u116 :: u117 :: u118 :: u119 :: u120 :: u121 :: u122 :: u123 :: u124 :: u125 :: u126 :: u127 :: u128 :: u129 :: u130 :: u131 :: u132 :: u133 :: u134 :: u135 :: u136 :: u137 :: u138 :: u139 :: u140 :: u141 :: u142 :: u143 :: u144 :: u145 :: u146 :: u147 :: u148 :: u149 :: u150 :: u151 :: u152 :: u153 :: u154 :: u155 :: u156 :: u157 :: u158 :: u159 :: u160 :: u161 :: u162 :: u163 :: u164 :: u165 :: u166 :: u167 :: u168 :: u169 :: u170 :: u171 :: u172 :: u173 :: u174 :: u175 :: u176 :: u177 :: u178 :: u179 :: u180 :: u181 :: u182 :: u183 :: u184 :: u185 :: u186 :: u187 :: u188 :: u189 :: u190 :: u191 :: u192 :: u193 :: u194 :: u195 :: u196 :: u197 :: u198 :: u199 :: u200 :: u201 :: u202 :: u203 :: u204 :: u205 :: u206 :: u207 :: u208 :: u209 :: u210 :: u211 :: u212 :: u213 :: u214 :: u215 :: u216 :: [])) []) W := by
  have HQ : Hid _ := @hQ
  clear hQ
  have c0 : W.cell? ⟨gp, 0, none⟩ = some (.int .i64 d) := bp.cell 0 (by simp)
  have c1 : W.cell? ⟨gp, 1, none⟩ = some (.int .i64 at') := bp.cell 1 (by simp)
  have c2 : W.cell? ⟨gp, 2, none⟩ = some (.int .i64 z) := bp.cell 2 (by simp)
  have hmo := hM.most
  obtain ⟨d1, d2, d3, d4, d5⟩ := hd
  have HE : Hid (pkS (C, nx) (d, at', z) = (C, nx) ∧ pkO (C, nx) (d, at', z) = (0, [], 0, 0)) := by
    refine ⟨?_, ?_⟩
    · unfold pkS
      dsimp only
      rw [if_neg d1, if_neg d2, if_neg d3, if_neg d4]
    · unfold pkO
      dsimp only
      rw [if_neg d1, if_neg d2, if_neg d3, if_neg d4, if_neg d5]
  rw [HE.out.1, HE.out.2] at HQ
  clear HE
  conv => enter [2]; whnf
  go_wp2
  (try simp only [Exit.inBlock, Exit.then])
  exact HQ.out _ none 0 0 ⟨hM, bx, ansZ_nil _ _, Frm.refl _ _⟩
set_option maxHeartbeats 16000000 in
theorem pr_2g {u1 u2 u3 u4 u5 u8 u9 u13 u14 u15 u16 u17 u18 u19 u20 u21 u22 u23 u24 u25 u26 u27 u28 u29 u30 u31 u32 u33 u34 u35 u36 u37 u38 u39 u40 u41 u42 u43 u44 u45 u46 u47 u48 u49 u50 u51 u52 u53 u54 u55 u56 u57 u58 u59 u60 u61 u62 u63 u64 u65 u66 u67 u68 u69 u70 u71 u72 u73 u74 u75 u76 u77 u78 u79 u80 u81 u82 u83 u84 u85 u86 u87 u88 u89 u90 u91 u92 u93 u94 u95 u96 u97 u98 u99 u100 u101 u102 u103 u104 u105 u106 u107 u108 u109 u110 u111 u112 u113 u114 u115 u116 u117 u118 u119 u120 u121 u122 u123 u124 u125 u126 u127 u128 u129 u130 u131 u132 u133 u134 u135 u136 u137 u138 u139 u140 u141 u142 u143 u144 u145 u146 u147 u148 u149 u150 u151 u152 u153 u154 u155 u156 u157 u158 u159 u160 u161 u162 u163 u164 u165 u166 u167 u168 u169 u170 u171 u172 u173 u174 u175 u176 u177 u178 u179 u180 u181 u182 u183 u184 u185 u186 u187 u188 u189 u190 u191 u192 u193 u194 u195 u196 u197 u198 u199 u200 u201 u202 u203 u204 u205 u206 u207 u208 u209 u210 u211 u212 u213 u214 u215 u216 : Value} {Q : Exit → Act → World → Prop} (W : World) (gc gp gx : Nat) (C : List Nat) (nx : Nat) (d at' z : Int) (hM : MmR W gc nx C) (bp : BxS W gp 33 #[.int .i64 d, .int .i64 at', .int .i64 z]) (bx : BxS W gx 29 #[.int .i64 0, .slice none 0 0, .int .i64 0, .int .i64 0]) (hne : gx ≠ gc ∧ gp ≠ gc ∧ gp ≠ gx)
    (hPn : ∀ c (a1 a2 : Act) w, a1.defers = a2.defers → Q (.panic c) a1 w → Q (.panic c) a2 w) (hd : d = 2) (hc : (0 ≤ at' ∧ at' ≤ (C.length : Int) - 1) ∧ (0 ≤ z ∧ z ≤ 4294967295))
    (hQ : ∀ W' a n c {z13 z14 z15 z16 z17 z18 z19 z20 z21 z22 z23 z24 z25 z54 z55 z56 z57 z58 z59 z60 z61 z62 z63 z64 z65 z66 z67 z68 z69 z70 z71 z72 z73 z74 z75 z76 z77 z78 z79 z80 z81 z82 z83 z84 z85 z86 z87 z88 z89 z90 z91 z92 z93 z94 z95 z96 z97 z98 z99 z100 z101 z102 z103 z104 z105 z106 z107 z108 z109 z110 z111 z112 z113 z114 z115 z116 z117 z118 z119 z120 z121 z122 z123 z124 z125 z126 z127 z128 z129 z130 z131 z132 z133 z134 z135 z136 z137 z138 z139 z140 z141 z142 z143 z144 z145 z146 z147 z148 z149 z150 z151 z152 z153 z154 z155 z156 z157 z158 z159 z160 z161 z162 z163 z164 z165 z166 z167 z168 z169 z170 z171 z172 z173 z174 z175 z176 z177 z178 z179 z180 z181 z182 z183 z184 z185 z186 z187 z188 z189 z190 z191 z192 z193 z194 z195 z196 z197 z198 z199 z200 z201 z202 z203 z204 z205 z206 z207 z208 z209 z210 z211 : Value}, StR W W' gc gx (pkS (C, nx) (d, at', z)) a n c (pkO (C, nx) (d, at', z)) → Q .normal (Act.mk (List.toArray ((.int .i64 (C.length : Int)) :: u1 :: u2 :: u3 :: u4 :: u5 :: (.slice (some ⟨gc, 0, none⟩) C.length C.length) :: (.int .i64 ((pkS (C, nx) (d, at', z)).2 : Nat)) :: u8 :: u9 :: (.pointer (some ⟨gp, 0, none⟩)) :: (.pointer (some ⟨gx, 0, none⟩)) :: (.bool true) :: z13 :: z14 :: z15 :: z16 :: z17 :: z18 :: z19 :: z20 :: z21 :: z22 :: z23 :: z24 :: z25 :: u26 :: u27 :: u28 :: u29 :: u30 :: u31 :: u32 :: u33 :: u34 :: u35 :: u36 :: u37 :: u38 :: u39 :: u40 :: u41 :: u42 :: u43 :: u44 :: u45 :: u46 :: u47 :: u48 :: u49 :: u50 :: u51 :: u52 :: u53 :: z54 :: z55 :: z56 :: z57 :: z58 :: z59 :: z60 :: z61 :: z62 :: z63 :: z64 :: z65 :: z66 :: z67 :: z68 :: z69 :: z70 :: z71 :: z72 :: z73 :: z74 :: z75 :: z76 :: z77 :: z78 :: z79 :: z80 :: z81 :: z82 :: z83 :: z84 :: z85 :: z86 :: z87 :: z88 :: z89 :: z90 :: z91 :: z92 :: z93 :: z94 :: z95 :: z96 :: z97 :: z98 :: z99 :: z100 :: z101 :: z102 :: z103 :: z104 :: z105 :: z106 :: z107 :: z108 :: z109 :: z110 :: z111 :: z112 :: z113 :: z114 :: z115 :: z116 :: z117 :: z118 :: z119 :: z120 :: z121 :: z122 :: z123 :: z124 :: z125 :: z126 :: z127 :: z128 :: z129 :: z130 :: z131 :: z132 :: z133 :: z134 :: z135 :: z136 :: z137 :: z138 :: z139 :: z140 :: z141 :: z142 :: z143 :: z144 :: z145 :: z146 :: z147 :: z148 :: z149 :: z150 :: z151 :: z152 :: z153 :: z154 :: z155 :: z156 :: z157 :: z158 :: z159 :: z160 :: z161 :: z162 :: z163 :: z164 :: z165 :: z166 :: z167 :: z168 :: z169 :: z170 :: z171 :: z172 :: z173 :: z174 :: z175 :: z176 :: z177 :: z178 :: z179 :: z180 :: z181 :: z182 :: z183 :: z184 :: z185 :: z186 :: z187 :: z188 :: z189 :: z190 :: z191 :: z192 :: z193 :: z194 :: z195 :: z196 :: z197 :: z198 :: z199 :: z200 :: z201 :: z202 :: z203 :: z204 :: z205 :: z206 :: z207 :: z208 :: z209 :: z210 :: z211 :: u212 :: u213 :: u214 :: u215 :: u216 :: [])) []) W') :
    Code.wp Tryd.prog (headM (tailR 12 (Tryd.f4.body.getD .skip))) Q (Act.mk (List.toArray ((.int .i64 (C.length : Int)) :: u1 :: u2 :: u3 :: u4 :: u5 :: (.slice (some ⟨gc, 0, none⟩) C.length C.length) :: (.int .i64 (nx : Int)) :: u8 :: u9 :: (.pointer (some ⟨gp, 0, none⟩)) :: (.pointer (some ⟨gx, 0, none⟩)) :: (.bool true) :: u13 :: u14 :: u15 :: u16 :: u17 :: u18 :: u19 :: u20 :: u21 :: u22 :: u23 :: u24 :: u25 :: u26 :: u27 :: u28 :: u29 :: u30 :: u31 :: u32 :: u33 :: u34 :: u35 :: u36 :: u37 :: u38 :: u39 :: u40 :: u41 :: u42 :: u43 :: u44 :: u45 :: u46 :: u47 :: u48 :: u49 :: u50 :: u51 :: u52 :: u53 :: u54 :: u55 :: u56 :: u57 :: u58 :: u59 :: u60 :: u61 :: u62 :: u63 :: u64 :: u65 :: u66 :: u67 :: u68 :: u69 :: u70 :: u71 :: u72 :: u73 :: u74 :: u75 :: u76 :: u77 :: u78 :: u79 :: u80 :: u81 :: u82 :: u83 :: u84 :: u85 :: u86 :: u87 :: u88 :: u89 :: u90 :: u91 :: u92 :: u93 :: u94 :: u95 :: u96 :: u97 :: u98 :: u99 :: u100 :: u101 :: u102 :: u103 :: u104 :: u105 :: u106 :: u107 :: u108 :: u109 :: u110 :: u111 :: u112 :: u113 :: u114 :: u115 :: u116 :: u117 :: u118 :: u119 :: u120 :: u121 :: u122 :: u123 :: u124 :: u125 :: u126 :: u127 :: u128 :: u129 :: u130 :: u131 :: u132 :: u133 :: u134 :: u135 :: u136 :: u137 :: u138 :: u139 :: u140 :: u141 :: u142 :: u143 :: u144 :: u145 :: u146 :: u147 :: u148 :: u149 :: u150 :: u151 :: u152 :: u153 :: u154 :: u155 :: u156 :: u157 :: u158 :: u159 :: u160 :: u161 :: u162 :: u163 :: u164 :: u165 :: u166 :: u167 :: u168 :: u169 :: u170 :: u171 :: u172 :: u173 :: u174 :: u175 :: u176 :: u177 :: u178 :: u179 :: u180 :: u181 :: u182 :: u183 :: u184 :: u185 :: u186 :: u187 :: u188 :: u189 :: u190 :: u191 :: u192 :: u193 :: u194 :: u195 :: u196 :: u197 :: u198 :: u199 :: u200 :: u201 :: u202 :: u203 :: u204 :: u205 :: u206 :: u207 :: u208 :: u209 :: u210 :: u211 :: u212 :: u213 :: u214 :: u215 :: u216 :: [])) []) W := by
  have HQ : Hid _ := @hQ
  clear hQ
  have c0 : W.cell? ⟨gp, 0, none⟩ = some (.int .i64 d) := bp.cell 0 (by simp)
  have c1 : W.cell? ⟨gp, 1, none⟩ = some (.int .i64 at') := bp.cell 1 (by simp)
  have c2 : W.cell? ⟨gp, 2, none⟩ = some (.int .i64 z) := bp.cell 2 (by simp)
  have hmo := hM.most
  obtain ⟨k, rfl⟩ : ∃ k : Nat, at' = (k : Int) := ⟨at'.toNat, by omega⟩
  obtain ⟨y, rfl⟩ : ∃ y : Nat, z = (y : Int) := ⟨z.toNat, by omega⟩
  have HE : Hid (pkS (C, nx) (d, (k : Int), (y : Int)) = (C.set k (coN y), nx) ∧ pkO (C, nx) (d, (k : Int), (y : Int)) = (0, [], 0, 0)) := by
    subst hd
    refine ⟨?_, ?_⟩
    · unfold pkS
      dsimp only
      rw [if_neg (by decide), if_pos rfl, if_pos hc]
      try rfl
    · unfold pkO
      dsimp only
      rw [if_neg (by decide), if_pos rfl, if_pos hc]
      try rfl
  rw [HE.out.1, HE.out.2] at HQ
  clear HE
  subst hd
  have hC := fun wz => rcode_any (y : Int) wz
  obtain ⟨q1, q2⟩ := cdE_ok (z := (y : Int)) hc.2
  rw [q1, q2, Int.toNat_natCast] at hC
  have hkl : k < C.length := by omega
  have hkl' : (k : Int) < (C.length : Int) := by omega
  have hcl := hM.row.cell k hkl
  have hcf := hM.row.free k
  have hl := coN_lt y
  generalize coN y = X at hC HQ hl
  conv => enter [2]; whnf
  go_wp2_with (go_at_call 8; refine (hC _).mono ?_; rintro e wT ⟨rfl, hwT⟩; have hwT := hwT.symm; subst hwT)
  (try simp only [Exit.inBlock, Exit.then])
  exact HQ.out _ none 0 0 ⟨hM.set k X hl, bx.keep (grown_set W gc k (.int .i64 (X : Int))) (by simp; exact hne.1), ansZ_nil _ _, Frm.of (p := fun k => k = gc ∨ k = gx) (grown_set W gc k (.int .i64 (X : Int))) (fun k e _ => .inl (Option.some.inj e).symm)⟩
set_option maxHeartbeats 16000000 in
theorem pr_3g {u1 u2 u3 u4 u5 u8 u9 u13 u14 u15 u16 u17 u18 u19 u20 u21 u22 u23 u24 u25 u26 u27 u28 u29 u30 u31 u32 u33 u34 u35 u36 u37 u38 u39 u40 u41 u42 u43 u44 u45 u46 u47 u48 u49 u50 u51 u52 u53 u54 u55 u56 u57 u58 u59 u60 u61 u62 u63 u64 u65 u66 u67 u68 u69 u70 u71 u72 u73 u74 u75 u76 u77 u78 u79 u80 u81 u82 u83 u84 u85 u86 u87 u88 u89 u90 u91 u92 u93 u94 u95 u96 u97 u98 u99 u100 u101 u102 u103 u104 u105 u106 u107 u108 u109 u110 u111 u112 u113 u114 u115 u116 u117 u118 u119 u120 u121 u122 u123 u124 u125 u126 u127 u128 u129 u130 u131 u132 u133 u134 u135 u136 u137 u138 u139 u140 u141 u142 u143 u144 u145 u146 u147 u148 u149 u150 u151 u152 u153 u154 u155 u156 u157 u158 u159 u160 u161 u162 u163 u164 u165 u166 u167 u168 u169 u170 u171 u172 u173 u174 u175 u176 u177 u178 u179 u180 u181 u182 u183 u184 u185 u186 u187 u188 u189 u190 u191 u192 u193 u194 u195 u196 u197 u198 u199 u200 u201 u202 u203 u204 u205 u206 u207 u208 u209 u210 u211 u212 u213 u214 u215 u216 : Value} {Q : Exit → Act → World → Prop} (W : World) (gc gp gx : Nat) (C : List Nat) (nx : Nat) (d at' z : Int) (hM : MmR W gc nx C) (bp : BxS W gp 33 #[.int .i64 d, .int .i64 at', .int .i64 z]) (bx : BxS W gx 29 #[.int .i64 0, .slice none 0 0, .int .i64 0, .int .i64 0]) (hne : gx ≠ gc ∧ gp ≠ gc ∧ gp ≠ gx)
    (hPn : ∀ c (a1 a2 : Act) w, a1.defers = a2.defers → Q (.panic c) a1 w → Q (.panic c) a2 w) (hd : d = 3) (hc : (0 ≤ at' ∧ at' ≤ (C.length : Int) - 1) ∧ (0 ≤ z ∧ z ≤ 38))
    (hQ : ∀ W' a n c {z13 z14 z15 z16 z17 z18 z19 z20 z21 z22 z23 z24 z25 z54 z55 z56 z57 z58 z59 z60 z61 z62 z63 z64 z65 z66 z67 z68 z69 z70 z71 z72 z73 z74 z75 z76 z77 z78 z79 z80 z81 z82 z83 z84 z85 z86 z87 z88 z89 z90 z91 z92 z93 z94 z95 z96 z97 z98 z99 z100 z101 z102 z103 z104 z105 z106 z107 z108 z109 z110 z111 z112 z113 z114 z115 z116 z117 z118 z119 z120 z121 z122 z123 z124 z125 z126 z127 z128 z129 z130 z131 z132 z133 z134 z135 z136 z137 z138 z139 z140 z141 z142 z143 z144 z145 z146 z147 z148 z149 z150 z151 z152 z153 z154 z155 z156 z157 z158 z159 z160 z161 z162 z163 z164 z165 z166 z167 z168 z169 z170 z171 z172 z173 z174 z175 z176 z177 z178 z179 z180 z181 z182 z183 z184 z185 z186 z187 z188 z189 z190 z191 z192 z193 z194 z195 z196 z197 z198 z199 z200 z201 z202 z203 z204 z205 z206 z207 z208 z209 z210 z211 : Value}, StR W W' gc gx (pkS (C, nx) (d, at', z)) a n c (pkO (C, nx) (d, at', z)) → Q .normal (Act.mk (List.toArray ((.int .i64 (C.length : Int)) :: u1 :: u2 :: u3 :: u4 :: u5 :: (.slice (some ⟨gc, 0, none⟩) C.length C.length) :: (.int .i64 ((pkS (C, nx) (d, at', z)).2 : Nat)) :: u8 :: u9 :: (.pointer (some ⟨gp, 0, none⟩)) :: (.pointer (some ⟨gx, 0, none⟩)) :: (.bool true) :: z13 :: z14 :: z15 :: z16 :: z17 :: z18 :: z19 :: z20 :: z21 :: z22 :: z23 :: z24 :: z25 :: u26 :: u27 :: u28 :: u29 :: u30 :: u31 :: u32 :: u33 :: u34 :: u35 :: u36 :: u37 :: u38 :: u39 :: u40 :: u41 :: u42 :: u43 :: u44 :: u45 :: u46 :: u47 :: u48 :: u49 :: u50 :: u51 :: u52 :: u53 :: z54 :: z55 :: z56 :: z57 :: z58 :: z59 :: z60 :: z61 :: z62 :: z63 :: z64 :: z65 :: z66 :: z67 :: z68 :: z69 :: z70 :: z71 :: z72 :: z73 :: z74 :: z75 :: z76 :: z77 :: z78 :: z79 :: z80 :: z81 :: z82 :: z83 :: z84 :: z85 :: z86 :: z87 :: z88 :: z89 :: z90 :: z91 :: z92 :: z93 :: z94 :: z95 :: z96 :: z97 :: z98 :: z99 :: z100 :: z101 :: z102 :: z103 :: z104 :: z105 :: z106 :: z107 :: z108 :: z109 :: z110 :: z111 :: z112 :: z113 :: z114 :: z115 :: z116 :: z117 :: z118 :: z119 :: z120 :: z121 :: z122 :: z123 :: z124 :: z125 :: z126 :: z127 :: z128 :: z129 :: z130 :: z131 :: z132 :: z133 :: z134 :: z135 :: z136 :: z137 :: z138 :: z139 :: z140 :: z141 :: z142 :: z143 :: z144 :: z145 :: z146 :: z147 :: z148 :: z149 :: z150 :: z151 :: z152 :: z153 :: z154 :: z155 :: z156 :: z157 :: z158 :: z159 :: z160 :: z161 :: z162 :: z163 :: z164 :: z165 :: z166 :: z167 :: z168 :: z169 :: z170 :: z171 :: z172 :: z173 :: z174 :: z175 :: z176 :: z177 :: z178 :: z179 :: z180 :: z181 :: z182 :: z183 :: z184 :: z185 :: z186 :: z187 :: z188 :: z189 :: z190 :: z191 :: z192 :: z193 :: z194 :: z195 :: z196 :: z197 :: z198 :: z199 :: z200 :: z201 :: z202 :: z203 :: z204 :: z205 :: z206 :: z207 :: z208 :: z209 :: z210 :: z211 :: u212 :: u213 :: u214 :: u215 :: u216 :: [])) []) W') :
    Code.wp Tryd.prog (headM (tailR 12 (Tryd.f4.body.getD .skip))) Q (Act.mk (List.toArray ((.int .i64 (C.length : Int)) :: u1 :: u2 :: u3 :: u4 :: u5 :: (.slice (some ⟨gc, 0, none⟩) C.length C.length) :: (.int .i64 (nx : Int)) :: u8 :: u9 :: (.pointer (some ⟨gp, 0, none⟩)) :: (.pointer (some ⟨gx, 0, none⟩)) :: (.bool true) :: u13 :: u14 :: u15 :: u16 :: u17 :: u18 :: u19 :: u20 :: u21 :: u22 :: u23 :: u24 :: u25 :: u26 :: u27 :: u28 :: u29 :: u30 :: u31 :: u32 :: u33 :: u34 :: u35 :: u36 :: u37 :: u38 :: u39 :: u40 :: u41 :: u42 :: u43 :: u44 :: u45 :: u46 :: u47 :: u48 :: u49 :: u50 :: u51 :: u52 :: u53 :: u54 :: u55 :: u56 :: u57 :: u58 :: u59 :: u60 :: u61 :: u62 :: u63 :: u64 :: u65 :: u66 :: u67 :: u68 :: u69 :: u70 :: u71 :: u72 :: u73 :: u74 :: u75 :: u76 :: u77 :: u78 :: u79 :: u80 :: u81 :: u82 :: u83 :: u84 :: u85 :: u86 :: u87 :: u88 :: u89 :: u90 :: u91 :: u92 :: u93 :: u94 :: u95 :: u96 :: u97 :: u98 :: u99 :: u100 :: u101 :: u102 :: u103 :: u104 :: u105 :: u106 :: u107 :: u108 :: u109 :: u110 :: u111 :: u112 :: u113 :: u114 :: u115 :: u116 :: u117 :: u118 :: u119 :: u120 :: u121 :: u122 :: u123 :: u124 :: u125 :: u126 :: u127 :: u128 :: u129 :: u130 :: u131 :: u132 :: u133 :: u134 :: u135 :: u136 :: u137 :: u138 :: u139 :: u140 :: u141 :: u142 :: u143 :: u144 :: u145 :: u146 :: u147 :: u148 :: u149 :: u150 :: u151 :: u152 :: u153 :: u154 :: u155 :: u156 :: u157 :: u158 :: u159 :: u160 :: u161 :: u162 :: u163 :: u164 :: u165 :: u166 :: u167 :: u168 :: u169 :: u170 :: u171 :: u172 :: u173 :: u174 :: u175 :: u176 :: u177 :: u178 :: u179 :: u180 :: u181 :: u182 :: u183 :: u184 :: u185 :: u186 :: u187 :: u188 :: u189 :: u190 :: u191 :: u192 :: u193 :: u194 :: u195 :: u196 :: u197 :: u198 :: u199 :: u200 :: u201 :: u202 :: u203 :: u204 :: u205 :: u206 :: u207 :: u208 :: u209 :: u210 :: u211 :: u212 :: u213 :: u214 :: u215 :: u216 :: [])) []) W := by
  have HQ : Hid _ := @hQ
  clear hQ
  have c0 : W.cell? ⟨gp, 0, none⟩ = some (.int .i64 d) := bp.cell 0 (by simp)
  have c1 : W.cell? ⟨gp, 1, none⟩ = some (.int .i64 at') := bp.cell 1 (by simp)
  have c2 : W.cell? ⟨gp, 2, none⟩ = some (.int .i64 z) := bp.cell 2 (by simp)
  have hmo := hM.most
  obtain ⟨k, rfl⟩ : ∃ k : Nat, at' = (k : Int) := ⟨at'.toNat, by omega⟩
  obtain ⟨y, rfl⟩ : ∃ y : Nat, z = (y : Int) := ⟨z.toNat, by omega⟩
  have HE : Hid (pkS (C, nx) (d, (k : Int), (y : Int)) = (C.set k (nth C k ^^^ 1 <<< y), nx) ∧ pkO (C, nx) (d, (k : Int), (y : Int)) = (0, [], 0, 0)) := by
    subst hd
    refine ⟨?_, ?_⟩
    · unfold pkS
      dsimp only
      rw [if_neg (by decide), if_neg (by decide), if_pos rfl, if_pos hc]
      try rfl
    · unfold pkO
      dsimp only
      rw [if_neg (by decide), if_neg (by decide), if_pos rfl, if_pos hc]
      try rfl
  rw [HE.out.1, HE.out.2] at HQ
  clear HE
  subst hd
  have hkl : k < C.length := by omega
  have hkl' : (k : Int) < (C.length : Int) := by omega
  have hy0 : ¬ (y : Int) < 0 := by omega
  have hy1 : ¬ (39 : Int) ≤ (y : Int) := by omega
  have hcl := hM.row.cell k hkl
  have hcf := hM.row.free k
  have hxc := hM.code k hkl
  have hx1 := xor_shlM (nth C k) y hxc (by omega)
  have hMs := hM.set k (nth C k ^^^ 1 <<< y) (xo_ltM _ _ hxc (by omega))
  have hG := grown_set W gc k (.int .i64 (nth C k ^^^ 1 <<< y : Nat))
  have bxs := bx.keep hG (by simp; exact hne.1)
  generalize nth C k ^^^ 1 <<< y = X at hx1 hMs hG HQ bxs
  generalize nth C k = v at hx1 hcl hxc
  conv => enter [2]; whnf
  go_wp2
  go_region
  all_goals
    go_wp2
    (try simp only [Exit.inBlock, Exit.then])
    exact HQ.out _ none 0 0 ⟨hMs.grown (grown_drew _ none) (by simp), bxs.keep (grown_drew _ none) (by simp), ansZ_nil _ _, Frm.of (p := fun k => k = gc ∨ k = gx) (grown_trans hG (grown_drew _ _)) (fun k e _ => .inl (Option.some.inj e).symm)⟩
end
end Go.Proofs.YtgnicopijocnjaaDoor
