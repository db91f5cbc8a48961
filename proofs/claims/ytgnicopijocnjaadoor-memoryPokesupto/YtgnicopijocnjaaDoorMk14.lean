import Derived.Test.YtgnicopijocnjaaDoorMk13
namespace Go.Proofs.YtgnicopijocnjaaDoor
open Go.RowKit
set_option maxRecDepth 100000
set_option linter.unusedVariables false
set_option linter.unusedSimpArgs false

section
open Go.RowKit Go.Shelf

set_option maxHeartbeats 16000000 in
theorem pr_12 {u1 u2 u3 u4 u5 u8 u9 u13 u14 u15 u16 u17 u18 u19 u20 u21 u22 u23 u24 u25 u26 u27 u28 u29 u30 u31 u32 u33 u34 u35 u36 u37 u38 u39 u40 u41 u42 u43 u44 u45 u46 u47 u48 u49 u50 u51 u52 u53 u54 u55 u56 u57 u58 u59 u60 u61 u62 u63 u64 u65 u66 u67 u68 u69 u70 u71 u72 u73 u74 u75 u76 u77 u78 u79 u80 u81 u82 u83 u84 u85 u86 u87 u88 u89 u90 u91 u92 u93 u94 u95 u96 u97 u98 u99 u100 u101 u102 u103 u104 u105 u106 u107 u108 u109 u110 u111 u112 u113 u114 u115 u116 u117 u118 u119 u120 u121 u122 u123 u124 u125 u126 u127 u128 u129 u130 u131 u132 u133 u134 u135 u136 u137 u138 u139 u140 u141 u142 u143 u144 u145 u146 u147 u148 u149 u150 u151 u152 u153 u154 u155 u156 u157 u158 u159 u160 u161 u162 u163 u164 u165 u166 u167 u168 u169 u170 u171 u172 u173 u174 u175 u176 u177 u178 u179 u180 u181 u182 u183 u184 u185 u186 u187 u188 u189 u190 u191 u192 u193 u194 u195 u196 u197 u198 u199 u200 u201 u202 u203 u204 u205 u206 u207 u208 u209 u210 u211 u212 u213 u214 u215 u216 : Value} {Q : Exit → Act → World → Prop} (W : World) (gc gp gx : Nat) (C : List Nat) (nx : Nat) (d at' z : Int) (bi : Bool) (hM : MmR W gc nx C) (bp : BxS W gp 33 #[.int .i64 d, .int .i64 at', .int .i64 z]) (bx : BxS W gx 29 #[.int .i64 0, .slice none 0 0, .int .i64 0, .int .i64 0]) (hne : gx ≠ gc ∧ gp ≠ gc ∧ gp ≠ gx)
    (hPn : ∀ c (a1 a2 : Act) w, a1.defers = a2.defers → Q (.panic c) a1 w → Q (.panic c) a2 w) (hbi : bi = decide (0 ≤ at' ∧ at' ≤ (C.length : Int) - 1)) (hgcl : gc < W.heap.size) (hgxl : gx < W.heap.size) (hgpl : gp < W.heap.size)
    (hQ : ∀ W' a n c {z13 z14 z15 z16 z17 z18 z19 z20 z21 z22 z23 z24 z25 z54 z55 z56 z57 z58 z59 z60 z61 z62 z63 z64 z65 z66 z67 z68 z69 z70 z71 z72 z73 z74 z75 z76 z77 z78 z79 z80 z81 z82 z83 z84 z85 z86 z87 z88 z89 z90 z91 z92 z93 z94 z95 z96 z97 z98 z99 z100 z101 z102 z103 z104 z105 z106 z107 z108 z109 z110 z111 z112 z113 z114 z115 z116 z117 z118 z119 z120 z121 z122 z123 z124 z125 z126 z127 z128 z129 z130 z131 z132 z133 z134 z135 z136 z137 z138 z139 z140 z141 z142 z143 z144 z145 z146 z147 z148 z149 z150 z151 z152 z153 z154 z155 z156 z157 z158 z159 z160 z161 z162 z163 z164 z165 z166 z167 z168 z169 z170 z171 z172 z173 z174 z175 z176 z177 z178 z179 z180 z181 z182 z183 z184 z185 z186 z187 z188 z189 z190 z191 z192 z193 z194 z195 z196 z197 z198 z199 z200 z201 z202 z203 z204 z205 z206 z207 z208 z209 z210 z211 : Value}, StR W W' gc gx (pkS (C, nx) (d, at', z)) a n c (pkO (C, nx) (d, at', z)) → Q .normal (Act.mk (List.toArray ((.int .i64 (C.length : Int)) :: u1 :: u2 :: u3 :: u4 :: u5 :: (.slice (some ⟨gc, 0, none⟩) C.length C.length) :: (.int .i64 ((pkS (C, nx) (d, at', z)).2 : Nat)) :: u8 :: u9 :: (.pointer (some ⟨gp, 0, none⟩)) :: (.pointer (some ⟨gx, 0, none⟩)) :: (.bool bi) :: z13 :: z14 :: z15 :: z16 :: z17 :: z18 :: z19 :: z20 :: z21 :: z22 :: z23 :: z24 :: z25 :: u26 :: u27 :: u28 :: u29 :: u30 :: u31 :: u32 :: u33 :: u34 :: u35 :: u36 :: u37 :: u38 :: u39 :: u40 :: u41 :: u42 :: u43 :: u44 :: u45 :: u46 :: u47 :: u48 :: u49 :: u50 :: u51 :: u52 :: u53 :: z54 :: z55 :: z56 :: z57 :: z58 :: z59 :: z60 :: z61 :: z62 :: z63 :: z64 :: z65 :: z66 :: z67 :: z68 :: z69 :: z70 :: z71 :: z72 :: z73 :: z74 :: z75 :: z76 :: z77 :: z78 :: z79 :: z80 :: z81 :: z82 :: z83 :: z84 :: z85 :: z86 :: z87 :: z88 :: z89 :: z90 :: z91 :: z92 :: z93 :: z94 :: z95 :: z96 :: z97 :: z98 :: z99 :: z100 :: z101 :: z102 :: z103 :: z104 :: z105 :: z106 :: z107 :: z108 :: z109 :: z110 :: z111 :: z112 :: z113 :: z114 :: z115 :: z116 :: z117 :: z118 :: z119 :: z120 :: z121 :: z122 :: z123 :: z124 :: z125 :: z126 :: z127 :: z128 :: z129 :: z130 :: z131 :: z132 :: z133 :: z134 :: z135 :: z136 :: z137 :: z138 :: z139 :: z140 :: z141 :: z142 :: z143 :: z144 :: z145 :: z146 :: z147 :: z148 :: z149 :: z150 :: z151 :: z152 :: z153 :: z154 :: z155 :: z156 :: z157 :: z158 :: z159 :: z160 :: z161 :: z162 :: z163 :: z164 :: z165 :: z166 :: z167 :: z168 :: z169 :: z170 :: z171 :: z172 :: z173 :: z174 :: z175 :: z176 :: z177 :: z178 :: z179 :: z180 :: z181 :: z182 :: z183 :: z184 :: z185 :: z186 :: z187 :: z188 :: z189 :: z190 :: z191 :: z192 :: z193 :: z194 :: z195 :: z196 :: z197 :: z198 :: z199 :: z200 :: z201 :: z202 :: z203 :: z204 :: z205 :: z206 :: z207 :: z208 :: z209 :: z210 :: z211 :: u212 :: u213 :: u214 :: u215 :: u216 :: [])) []) W') :
    Code.wp Tryd.prog (headM (tailR 12 (Tryd.f4.body.getD .skip))) Q (Act.mk (List.toArray ((.int .i64 (C.length : Int)) :: u1 :: u2 :: u3 :: u4 :: u5 :: (.slice (some ⟨gc, 0, none⟩) C.length C.length) :: (.int .i64 (nx : Int)) :: u8 :: u9 :: (.pointer (some ⟨gp, 0, none⟩)) :: (.pointer (some ⟨gx, 0, none⟩)) :: (.bool bi) :: u13 :: u14 :: u15 :: u16 :: u17 :: u18 :: u19 :: u20 :: u21 :: u22 :: u23 :: u24 :: u25 :: u26 :: u27 :: u28 :: u29 :: u30 :: u31 :: u32 :: u33 :: u34 :: u35 :: u36 :: u37 :: u38 :: u39 :: u40 :: u41 :: u42 :: u43 :: u44 :: u45 :: u46 :: u47 :: u48 :: u49 :: u50 :: u51 :: u52 :: u53 :: u54 :: u55 :: u56 :: u57 :: u58 :: u59 :: u60 :: u61 :: u62 :: u63 :: u64 :: u65 :: u66 :: u67 :: u68 :: u69 :: u70 :: u71 :: u72 :: u73 :: u74 :: u75 :: u76 :: u77 :: u78 :: u79 :: u80 :: u81 :: u82 :: u83 :: u84 :: u85 :: u86 :: u87 :: u88 :: u89 :: u90 :: u91 :: u92 :: u93 :: u94 :: u95 :: u96 :: u97 :: u98 :: u99 :: u100 :: u101 :: u102 :: u103 :: u104 :: u105 :: u106 :: u107 :: u108 :: u109 :: u110 :: u111 :: u112 :: u113 :: u114 :: u115 :: u116 :: u117 :: u118 :: u119 :: u120 :: u121 :: u122 :: u123 :: u124 :: u125 :: u126 :: u127 :: u128 :: u129 :: u130 :: u131 :: u132 :: u133 :: u134 :: u135 :: u136 :: u137 :: u138 :: u139 :: u140 :: u141 :: u142 :: u143 :: u144 :: u145 :: u146 :: u147 :: u148 :: u149 :: u150 :: u151 :: u152 :: u153 :: u154 :: u155 :: u156 :: u157 :: u158 :: u159 :: u160 :: u161 :: u162 :: u163 :: u164 :: u165 :: u166 :: u167 :: u168 :: u169 :: u170 :: u171 :: u172 :: u173 :: u174 :: u175 :: u176 :: u177 :: u178 :: u179 :: u180 :: u181 :: u182 :: u183 :: u184 :: u185 :: u186 :: u187 :: u188 :: u189 :: u190 :: u191 :: u192 :: u193 :: u194 :: u195 :: u196 :: u197 :: u198 :: u199 :: u200 :: u201 :: u202 :: u203 :: u204 :: u205 :: u206 :: u207 :: u208 :: u209 :: u210 :: u211 :: u212 :: u213 :: u214 :: u215 :: u216 :: [])) []) W := by
  by_cases d4 : d = 4
  · by_cases h0 : z < 0
    · exact pr_4b W gc gp gx C nx d at' z bi hM bp bx hne hPn d4 h0 @hQ
    · by_cases h1 : (C.length : Int) < z
      · exact pr_4c W gc gp gx C nx d at' z bi hM bp bx hne hPn d4 ⟨h0, h1⟩ @hQ
      · exact pr_4g W gc gp gx C nx d at' z bi hM bp bx hne hPn d4 ⟨by omega, by omega⟩ hgcl hgxl hgpl @hQ
  by_cases d5 : d = 5
  · exact pr_5 W gc gp gx C nx d at' z bi hM bp bx hne hPn d5 hgcl hgxl @hQ
  by_cases d1 : d = 1
  · by_cases hc : 0 ≤ at' ∧ at' ≤ (C.length : Int) - 1
    · obtain rfl : bi = true := by rw [hbi, decide_eq_true hc]
      have hle := mwr_le (nth C at'.toNat)
      by_cases h2 : wrW (nth C at'.toNat) = 2
      · exact pr_1l W gc gp gx C nx d at' z hM bp bx hne hPn d1 hc h2 @hQ
      · by_cases h1 : wrW (nth C at'.toNat) = 1
        · exact pr_1g1 W gc gp gx C nx d at' z hM bp bx hne hPn d1 hc h1 @hQ
        · exact pr_1g0 W gc gp gx C nx d at' z hM bp bx hne hPn d1 hc (by omega) @hQ
    · obtain rfl : bi = false := by rw [hbi, decide_eq_false hc]
      exact pr_1b W gc gp gx C nx d at' z hM bp bx hne hPn d1 hc @hQ
  by_cases d2 : d = 2
  · by_cases hc : 0 ≤ at' ∧ at' ≤ (C.length : Int) - 1
    · obtain rfl : bi = true := by rw [hbi, decide_eq_true hc]
      by_cases h2 : 0 ≤ z ∧ z ≤ 4294967295
      · exact pr_2g W gc gp gx C nx d at' z hM bp bx hne hPn d2 ⟨hc, h2⟩ @hQ
      · exact pr_2c W gc gp gx C nx d at' z hM bp bx hne hPn d2 ⟨hc, h2⟩ @hQ
    · obtain rfl : bi = false := by rw [hbi, decide_eq_false hc]
      exact pr_2b W gc gp gx C nx d at' z hM bp bx hne hPn d2 hc @hQ
  by_cases d3 : d = 3
  · by_cases hc : 0 ≤ at' ∧ at' ≤ (C.length : Int) - 1
    · obtain rfl : bi = true := by rw [hbi, decide_eq_true hc]
      by_cases h0 : z < 0
      · exact pr_3c W gc gp gx C nx d at' z hM bp bx hne hPn d3 ⟨hc, h0⟩ @hQ
      · by_cases h1 : 39 ≤ z
        · exact pr_3d W gc gp gx C nx d at' z hM bp bx hne hPn d3 ⟨hc, h0, h1⟩ @hQ
        · exact pr_3g W gc gp gx C nx d at' z hM bp bx hne hPn d3 ⟨hc, by omega, by omega⟩ @hQ
    · obtain rfl : bi = false := by rw [hbi, decide_eq_false hc]
      exact pr_3b W gc gp gx C nx d at' z hM bp bx hne hPn d3 hc @hQ
  exact pr_0 W gc gp gx C nx d at' z bi hM bp bx hne hPn ⟨d1, d2, d3, d4, d5⟩ @hQ
set_option maxHeartbeats 16000000 in
theorem pr_51 {u0 u1 u2 u3 u4 u5 u6 u7 u9 u10 u12 u13 u14 u15 u16 u17 u18 u19 u20 u21 u22 u23 u24 u25 u26 u27 u28 u29 u30 u31 u32 u33 u34 u35 u36 u37 u38 u39 u40 u41 u42 u43 u44 u45 u46 u47 u48 u49 u50 u51 u52 u53 u54 u55 u56 u57 u58 u59 u60 u61 u62 u63 u64 u65 u66 u67 u68 u69 u70 u71 u72 u73 u74 u75 u76 u77 u78 u79 u80 u81 u82 u83 u84 u85 u86 u87 u88 u89 u90 u91 u92 u93 u94 u95 u96 u97 u98 u99 u100 u101 u102 u103 u104 u105 u106 u107 u108 u109 u110 u111 u112 u113 u114 u115 u116 u117 u118 u119 u120 u121 u122 u123 u124 u125 u126 u127 u128 u129 u130 u131 u132 u133 u134 u135 u136 u137 u138 u139 u140 u141 u142 u143 u144 u145 u146 u147 u148 u149 u150 u151 u152 u153 u154 u155 u156 u157 u158 u159 u160 u161 u162 u163 u164 u165 u166 u167 u168 u169 u170 u171 u172 u173 u174 u175 u176 u177 u178 u179 u180 u181 u182 u183 u184 u185 u186 u187 u188 u189 u190 u191 u192 u193 u194 u195 u196 u197 u198 u199 u200 u201 u202 u203 u204 u205 u206 u207 u208 u209 u210 u211 u212 u213 u214 u215 u216 : Value} {Q : Exit → Act → World → Prop} (W : World) (lo gx m co : Nat) (ao : Option Addr) (x : Px) (xs : List Px) (hO : OwX W lo ao m co xs) (hA : AnsZ W lo x.a x.n x.c x.M) (bx : BxS W gx 29 #[.int .i64 x.N, .slice x.a x.n x.c, .int .i64 x.E, .int .i64 x.A]) (hlo : lo ≤ W.heap.size) (hm : m ≤ 1000000000000)
    (hQ : ∀ W' gy cy {z212 z213 z214 z215 : Value}, OwX W' lo (some ⟨gy, 0, none⟩) (m + 1) cy (xs ++ [x]) → Frm (fun k => (Value.slice ao m co).ownBlock = some k) W W' → Q .normal (Act.mk (List.toArray (u0 :: u1 :: u2 :: u3 :: u4 :: u5 :: u6 :: u7 :: (.slice (some ⟨gy, 0, none⟩) (m + 1) cy) :: u9 :: u10 :: (.pointer (some ⟨gx, 0, none⟩)) :: u12 :: u13 :: u14 :: u15 :: u16 :: u17 :: u18 :: u19 :: u20 :: u21 :: u22 :: u23 :: u24 :: u25 :: u26 :: u27 :: u28 :: u29 :: u30 :: u31 :: u32 :: u33 :: u34 :: u35 :: u36 :: u37 :: u38 :: u39 :: u40 :: u41 :: u42 :: u43 :: u44 :: u45 :: u46 :: u47 :: u48 :: u49 :: u50 :: u51 :: u52 :: u53 :: u54 :: u55 :: u56 :: u57 :: u58 :: u59 :: u60 :: u61 :: u62 :: u63 :: u64 :: u65 :: u66 :: u67 :: u68 :: u69 :: u70 :: u71 :: u72 :: u73 :: u74 :: u75 :: u76 :: u77 :: u78 :: u79 :: u80 :: u81 :: u82 :: u83 :: u84 :: u85 :: u86 :: u87 :: u88 :: u89 :: u90 :: u91 :: u92 :: u93 :: u94 :: u95 :: u96 :: u97 :: u98 :: u99 :: u100 :: u101 :: u102 :: u103 :: u104 :: u105 :: u106 :: u107 :: u108 :: u109 :: u110 :: u111 :: u112 :: u113 :: u114 :: u115 :: u116 :: u117 :: u118 :: u119 :: u120 :: u121 :: u122 :: u123 :: u124 :: u125 :: u126 :: u127 :: u128 :: u129 :: u130 :: u131 :: u132 :: u133 :: u134 :: u135 :: u136 :: u137 :: u138 :: u139 :: u140 :: u141 :: u142 :: u143 :: u144 :: u145 :: u146 :: u147 :: u148 :: u149 :: u150 :: u151 :: u152 :: u153 :: u154 :: u155 :: u156 :: u157 :: u158 :: u159 :: u160 :: u161 :: u162 :: u163 :: u164 :: u165 :: u166 :: u167 :: u168 :: u169 :: u170 :: u171 :: u172 :: u173 :: u174 :: u175 :: u176 :: u177 :: u178 :: u179 :: u180 :: u181 :: u182 :: u183 :: u184 :: u185 :: u186 :: u187 :: u188 :: u189 :: u190 :: u191 :: u192 :: u193 :: u194 :: u195 :: u196 :: u197 :: u198 :: u199 :: u200 :: u201 :: u202 :: u203 :: u204 :: u205 :: u206 :: u207 :: u208 :: u209 :: u210 :: u211 :: z212 :: z213 :: z214 :: z215 :: u216 :: [])) []) W') :
    Code.wp Tryd.prog (tailR 51 (Tryd.f4.body.getD .skip)) Q (Act.mk (List.toArray (u0 :: u1 :: u2 :: u3 :: u4 :: u5 :: u6 :: u7 :: (.slice ao m co) :: u9 :: u10 :: (.pointer (some ⟨gx, 0, none⟩)) :: u12 :: u13 :: u14 :: u15 :: u16 :: u17 :: u18 :: u19 :: u20 :: u21 :: u22 :: u23 :: u24 :: u25 :: u26 :: u27 :: u28 :: u29 :: u30 :: u31 :: u32 :: u33 :: u34 :: u35 :: u36 :: u37 :: u38 :: u39 :: u40 :: u41 :: u42 :: u43 :: u44 :: u45 :: u46 :: u47 :: u48 :: u49 :: u50 :: u51 :: u52 :: u53 :: u54 :: u55 :: u56 :: u57 :: u58 :: u59 :: u60 :: u61 :: u62 :: u63 :: u64 :: u65 :: u66 :: u67 :: u68 :: u69 :: u70 :: u71 :: u72 :: u73 :: u74 :: u75 :: u76 :: u77 :: u78 :: u79 :: u80 :: u81 :: u82 :: u83 :: u84 :: u85 :: u86 :: u87 :: u88 :: u89 :: u90 :: u91 :: u92 :: u93 :: u94 :: u95 :: u96 :: u97 :: u98 :: u99 :: u100 :: u101 :: u102 :: u103 :: u104 :: u105 :: u106 :: u107 :: u108 :: u109 :: u110 :: u111 :: u112 :: u113 :: u114 :: u115 :: u116 :: u117 :: u118 :: u119 :: u120 :: u121 :: u122 :: u123 :: u124 :: u125 :: u126 :: u127 :: u128 :: u129 :: u130 :: u131 :: u132 :: u133 :: u134 :: u135 :: u136 :: u137 :: u138 :: u139 :: u140 :: u141 :: u142 :: u143 :: u144 :: u145 :: u146 :: u147 :: u148 :: u149 :: u150 :: u151 :: u152 :: u153 :: u154 :: u155 :: u156 :: u157 :: u158 :: u159 :: u160 :: u161 :: u162 :: u163 :: u164 :: u165 :: u166 :: u167 :: u168 :: u169 :: u170 :: u171 :: u172 :: u173 :: u174 :: u175 :: u176 :: u177 :: u178 :: u179 :: u180 :: u181 :: u182 :: u183 :: u184 :: u185 :: u186 :: u187 :: u188 :: u189 :: u190 :: u191 :: u192 :: u193 :: u194 :: u195 :: u196 :: u197 :: u198 :: u199 :: u200 :: u201 :: u202 :: u203 :: u204 :: u205 :: u206 :: u207 :: u208 :: u209 :: u210 :: u211 :: u212 :: u213 :: u214 :: u215 :: u216 :: [])) []) W := by
  have HQ : Hid _ := @hQ
  clear hQ
  have HO : Hid _ := hO
  have HA : Hid _ := hA
  have hrow := hO.row
  clear hO hA
  obtain ⟨i0, hi0, hz0, hz1, hz2⟩ := info_parts Tryd.info_pkd
  obtain ⟨e0, e1, e2, e3⟩ := bx.cell4M
  have gA := World.grownBy_alloc W (.cells #[.int .i64 x.N, .slice x.a x.n x.c, .int .i64 x.E, .int .i64 x.A] 29) none
  conv => enter [2]; whnf
  go_wp2_with (at_builtin; refine wpList_apS (W.alloc (.cells #[.int .i64 x.N, .slice x.a x.n x.c, .int .i64 x.E, .int .i64 x.A] 29)) rfl (.tmp 212) (.tmp 214) 23 29 i0 _ 4 48 Tryd.underlying23 hi0 hz0 hz1 hz2 rfl (by decide) rfl (.slice ao m co) m (flX xs) rfl (hrow.alloc _) ⟨W.heap.size, 0, none⟩ 1 1 [.int .i64 x.N, .slice x.a x.n x.c, .int .i64 x.E, .int .i64 x.A] rfl rfl (cell_fourX W _ _ _ _) (by simp [Value.oneCell']) (by decide) (by unfold maxLen; omega) (by omega) ?_; intro gy cy w9 hgy g9 hO9)
  have hsz := gA.size
  refine HQ.out w9 gy cy ((HO.out.keep gA).push (HA.out.keep gA) (by omega) g9 hgy hO9) ((Frm.of (p := fun k => (Value.slice ao m co).ownBlock = some k) gA (fun k e _ => by cases e)).trans (Frm.of (p := fun k => (Value.slice ao m co).ownBlock = some k) g9 (fun k e _ => e)) (fun i _ h => h))
/-- what is so between two pokes -/
structure PrI (w0 : World) (lo gc : Nat) (s : List Nat × Nat) (i : Nat) (ao : Option Addr) (co : Nat) (xs : List Px) (L : List (Int × List Int × Int × Int)) (W : World) : Prop where
  mem : MmR W gc s.2 s.1
  own : OwX W lo ao i co xs
  dat : xs.map datX = L
  fr : Frm (fun _ => False) w0 W
  lo1 : lo ≤ W.heap.size
set_option maxHeartbeats 16000000 in
theorem pr_9 {u2 u3 u4 u5 u10 u11 u12 u13 u14 u15 u16 u17 u18 u19 u20 u21 u22 u23 u24 u25 u26 u27 u28 u29 u30 u31 u32 u33 u34 u35 u36 u37 u38 u39 u40 u41 u42 u43 u44 u45 u46 u47 u48 u49 u50 u51 u52 u53 u54 u55 u56 u57 u58 u59 u60 u61 u62 u63 u64 u65 u66 u67 u68 u69 u70 u71 u72 u73 u74 u75 u76 u77 u78 u79 u80 u81 u82 u83 u84 u85 u86 u87 u88 u89 u90 u91 u92 u93 u94 u95 u96 u97 u98 u99 u100 u101 u102 u103 u104 u105 u106 u107 u108 u109 u110 u111 u112 u113 u114 u115 u116 u117 u118 u119 u120 u121 u122 u123 u124 u125 u126 u127 u128 u129 u130 u131 u132 u133 u134 u135 u136 u137 u138 u139 u140 u141 u142 u143 u144 u145 u146 u147 u148 u149 u150 u151 u152 u153 u154 u155 u156 u157 u158 u159 u160 u161 u162 u163 u164 u165 u166 u167 u168 u169 u170 u171 u172 u173 u174 u175 u176 u177 u178 u179 u180 u181 u182 u183 u184 u185 u186 u187 u188 u189 u190 u191 u192 u193 u194 u195 u196 u197 u198 u199 u200 u201 u202 u203 u204 u205 u206 u207 u208 u209 u210 u211 u212 u213 u214 u215 u216 : Value} {Q : Exit → Act → World → Prop} (w0 W : World) (lo gc b off m cap i co : Nat) (ao : Option Addr) (C : List Nat) (nx : Nat) (F : Nat → Int × Int × Int) (xs : List Px) (L : List (Int × List Int × Int × Int)) (J : PrI w0 lo gc (C, nx) i ao co xs L W)
    (hc : W.cell? ⟨b, off + i * 3, none⟩ = some (.int .i64 (F i).1) ∧ W.cell? ⟨b, off + i * 3 + 1, none⟩ = some (.int .i64 (F i).2.1) ∧ W.cell? ⟨b, off + i * 3 + 2, none⟩ = some (.int .i64 (F i).2.2)) (hi : i < m) (hm : m ≤ 1000000000000) (hgc : gc < lo) (hgc0 : w0.heap.size ≤ gc)
    (hPn : ∀ c (a1 a2 : Act) w, a1.defers = a2.defers → Q (.panic c) a1 w → Q (.panic c) a2 w)
    (hQ : ∀ W' gy cy x {z10 z11 z12 z13 z14 z15 z16 z17 z18 z19 z20 z21 z22 z23 z24 z25 z38 z39 z40 z41 z42 z43 z44 z45 z46 z47 z48 z49 z50 z51 z52 z53 z54 z55 z56 z57 z58 z59 z60 z61 z62 z63 z64 z65 z66 z67 z68 z69 z70 z71 z72 z73 z74 z75 z76 z77 z78 z79 z80 z81 z82 z83 z84 z85 z86 z87 z88 z89 z90 z91 z92 z93 z94 z95 z96 z97 z98 z99 z100 z101 z102 z103 z104 z105 z106 z107 z108 z109 z110 z111 z112 z113 z114 z115 z116 z117 z118 z119 z120 z121 z122 z123 z124 z125 z126 z127 z128 z129 z130 z131 z132 z133 z134 z135 z136 z137 z138 z139 z140 z141 z142 z143 z144 z145 z146 z147 z148 z149 z150 z151 z152 z153 z154 z155 z156 z157 z158 z159 z160 z161 z162 z163 z164 z165 z166 z167 z168 z169 z170 z171 z172 z173 z174 z175 z176 z177 z178 z179 z180 z181 z182 z183 z184 z185 z186 z187 z188 z189 z190 z191 z192 z193 z194 z195 z196 z197 z198 z199 z200 z201 z202 z203 z204 z205 z206 z207 z208 z209 z210 z211 z212 z213 z214 z215 : Value}, PrI w0 lo gc (pkS (C, nx) (F i)) (i + 1) (some ⟨gy, 0, none⟩) cy (xs ++ [x]) (L ++ [pkO (C, nx) (F i)]) W' → Q .normal (Act.mk (List.toArray ((.int .i64 (C.length : Int)) :: (.slice (some ⟨b, off, none⟩) m cap) :: u2 :: u3 :: u4 :: u5 :: (.slice (some ⟨gc, 0, none⟩) C.length C.length) :: (.int .i64 ((pkS (C, nx) (F i)).2 : Nat)) :: (.slice (some ⟨gy, 0, none⟩) (i + 1) cy) :: (.int .i64 ((i + 1 : Nat) : Int)) :: z10 :: z11 :: z12 :: z13 :: z14 :: z15 :: z16 :: z17 :: z18 :: z19 :: z20 :: z21 :: z22 :: z23 :: z24 :: z25 :: u26 :: u27 :: u28 :: u29 :: u30 :: u31 :: u32 :: u33 :: u34 :: u35 :: u36 :: u37 :: z38 :: z39 :: z40 :: z41 :: z42 :: z43 :: z44 :: z45 :: z46 :: z47 :: z48 :: z49 :: z50 :: z51 :: z52 :: z53 :: z54 :: z55 :: z56 :: z57 :: z58 :: z59 :: z60 :: z61 :: z62 :: z63 :: z64 :: z65 :: z66 :: z67 :: z68 :: z69 :: z70 :: z71 :: z72 :: z73 :: z74 :: z75 :: z76 :: z77 :: z78 :: z79 :: z80 :: z81 :: z82 :: z83 :: z84 :: z85 :: z86 :: z87 :: z88 :: z89 :: z90 :: z91 :: z92 :: z93 :: z94 :: z95 :: z96 :: z97 :: z98 :: z99 :: z100 :: z101 :: z102 :: z103 :: z104 :: z105 :: z106 :: z107 :: z108 :: z109 :: z110 :: z111 :: z112 :: z113 :: z114 :: z115 :: z116 :: z117 :: z118 :: z119 :: z120 :: z121 :: z122 :: z123 :: z124 :: z125 :: z126 :: z127 :: z128 :: z129 :: z130 :: z131 :: z132 :: z133 :: z134 :: z135 :: z136 :: z137 :: z138 :: z139 :: z140 :: z141 :: z142 :: z143 :: z144 :: z145 :: z146 :: z147 :: z148 :: z149 :: z150 :: z151 :: z152 :: z153 :: z154 :: z155 :: z156 :: z157 :: z158 :: z159 :: z160 :: z161 :: z162 :: z163 :: z164 :: z165 :: z166 :: z167 :: z168 :: z169 :: z170 :: z171 :: z172 :: z173 :: z174 :: z175 :: z176 :: z177 :: z178 :: z179 :: z180 :: z181 :: z182 :: z183 :: z184 :: z185 :: z186 :: z187 :: z188 :: z189 :: z190 :: z191 :: z192 :: z193 :: z194 :: z195 :: z196 :: z197 :: z198 :: z199 :: z200 :: z201 :: z202 :: z203 :: z204 :: z205 :: z206 :: z207 :: z208 :: z209 :: z210 :: z211 :: z212 :: z213 :: z214 :: z215 :: u216 :: [])) []) W') :
    Code.wp Tryd.prog (tailR 9 (Tryd.f4.body.getD .skip)) Q (Act.mk (List.toArray ((.int .i64 (C.length : Int)) :: (.slice (some ⟨b, off, none⟩) m cap) :: u2 :: u3 :: u4 :: u5 :: (.slice (some ⟨gc, 0, none⟩) C.length C.length) :: (.int .i64 (nx : Int)) :: (.slice ao i co) :: (.int .i64 (i : Nat)) :: u10 :: u11 :: u12 :: u13 :: u14 :: u15 :: u16 :: u17 :: u18 :: u19 :: u20 :: u21 :: u22 :: u23 :: u24 :: u25 :: u26 :: u27 :: u28 :: u29 :: u30 :: u31 :: u32 :: u33 :: u34 :: u35 :: u36 :: u37 :: u38 :: u39 :: u40 :: u41 :: u42 :: u43 :: u44 :: u45 :: u46 :: u47 :: u48 :: u49 :: u50 :: u51 :: u52 :: u53 :: u54 :: u55 :: u56 :: u57 :: u58 :: u59 :: u60 :: u61 :: u62 :: u63 :: u64 :: u65 :: u66 :: u67 :: u68 :: u69 :: u70 :: u71 :: u72 :: u73 :: u74 :: u75 :: u76 :: u77 :: u78 :: u79 :: u80 :: u81 :: u82 :: u83 :: u84 :: u85 :: u86 :: u87 :: u88 :: u89 :: u90 :: u91 :: u92 :: u93 :: u94 :: u95 :: u96 :: u97 :: u98 :: u99 :: u100 :: u101 :: u102 :: u103 :: u104 :: u105 :: u106 :: u107 :: u108 :: u109 :: u110 :: u111 :: u112 :: u113 :: u114 :: u115 :: u116 :: u117 :: u118 :: u119 :: u120 :: u121 :: u122 :: u123 :: u124 :: u125 :: u126 :: u127 :: u128 :: u129 :: u130 :: u131 :: u132 :: u133 :: u134 :: u135 :: u136 :: u137 :: u138 :: u139 :: u140 :: u141 :: u142 :: u143 :: u144 :: u145 :: u146 :: u147 :: u148 :: u149 :: u150 :: u151 :: u152 :: u153 :: u154 :: u155 :: u156 :: u157 :: u158 :: u159 :: u160 :: u161 :: u162 :: u163 :: u164 :: u165 :: u166 :: u167 :: u168 :: u169 :: u170 :: u171 :: u172 :: u173 :: u174 :: u175 :: u176 :: u177 :: u178 :: u179 :: u180 :: u181 :: u182 :: u183 :: u184 :: u185 :: u186 :: u187 :: u188 :: u189 :: u190 :: u191 :: u192 :: u193 :: u194 :: u195 :: u196 :: u197 :: u198 :: u199 :: u200 :: u201 :: u202 :: u203 :: u204 :: u205 :: u206 :: u207 :: u208 :: u209 :: u210 :: u211 :: u212 :: u213 :: u214 :: u215 :: u216 :: [])) []) W := by
  have HQ : Hid _ := @hQ
  clear hQ
  obtain ⟨c0, c1, c2⟩ := hc
  obtain ⟨⟨d, at', z⟩, hF⟩ : ∃ p, F i = p := ⟨_, rfl⟩
  rw [hF] at c0 c1 c2 HQ
  dsimp only at c0 c1 c2
  clear hF
  have HJ : Hid _ := J
  have hi' : (i : Int) < (m : Int) := by omega
  have b2 := BxS.new W 33 #[.int .i64 d, .int .i64 at', .int .i64 z]
  have g2 := World.grownBy_alloc W (.cells #[.int .i64 d, .int .i64 at', .int .i64 z] 33) none
  have b3 := BxS.new (W.alloc (.cells #[.int .i64 d, .int .i64 at', .int .i64 z] 33)) 29 #[.int .i64 0, .slice none 0 0, .int .i64 0, .int .i64 0]
  have g3 := World.grownBy_alloc (W.alloc (.cells #[.int .i64 d, .int .i64 at', .int .i64 z] 33)) (.cells #[.int .i64 0, .slice none 0 0, .int .i64 0, .int .i64 0] 29) none
  have b2' := b2.keep g3 (by simp)
  have hM3 := (J.mem.grown g2 (by simp)).grown g3 (by simp)
  have hsz : ((W.alloc (.cells #[.int .i64 d, .int .i64 at', .int .i64 z] 33)).alloc (.cells #[.int .i64 0, .slice none 0 0, .int .i64 0, .int .i64 0] 29)).heap.size = W.heap.size + 2 := by simp
  rw [World.size_alloc] at b3
  have g23 := grown_trans g2 g3
  have hlo := J.lo1
  clear b2 J
  conv => enter [2]; whnf
  refine wp_seq_k fun K33 hK33 => ?_
  have HK33 : Hid _ := hK33
  clear hK33
  refine wp_block ?_
  refine wp_seq_k fun K9 hK9 => ?_
  have HK9 : Hid _ := hK9
  clear hK9
  go_wp2
  (try simp only [Exit.inBlock, Exit.then])
  refine HK9.out _ _ ?_
  clear HK9
  refine wp_seq_k fun K10 hK10 => ?_
  have HK10 : Hid _ := hK10
  clear hK10
  go_wp2
  (try simp only [Exit.inBlock, Exit.then])
  refine HK10.out _ _ ?_
  clear HK10
  generalize (W.alloc (.cells #[.int .i64 d, .int .i64 at', .int .i64 z] 33)).alloc (.cells #[.int .i64 0, .slice none 0 0, .int .i64 0, .int .i64 0] 29) = W3 at *
  have e1 : W3.cell? ⟨W.heap.size, 1, none⟩ = some (.int .i64 at') := b2'.cell 1 (by simp)
  refine wp_seq_k fun K11 hK11 => ?_
  have HK11 : Hid _ := hK11
  clear hK11
  have HT : Hid (∀ (bi : Bool), bi = decide (0 ≤ at' ∧ at' ≤ (C.length : Int) - 1) → ∀ {z40 z41 z42 z43 z44 z45 z46 z47 z48 z49 z50 z51 z52 z53 : Value}, K11 (Act.mk (List.toArray ((.int .i64 (C.length : Int)) :: (.slice (some ⟨b, off, none⟩) m cap) :: u2 :: u3 :: u4 :: u5 :: (.slice (some ⟨gc, 0, none⟩) C.length C.length) :: (.int .i64 (nx : Int)) :: (.slice ao i co) :: (.int .i64 (i : Nat)) :: (.pointer (some ⟨W.heap.size, 0, none⟩)) :: (.pointer (some ⟨W.heap.size + 1, 0, none⟩)) :: (.bool bi) :: u13 :: u14 :: u15 :: u16 :: u17 :: u18 :: u19 :: u20 :: u21 :: u22 :: u23 :: u24 :: u25 :: u26 :: u27 :: u28 :: u29 :: u30 :: u31 :: u32 :: u33 :: u34 :: u35 :: u36 :: u37 :: u38 :: u39 :: z40 :: z41 :: z42 :: z43 :: z44 :: z45 :: z46 :: z47 :: z48 :: z49 :: z50 :: z51 :: z52 :: z53 :: u54 :: u55 :: u56 :: u57 :: u58 :: u59 :: u60 :: u61 :: u62 :: u63 :: u64 :: u65 :: u66 :: u67 :: u68 :: u69 :: u70 :: u71 :: u72 :: u73 :: u74 :: u75 :: u76 :: u77 :: u78 :: u79 :: u80 :: u81 :: u82 :: u83 :: u84 :: u85 :: u86 :: u87 :: u88 :: u89 :: u90 :: u91 :: u92 :: u93 :: u94 :: u95 :: u96 :: u97 :: u98 :: u99 :: u100 :: u101 :: u102 :: u103 :: u104 :: u105 :: u106 :: u107 :: u108 :: u109 :: u110 :: u111 :: u112 :: u113 :: u114 :: u115 :: u116 :: u117 :: u118 :: u119 :: u120 :: u121 :: u122 :: u123 :: u124 :: u125 :: u126 :: u127 :: u128 :: u129 :: u130 :: u131 :: u132 :: u133 :: u134 :: u135 :: u136 :: u137 :: u138 :: u139 :: u140 :: u141 :: u142 :: u143 :: u144 :: u145 :: u146 :: u147 :: u148 :: u149 :: u150 :: u151 :: u152 :: u153 :: u154 :: u155 :: u156 :: u157 :: u158 :: u159 :: u160 :: u161 :: u162 :: u163 :: u164 :: u165 :: u166 :: u167 :: u168 :: u169 :: u170 :: u171 :: u172 :: u173 :: u174 :: u175 :: u176 :: u177 :: u178 :: u179 :: u180 :: u181 :: u182 :: u183 :: u184 :: u185 :: u186 :: u187 :: u188 :: u189 :: u190 :: u191 :: u192 :: u193 :: u194 :: u195 :: u196 :: u197 :: u198 :: u199 :: u200 :: u201 :: u202 :: u203 :: u204 :: u205 :: u206 :: u207 :: u208 :: u209 :: u210 :: u211 :: u212 :: u213 :: u214 :: u215 :: u216 :: [])) []) W3) := by
    intro bi hbi z40 z41 z42 z43 z44 z45 z46 z47 z48 z49 z50 z51 z52 z53
    refine HK11.out _ _ ?_
    clear HK11
    refine wp_seq_k fun K12 hK12 => ?_
    have HK12 : Hid _ := hK12
    clear hK12
    refine pr_12 W3 gc W.heap.size (W.heap.size + 1) C nx d at' z bi hM3 b2' b3 ⟨by omega, by omega, by omega⟩ (fun c a1 a2 w e h => hPn c a1 a2 w e h) hbi (by omega) (by omega) (by omega) ?_
    intro W4 a n c z13 z14 z15 z16 z17 z18 z19 z20 z21 z22 z23 z24 z25 z54 z55 z56 z57 z58 z59 z60 z61 z62 z63 z64 z65 z66 z67 z68 z69 z70 z71 z72 z73 z74 z75 z76 z77 z78 z79 z80 z81 z82 z83 z84 z85 z86 z87 z88 z89 z90 z91 z92 z93 z94 z95 z96 z97 z98 z99 z100 z101 z102 z103 z104 z105 z106 z107 z108 z109 z110 z111 z112 z113 z114 z115 z116 z117 z118 z119 z120 z121 z122 z123 z124 z125 z126 z127 z128 z129 z130 z131 z132 z133 z134 z135 z136 z137 z138 z139 z140 z141 z142 z143 z144 z145 z146 z147 z148 z149 z150 z151 z152 z153 z154 z155 z156 z157 z158 z159 z160 z161 z162 z163 z164 z165 z166 z167 z168 z169 z170 z171 z172 z173 z174 z175 z176 z177 z178 z179 z180 z181 z182 z183 z184 z185 z186 z187 z188 z189 z190 z191 z192 z193 z194 z195 z196 z197 z198 z199 z200 z201 z202 z203 z204 z205 z206 z207 z208 z209 z210 z211 hS
    (try simp only [Exit.inBlock, Exit.then])
    refine HK12.out _ _ ?_
    clear HK12
    have J := HJ.out
    have F04 : Frm (fun k => k = gc) W W4 := (Frm.of (p := fun k => k = gc) g23 (fun k e _ => by cases e)).trans hS.frm (fun i hi h => h.elim (fun h => h) (fun h => by omega))
    have hz4 := F04.size
    have hO4 := J.own.frm F04 (fun k h1 _ h => by omega)
    have hA4 : AnsZ W4 lo a n c (pkO (C, nx) (d, at', z)).2.1 := ⟨hS.own.own, fun g h => by have := hS.own.new g h; omega⟩
    refine pr_51 W4 lo (W.heap.size + 1) i co ao ⟨(pkO (C, nx) (d, at', z)).1, a, n, c, (pkO (C, nx) (d, at', z)).2.1, (pkO (C, nx) (d, at', z)).2.2.1, (pkO (C, nx) (d, at', z)).2.2.2⟩ xs hO4 hA4 hS.box (by omega) (by omega) ?_
    intro W5 gy cy z212 z213 z214 z215 h5 F5
    (try simp only [Exit.inBlock, Exit.then])
    refine HK33.out _ _ ?_
    clear HK33
    go_wp2
    (try simp only [Exit.inBlock, Exit.then])
    have hz5 := F5.size
    have hnb : ∀ k, k < lo → ¬ (Value.slice ao i co).ownBlock = some k := fun k hk h => by have := J.own.new k h; omega
    exact HQ.out W5 gy cy _ ⟨hS.mem.frm F5 (hnb gc hgc), h5, by rw [List.map_append, J.dat]; rfl, (J.fr.trans F04 (fun k hk h => by omega)).trans F5 (fun k hk h => (hnb k (by omega) h).elim), by omega⟩
  clear HK11 HJ
  by_cases h0 : 0 ≤ at'
  · by_cases h1 : at' < (C.length : Int)
    · have HB : Hid (true = decide (0 ≤ at' ∧ at' ≤ (C.length : Int) - 1)) := by show _ = _; rw [decide_eq_true ⟨h0, by omega⟩]
      go_wp2
      exact HT.out true HB.out
    · have HB : Hid (false = decide (0 ≤ at' ∧ at' ≤ (C.length : Int) - 1)) := by show _ = _; rw [decide_eq_false (fun h => h1 (by omega))]
      go_wp2
      exact HT.out false HB.out
  · have HB : Hid (false = decide (0 ≤ at' ∧ at' ≤ (C.length : Int) - 1)) := by show _ = _; rw [decide_eq_false (fun h => h0 h.1)]
    go_wp2
    exact HT.out false HB.out
end

section
open Go.RowKit Go.Shelf


theorem pkS_len (s : List Nat × Nat) (p : Int × Int × Int) : (pkS s p).1.length = s.1.length := by
  unfold pkS
  repeat' split
  all_goals first
    | rfl
    | exact List.length_set
    | exact mgC_len _ _ _
theorem pkR_len (s : List Nat × Nat) (F : Nat → Int × Int × Int) : ∀ i, (pkR s F i).1.length = s.1.length
  | 0 => rfl
  | i + 1 => (pkS_len _ _).trans (pkR_len s F i)
set_option maxHeartbeats 16000000 in
theorem pr_9s {u2 u3 u4 u5 u10 u11 u12 u13 u14 u15 u16 u17 u18 u19 u20 u21 u22 u23 u24 u25 u26 u27 u28 u29 u30 u31 u32 u33 u34 u35 u36 u37 u38 u39 u40 u41 u42 u43 u44 u45 u46 u47 u48 u49 u50 u51 u52 u53 u54 u55 u56 u57 u58 u59 u60 u61 u62 u63 u64 u65 u66 u67 u68 u69 u70 u71 u72 u73 u74 u75 u76 u77 u78 u79 u80 u81 u82 u83 u84 u85 u86 u87 u88 u89 u90 u91 u92 u93 u94 u95 u96 u97 u98 u99 u100 u101 u102 u103 u104 u105 u106 u107 u108 u109 u110 u111 u112 u113 u114 u115 u116 u117 u118 u119 u120 u121 u122 u123 u124 u125 u126 u127 u128 u129 u130 u131 u132 u133 u134 u135 u136 u137 u138 u139 u140 u141 u142 u143 u144 u145 u146 u147 u148 u149 u150 u151 u152 u153 u154 u155 u156 u157 u158 u159 u160 u161 u162 u163 u164 u165 u166 u167 u168 u169 u170 u171 u172 u173 u174 u175 u176 u177 u178 u179 u180 u181 u182 u183 u184 u185 u186 u187 u188 u189 u190 u191 u192 u193 u194 u195 u196 u197 u198 u199 u200 u201 u202 u203 u204 u205 u206 u207 u208 u209 u210 u211 u212 u213 u214 u215 u216 : Value} {Q : Exit → Act → World → Prop} (sz : Nat) (w0 W : World) (lo gc b off m cap i co : Nat) (ao : Option Addr) (C : List Nat) (nx : Nat) (F : Nat → Int × Int × Int) (xs : List Px) (L : List (Int × List Int × Int × Int)) (hl : C.length = sz) (J : PrI w0 lo gc (C, nx) i ao co xs L W)
    (hc : W.cell? ⟨b, off + i * 3, none⟩ = some (.int .i64 (F i).1) ∧ W.cell? ⟨b, off + i * 3 + 1, none⟩ = some (.int .i64 (F i).2.1) ∧ W.cell? ⟨b, off + i * 3 + 2, none⟩ = some (.int .i64 (F i).2.2)) (hi : i < m) (hm : m ≤ 1000000000000) (hgc : gc < lo) (hgc0 : w0.heap.size ≤ gc)
    (hPn : ∀ c (a1 a2 : Act) w, a1.defers = a2.defers → Q (.panic c) a1 w → Q (.panic c) a2 w)
    (hQ : ∀ W' gy cy x {z10 z11 z12 z13 z14 z15 z16 z17 z18 z19 z20 z21 z22 z23 z24 z25 z38 z39 z40 z41 z42 z43 z44 z45 z46 z47 z48 z49 z50 z51 z52 z53 z54 z55 z56 z57 z58 z59 z60 z61 z62 z63 z64 z65 z66 z67 z68 z69 z70 z71 z72 z73 z74 z75 z76 z77 z78 z79 z80 z81 z82 z83 z84 z85 z86 z87 z88 z89 z90 z91 z92 z93 z94 z95 z96 z97 z98 z99 z100 z101 z102 z103 z104 z105 z106 z107 z108 z109 z110 z111 z112 z113 z114 z115 z116 z117 z118 z119 z120 z121 z122 z123 z124 z125 z126 z127 z128 z129 z130 z131 z132 z133 z134 z135 z136 z137 z138 z139 z140 z141 z142 z143 z144 z145 z146 z147 z148 z149 z150 z151 z152 z153 z154 z155 z156 z157 z158 z159 z160 z161 z162 z163 z164 z165 z166 z167 z168 z169 z170 z171 z172 z173 z174 z175 z176 z177 z178 z179 z180 z181 z182 z183 z184 z185 z186 z187 z188 z189 z190 z191 z192 z193 z194 z195 z196 z197 z198 z199 z200 z201 z202 z203 z204 z205 z206 z207 z208 z209 z210 z211 z212 z213 z214 z215 : Value}, PrI w0 lo gc (pkS (C, nx) (F i)) (i + 1) (some ⟨gy, 0, none⟩) cy (xs ++ [x]) (L ++ [pkO (C, nx) (F i)]) W' → Q .normal (Act.mk (List.toArray ((.int .i64 (sz : Int)) :: (.slice (some ⟨b, off, none⟩) m cap) :: u2 :: u3 :: u4 :: u5 :: (.slice (some ⟨gc, 0, none⟩) sz sz) :: (.int .i64 ((pkS (C, nx) (F i)).2 : Nat)) :: (.slice (some ⟨gy, 0, none⟩) (i + 1) cy) :: (.int .i64 ((i + 1 : Nat) : Int)) :: z10 :: z11 :: z12 :: z13 :: z14 :: z15 :: z16 :: z17 :: z18 :: z19 :: z20 :: z21 :: z22 :: z23 :: z24 :: z25 :: u26 :: u27 :: u28 :: u29 :: u30 :: u31 :: u32 :: u33 :: u34 :: u35 :: u36 :: u37 :: z38 :: z39 :: z40 :: z41 :: z42 :: z43 :: z44 :: z45 :: z46 :: z47 :: z48 :: z49 :: z50 :: z51 :: z52 :: z53 :: z54 :: z55 :: z56 :: z57 :: z58 :: z59 :: z60 :: z61 :: z62 :: z63 :: z64 :: z65 :: z66 :: z67 :: z68 :: z69 :: z70 :: z71 :: z72 :: z73 :: z74 :: z75 :: z76 :: z77 :: z78 :: z79 :: z80 :: z81 :: z82 :: z83 :: z84 :: z85 :: z86 :: z87 :: z88 :: z89 :: z90 :: z91 :: z92 :: z93 :: z94 :: z95 :: z96 :: z97 :: z98 :: z99 :: z100 :: z101 :: z102 :: z103 :: z104 :: z105 :: z106 :: z107 :: z108 :: z109 :: z110 :: z111 :: z112 :: z113 :: z114 :: z115 :: z116 :: z117 :: z118 :: z119 :: z120 :: z121 :: z122 :: z123 :: z124 :: z125 :: z126 :: z127 :: z128 :: z129 :: z130 :: z131 :: z132 :: z133 :: z134 :: z135 :: z136 :: z137 :: z138 :: z139 :: z140 :: z141 :: z142 :: z143 :: z144 :: z145 :: z146 :: z147 :: z148 :: z149 :: z150 :: z151 :: z152 :: z153 :: z154 :: z155 :: z156 :: z157 :: z158 :: z159 :: z160 :: z161 :: z162 :: z163 :: z164 :: z165 :: z166 :: z167 :: z168 :: z169 :: z170 :: z171 :: z172 :: z173 :: z174 :: z175 :: z176 :: z177 :: z178 :: z179 :: z180 :: z181 :: z182 :: z183 :: z184 :: z185 :: z186 :: z187 :: z188 :: z189 :: z190 :: z191 :: z192 :: z193 :: z194 :: z195 :: z196 :: z197 :: z198 :: z199 :: z200 :: z201 :: z202 :: z203 :: z204 :: z205 :: z206 :: z207 :: z208 :: z209 :: z210 :: z211 :: z212 :: z213 :: z214 :: z215 :: u216 :: [])) []) W') :
    Code.wp Tryd.prog (tailR 9 (Tryd.f4.body.getD .skip)) Q (Act.mk (List.toArray ((.int .i64 (sz : Int)) :: (.slice (some ⟨b, off, none⟩) m cap) :: u2 :: u3 :: u4 :: u5 :: (.slice (some ⟨gc, 0, none⟩) sz sz) :: (.int .i64 (nx : Int)) :: (.slice ao i co) :: (.int .i64 (i : Nat)) :: u10 :: u11 :: u12 :: u13 :: u14 :: u15 :: u16 :: u17 :: u18 :: u19 :: u20 :: u21 :: u22 :: u23 :: u24 :: u25 :: u26 :: u27 :: u28 :: u29 :: u30 :: u31 :: u32 :: u33 :: u34 :: u35 :: u36 :: u37 :: u38 :: u39 :: u40 :: u41 :: u42 :: u43 :: u44 :: u45 :: u46 :: u47 :: u48 :: u49 :: u50 :: u51 :: u52 :: u53 :: u54 :: u55 :: u56 :: u57 :: u58 :: u59 :: u60 :: u61 :: u62 :: u63 :: u64 :: u65 :: u66 :: u67 :: u68 :: u69 :: u70 :: u71 :: u72 :: u73 :: u74 :: u75 :: u76 :: u77 :: u78 :: u79 :: u80 :: u81 :: u82 :: u83 :: u84 :: u85 :: u86 :: u87 :: u88 :: u89 :: u90 :: u91 :: u92 :: u93 :: u94 :: u95 :: u96 :: u97 :: u98 :: u99 :: u100 :: u101 :: u102 :: u103 :: u104 :: u105 :: u106 :: u107 :: u108 :: u109 :: u110 :: u111 :: u112 :: u113 :: u114 :: u115 :: u116 :: u117 :: u118 :: u119 :: u120 :: u121 :: u122 :: u123 :: u124 :: u125 :: u126 :: u127 :: u128 :: u129 :: u130 :: u131 :: u132 :: u133 :: u134 :: u135 :: u136 :: u137 :: u138 :: u139 :: u140 :: u141 :: u142 :: u143 :: u144 :: u145 :: u146 :: u147 :: u148 :: u149 :: u150 :: u151 :: u152 :: u153 :: u154 :: u155 :: u156 :: u157 :: u158 :: u159 :: u160 :: u161 :: u162 :: u163 :: u164 :: u165 :: u166 :: u167 :: u168 :: u169 :: u170 :: u171 :: u172 :: u173 :: u174 :: u175 :: u176 :: u177 :: u178 :: u179 :: u180 :: u181 :: u182 :: u183 :: u184 :: u185 :: u186 :: u187 :: u188 :: u189 :: u190 :: u191 :: u192 :: u193 :: u194 :: u195 :: u196 :: u197 :: u198 :: u199 :: u200 :: u201 :: u202 :: u203 :: u204 :: u205 :: u206 :: u207 :: u208 :: u209 :: u210 :: u211 :: u212 :: u213 :: u214 :: u215 :: u216 :: [])) []) W := by
  subst hl
  exact pr_9 w0 W lo gc b off m cap i co ao C nx F xs L J hc hi hm hgc hgc0 hPn @hQ
set_option maxHeartbeats 16000000 in
theorem poked_bad (z : Int) (a : Option Addr) (m cap : Nat) (w : World) (h : z < 1 ∨ 4096 < z) : Calls Tryd.prog 4 #[.int .i64 z, .slice a m cap] w fun e w' => e = .returned (.tuple #[.slice none 0 0, .int .i64 1]) ∧ w' = w := by
  by_cases h1 : z < 1
  · go_enter Tryd.func4, Tryd.ntmps4
    go_wp2
    refine bodyPost_ret (results_tmp2M (p := 4) (q := 5) (by kernel_rfl) _ _ _) rfl ?_
    exact ⟨rfl, rfl⟩
  · have h2 : 4096 < z := by omega
    clear h
    go_enter Tryd.func4, Tryd.ntmps4
    go_wp2
    refine bodyPost_ret (results_tmp2M (p := 4) (q := 5) (by kernel_rfl) _ _ _) rfl ?_
    exact ⟨rfl, rfl⟩
set_option maxHeartbeats 16000000 in
theorem poked_any (sz m cap : Nat) (a : Option Addr) (F : Nat → Int × Int × Int) (w0 : World) (hR : RdPk w0 a m cap F) (h1 : 1 ≤ sz) (h2 : sz ≤ 4096) (hm : m ≤ 1000000000000) :
    Calls Tryd.prog 4 #[.int .i64 sz, .slice a m cap] w0 fun e w' => ∃ ao co xs, e = .returned (.tuple #[.slice ao m co, .int .i64 0]) ∧ OwX w' w0.heap.size ao m co xs ∧ xs.map datX = pkT (List.replicate sz 0, 0) F m ∧ w0.grownBy w' none := by
  have hz1 : ¬ (sz : Int) < 1 := by omega
  have hz2 : ¬ (4096 : Int) < (sz : Int) := by omega
  have HR : Hid _ := hR
  clear hR
  go_enter Tryd.func4, Tryd.ntmps4
  go_wp2_with (first | (at_make; refine wpList_mkN w0 rfl (.tmp 32) (.tmp 32) rfl _ _ sz rfl rfl rfl rfl (by omega) ?_; intro w1 hB1 g1))
  have hM1 : MmR w1 w0.heap.size 0 (List.replicate sz 0) := ⟨hB1, (fun k _ => by rw [nth_rep]; omega), (by rw [List.length_replicate]; exact h1), (by rw [List.length_replicate]; exact h2), (by rw [List.length_replicate]; exact h1)⟩
  have F01 : Frm (fun _ => False) w0 w1 := Frm.of g1 (fun k e _ => by cases e)
  have hlt1 := hB1.lt
  have HM : Hid _ := hM1
  clear hM1 hB1
  go_loopw [7, 8, 9] (fun nv ov iv wr => ∃ (i co : Nat) (ao : Option Addr) (xs : List Px), i ≤ m ∧ nv = .int .i64 ((pkR (List.replicate sz 0, 0) F i).2 : Nat) ∧ ov = .slice ao i co ∧ iv = .int .i64 (i : Nat) ∧ PrI w0 w1.heap.size w0.heap.size (pkR (List.replicate sz 0, 0) F i) i ao co xs (pkT (List.replicate sz 0, 0) F i) wr) (fun _ _ iv _ => m - (intOf iv).toNat)
  case atStart => exact ⟨0, 0, none, [], Nat.zero_le _, rfl, rfl, rfl, ⟨HM.out, OwX.nil _ _, rfl, F01, Nat.le_refl _⟩⟩
  case round =>
    obtain ⟨i, co, ao, xs, hi, rfl, rfl, rfl, J⟩ := hrel
    have hln := pkR_len (List.replicate sz 0, 0) F i
    rw [show (List.replicate sz 0, 0).1.length = sz from List.length_replicate] at hln
    have HT : Hid (pkT (List.replicate sz 0, 0) F (i + 1) = pkT (List.replicate sz 0, 0) F i ++ [pkO (pkR (List.replicate sz 0, 0) F i) (F i)]) := rfl
    have HS : Hid (pkR (List.replicate sz 0, 0) F (i + 1) = pkS (pkR (List.replicate sz 0, 0) F i) (F i)) := rfl
    obtain ⟨C, nx, hs⟩ : ∃ C nx, pkR (List.replicate sz 0, 0) F i = (C, nx) := ⟨_, _, rfl⟩
    by_cases hlt : i < m
    · rw [hs] at J hln HT HS ⊢
      generalize pkT (List.replicate sz 0, 0) F i = L at J HT
      obtain ⟨b, off, rfl, hc⟩ := (HR.out.frm J.fr).at' (by omega)
      have hcW := hc i hlt
      have hlt' : (i : Int) < (m : Int) := by omega
      have HJ : Hid _ := J
      have HLn : Hid _ := hln
      have HCW : Hid _ := hcW
      clear hc hcW J hs hln
      refine wp_seq_k fun K1 hK1 => ?_
      have HK1 : Hid _ := hK1
      clear hK1
      go_wp2
      (try simp only [Exit.inBlock, Exit.then])
      refine HK1.out _ _ ?_
      clear HK1
      refine pr_9s sz w0 wr w1.heap.size w0.heap.size b off m cap i co ao C nx F xs L HLn.out HJ.out HCW.out hlt hm hlt1 (Nat.le_refl _) ?_ ?_
      · intro cc a1 a2 w e h
        cases a1
        cases a2
        simp only at e
        subst e
        exact h
      · intro W' gy cy x z10 z11 z12 z13 z14 z15 z16 z17 z18 z19 z20 z21 z22 z23 z24 z25 z38 z39 z40 z41 z42 z43 z44 z45 z46 z47 z48 z49 z50 z51 z52 z53 z54 z55 z56 z57 z58 z59 z60 z61 z62 z63 z64 z65 z66 z67 z68 z69 z70 z71 z72 z73 z74 z75 z76 z77 z78 z79 z80 z81 z82 z83 z84 z85 z86 z87 z88 z89 z90 z91 z92 z93 z94 z95 z96 z97 z98 z99 z100 z101 z102 z103 z104 z105 z106 z107 z108 z109 z110 z111 z112 z113 z114 z115 z116 z117 z118 z119 z120 z121 z122 z123 z124 z125 z126 z127 z128 z129 z130 z131 z132 z133 z134 z135 z136 z137 z138 z139 z140 z141 z142 z143 z144 z145 z146 z147 z148 z149 z150 z151 z152 z153 z154 z155 z156 z157 z158 z159 z160 z161 z162 z163 z164 z165 z166 z167 z168 z169 z170 z171 z172 z173 z174 z175 z176 z177 z178 z179 z180 z181 z182 z183 z184 z185 z186 z187 z188 z189 z190 z191 z192 z193 z194 z195 z196 z197 z198 z199 z200 z201 z202 z203 z204 z205 z206 z207 z208 z209 z210 z211 z212 z213 z214 z215 J'
        have HJ' : Hid _ := J'
        clear J'
        (try simp only [Exit.inBlock, Exit.then])
        go_roundw
        case rel => exact ⟨i + 1, cy, some ⟨gy, 0, none⟩, xs ++ [x], by omega, by rw [HS.out], rfl, rfl, by rw [HS.out, HT.out]; exact HJ'.out⟩
        case measure => simp [intOf]; omega
    · obtain rfl : i = m := by omega
      have HJ : Hid _ := J
      clear J hs
      go_wp2
      have J := HJ.out
      refine bodyPost_ret (results_tmp2M (p := 4) (q := 5) (by kernel_rfl) _ _ _) rfl ?_
      have hz1 := F01.size
      have hOf : OwX wr w0.heap.size ao i co xs := ⟨J.own.row, fun g e => by have := J.own.new g e; omega, fun x hx => ⟨(J.own.dat x hx).own, fun g e => by have := (J.own.dat x hx).new g e; omega⟩⟩
      have hGf : w0.grownBy wr none := ⟨J.fr.os, J.fr.tape, J.fr.output, J.fr.size, fun k hk _ => J.fr.block k hk (fun h => h)⟩
      first
        | exact ⟨ao, co, xs, rfl, hOf, J.dat, hGf⟩
        | exact ⟨ao, co, rfl, xs, hOf, J.dat, hGf⟩
        | exact ⟨ao, co, rfl, ⟨xs, hOf, J.dat⟩, hGf⟩
end
end Go.Proofs.YtgnicopijocnjaaDoor
