import Derived.Deep.CutBlock
import Derived.Test.YtnjdbbjhplebhaaPs11
import Derived.Test.YtnjdbbjhplebhaaPs1
namespace Go.Proofs.Ytnjdbbjhplebhaa
open Go.RowKit
set_option maxRecDepth 100000
set_option linter.unusedVariables false
set_option linter.unusedSimpArgs false

section
def SymOK (g cap n d : Nat) : Prop := ∀ (a m b : Nat) (H : List Ld) (w : World), b - a < d → a < m → m < b → b ≤ n → n = H.length → RwD w g cap H → SrtD H a m → SrtD H m b →
  Calls Try.prog 39 #[.slice (some ⟨g, 0, none⟩) n cap, .int .i64 (a : Nat), .int .i64 (m : Nat), .int .i64 (b : Nat), .func (.func 31) #[] #[]] w fun e w' => e = .returned (.tuple #[]) ∧ ∃ K, RwD w' g cap K ∧ SameD H K a b ∧ SrtD K a b ∧ w.grownBy w' (some g)
set_option maxHeartbeats 32000000 in
theorem sy_t43 {u5 u6 u7 u8 u9 u10 u11 u12 u13 u14 u15 u16 u17 u19 u20 u21 u22 u23 u25 u26 u27 u28 u29 u30 u31 u32 u33 u34 u35 u36 u37 u38 u39 u40 u41 u42 u43 u44 u45 u46 u47 u48 u49 u50 u51 u52 u53 u54 u55 u56 u57 u58 u59 u60 u61 u62 u63 u64 u65 u66 u67 u68 u69 u70 u71 u72 u73 u74 u75 u76 u77 u78 u79 u80 u81 u82 u83 u84 u85 u86 u87 u88 u89 u90 u91 u92 u93 u94 u95 u96 u97 u98 u99 u100 u101 u102 u103 u104 u105 u106 u107 u108 u109 u110 u111 u112 u113 u114 u115 u116 u117 u118 u119 u120 u121 u122 u123 u124 u125 u126 u127 u128 u129 u130 u131 u132 u133 u134 u135 u136 u137 u138 u139 u140 u141 u142 u143 u144 u145 u146 u147 u148 u149 u150 u151 u152 u153 u154 u155 u156 u157 u158 u159 u160 u161 u162 u163 u164 u165 u166 u167 u168 u169 u170 u171 u172 u173 u174 u175 u176 u177 u178 u179 u180 u181 u182 u183 u184 u185 u186 u187 u188 u189 u190 u191 u192 u193 u194 u195 u196 u197 u198 u199 u200 u201 u202 u203 u204 u205 u206 u207 u208 u209 u210 u211 u212 u213 u214 u215 u216 u217 u218 u219 : Value} (P : Ending → World → Prop) (w : World) (g cap n d a m b mid e : Nat) (K : List Ld) (hI : SymOK g cap n d) (hd : b - mid < d) (hme : mid ≤ e) (heb : e ≤ b) (hmb : mid < b) (hb : b ≤ n) (hn : n = K.length) (hn6 : n ≤ 1000000) (hR : RwD w g cap K) (s1 : SrtD K mid e) (s2 : SrtD K e b) (hP : ∀ w' K2, RwD w' g cap K2 → SameD K K2 mid b → SrtD K2 mid b → w.grownBy w' (some g) → P (.returned (.tuple #[])) w') :
    Code.wp Try.prog (tailR 43 (Try.f39.body.getD .skip)) (bodyPost Try.prog Try.f39 P) (Act.mk (List.toArray ((.slice (some ⟨g, 0, none⟩) n cap) :: (.int .i64 (a : Nat)) :: (.int .i64 (m : Nat)) :: (.int .i64 (b : Nat)) :: (.func (.func 31) #[] #[]) :: u5 :: u6 :: u7 :: u8 :: u9 :: u10 :: u11 :: u12 :: u13 :: u14 :: u15 :: u16 :: u17 :: (.int .i64 (mid : Nat)) :: u19 :: u20 :: u21 :: u22 :: u23 :: (.int .i64 (e : Nat)) :: u25 :: u26 :: u27 :: u28 :: u29 :: u30 :: u31 :: u32 :: u33 :: u34 :: u35 :: u36 :: u37 :: u38 :: u39 :: u40 :: u41 :: u42 :: u43 :: u44 :: u45 :: u46 :: u47 :: u48 :: u49 :: u50 :: u51 :: u52 :: u53 :: u54 :: u55 :: u56 :: u57 :: u58 :: u59 :: u60 :: u61 :: u62 :: u63 :: u64 :: u65 :: u66 :: u67 :: u68 :: u69 :: u70 :: u71 :: u72 :: u73 :: u74 :: u75 :: u76 :: u77 :: u78 :: u79 :: u80 :: u81 :: u82 :: u83 :: u84 :: u85 :: u86 :: u87 :: u88 :: u89 :: u90 :: u91 :: u92 :: u93 :: u94 :: u95 :: u96 :: u97 :: u98 :: u99 :: u100 :: u101 :: u102 :: u103 :: u104 :: u105 :: u106 :: u107 :: u108 :: u109 :: u110 :: u111 :: u112 :: u113 :: u114 :: u115 :: u116 :: u117 :: u118 :: u119 :: u120 :: u121 :: u122 :: u123 :: u124 :: u125 :: u126 :: u127 :: u128 :: u129 :: u130 :: u131 :: u132 :: u133 :: u134 :: u135 :: u136 :: u137 :: u138 :: u139 :: u140 :: u141 :: u142 :: u143 :: u144 :: u145 :: u146 :: u147 :: u148 :: u149 :: u150 :: u151 :: u152 :: u153 :: u154 :: u155 :: u156 :: u157 :: u158 :: u159 :: u160 :: u161 :: u162 :: u163 :: u164 :: u165 :: u166 :: u167 :: u168 :: u169 :: u170 :: u171 :: u172 :: u173 :: u174 :: u175 :: u176 :: u177 :: u178 :: u179 :: u180 :: u181 :: u182 :: u183 :: u184 :: u185 :: u186 :: u187 :: u188 :: u189 :: u190 :: u191 :: u192 :: u193 :: u194 :: u195 :: u196 :: u197 :: u198 :: u199 :: u200 :: u201 :: u202 :: u203 :: u204 :: u205 :: u206 :: u207 :: u208 :: u209 :: u210 :: u211 :: u212 :: u213 :: u214 :: u215 :: u216 :: u217 :: u218 :: u219 :: [])) []) w := by
  conv => enter [2]; whnf
  have HP : Hid _ := hP
  have HR : Hid _ := hR
  have S12 : Hid (SrtD K mid e ∧ SrtD K e b) := ⟨s1, s2⟩
  have hI0 := hI mid e b K w hd
  have HB : Hid (mid ≤ e ∧ e ≤ b ∧ mid < b) := ⟨hme, heb, hmb⟩
  clear hP hR s1 s2 hI hd
  by_cases h1 : mid < e
  · have l1 : (mid : Int) < (e : Int) := by omega
    by_cases h2 : e < b
    · have l2 : (e : Int) < (b : Int) := by omega
      have S0 := hI0 h1 h2 hb hn HR.out S12.out.1 S12.out.2
      clear hI0 hme heb hmb hb hn h1 h2
      go_wp2_with (go_at_call 39; refine S0.mono ?_; rintro e1 w9 ⟨rfl, K9, hR9, hS9, hD9, hG9⟩)
      go_end0
      exact HP.out _ K9 hR9 hS9 hD9 hG9
    · have l2 : ¬ (e : Int) < (b : Int) := by omega
      obtain rfl : e = b := by omega
      clear hI0 hme heb hmb hb hn h1 h2
      go_wp2
      go_end0
      exact HP.out _ K HR.out (SameD.refl _ _ _) S12.out.1 (World.grownBy.refl _ _)
  · have l1 : ¬ (mid : Int) < (e : Int) := by omega
    obtain rfl : mid = e := by omega
    clear hI0 hme heb hmb hb hn h1
    go_wp2
    go_end0
    exact HP.out _ K HR.out (SameD.refl _ _ _) S12.out.2 (World.grownBy.refl _ _)
set_option maxHeartbeats 32000000 in
theorem sy_t41 {u5 u6 u7 u8 u9 u10 u11 u12 u13 u14 u15 u16 u17 u19 u21 u22 u23 u25 u26 u27 u28 u29 u30 u31 u32 u33 u34 u35 u36 u37 u38 u39 u40 u41 u42 u43 u44 u45 u46 u47 u48 u49 u50 u51 u52 u53 u54 u55 u56 u57 u58 u59 u60 u61 u62 u63 u64 u65 u66 u67 u68 u69 u70 u71 u72 u73 u74 u75 u76 u77 u78 u79 u80 u81 u82 u83 u84 u85 u86 u87 u88 u89 u90 u91 u92 u93 u94 u95 u96 u97 u98 u99 u100 u101 u102 u103 u104 u105 u106 u107 u108 u109 u110 u111 u112 u113 u114 u115 u116 u117 u118 u119 u120 u121 u122 u123 u124 u125 u126 u127 u128 u129 u130 u131 u132 u133 u134 u135 u136 u137 u138 u139 u140 u141 u142 u143 u144 u145 u146 u147 u148 u149 u150 u151 u152 u153 u154 u155 u156 u157 u158 u159 u160 u161 u162 u163 u164 u165 u166 u167 u168 u169 u170 u171 u172 u173 u174 u175 u176 u177 u178 u179 u180 u181 u182 u183 u184 u185 u186 u187 u188 u189 u190 u191 u192 u193 u194 u195 u196 u197 u198 u199 u200 u201 u202 u203 u204 u205 u206 u207 u208 u209 u210 u211 u212 u213 u214 u215 u216 u217 u218 u219 : Value} (P : Ending → World → Prop) (w : World) (g cap n d a m b mid s e : Nat) (K : List Ld) (hI : SymOK g cap n d) (hd : b - a ≤ d) (had : a < mid) (hsa : a ≤ s) (hsm : s ≤ mid) (hme : mid ≤ e) (heb : e ≤ b) (hmb : mid < b) (hb : b ≤ n) (hn : n = K.length) (hn6 : n ≤ 1000000) (hR : RwD w g cap K) (hS : RotS (fun k => (K.getD k ld0).fr) a s mid e b) (hP : ∀ w' K2, RwD w' g cap K2 → SameD K K2 a b → SrtD K2 a b → w.grownBy w' (some g) → P (.returned (.tuple #[])) w') :
    Code.wp Try.prog (tailR 41 (Try.f39.body.getD .skip)) (bodyPost Try.prog Try.f39 P) (Act.mk (List.toArray ((.slice (some ⟨g, 0, none⟩) n cap) :: (.int .i64 (a : Nat)) :: (.int .i64 (m : Nat)) :: (.int .i64 (b : Nat)) :: (.func (.func 31) #[] #[]) :: u5 :: u6 :: u7 :: u8 :: u9 :: u10 :: u11 :: u12 :: u13 :: u14 :: u15 :: u16 :: u17 :: (.int .i64 (mid : Nat)) :: u19 :: (.int .i64 (s : Nat)) :: u21 :: u22 :: u23 :: (.int .i64 (e : Nat)) :: u25 :: u26 :: u27 :: u28 :: u29 :: u30 :: u31 :: u32 :: u33 :: u34 :: u35 :: u36 :: u37 :: u38 :: u39 :: u40 :: u41 :: u42 :: u43 :: u44 :: u45 :: u46 :: u47 :: u48 :: u49 :: u50 :: u51 :: u52 :: u53 :: u54 :: u55 :: u56 :: u57 :: u58 :: u59 :: u60 :: u61 :: u62 :: u63 :: u64 :: u65 :: u66 :: u67 :: u68 :: u69 :: u70 :: u71 :: u72 :: u73 :: u74 :: u75 :: u76 :: u77 :: u78 :: u79 :: u80 :: u81 :: u82 :: u83 :: u84 :: u85 :: u86 :: u87 :: u88 :: u89 :: u90 :: u91 :: u92 :: u93 :: u94 :: u95 :: u96 :: u97 :: u98 :: u99 :: u100 :: u101 :: u102 :: u103 :: u104 :: u105 :: u106 :: u107 :: u108 :: u109 :: u110 :: u111 :: u112 :: u113 :: u114 :: u115 :: u116 :: u117 :: u118 :: u119 :: u120 :: u121 :: u122 :: u123 :: u124 :: u125 :: u126 :: u127 :: u128 :: u129 :: u130 :: u131 :: u132 :: u133 :: u134 :: u135 :: u136 :: u137 :: u138 :: u139 :: u140 :: u141 :: u142 :: u143 :: u144 :: u145 :: u146 :: u147 :: u148 :: u149 :: u150 :: u151 :: u152 :: u153 :: u154 :: u155 :: u156 :: u157 :: u158 :: u159 :: u160 :: u161 :: u162 :: u163 :: u164 :: u165 :: u166 :: u167 :: u168 :: u169 :: u170 :: u171 :: u172 :: u173 :: u174 :: u175 :: u176 :: u177 :: u178 :: u179 :: u180 :: u181 :: u182 :: u183 :: u184 :: u185 :: u186 :: u187 :: u188 :: u189 :: u190 :: u191 :: u192 :: u193 :: u194 :: u195 :: u196 :: u197 :: u198 :: u199 :: u200 :: u201 :: u202 :: u203 :: u204 :: u205 :: u206 :: u207 :: u208 :: u209 :: u210 :: u211 :: u212 :: u213 :: u214 :: u215 :: u216 :: u217 :: u218 :: u219 :: [])) []) w := by
  conv => enter [2]; whnf
  have HP : Hid _ := hP
  have HS : Hid _ := hS
  have HI : Hid _ := hI
  have hI0 := hI a s mid K w (by omega)
  have FIN : Hid (∀ w' K1, RwD w' g cap K1 → SameD K K1 a mid → SrtD K1 a mid → w.grownBy w' (some g) → ∀ {u5 u6 u7 u8 u9 u10 u11 u12 u13 u14 u15 u16 u17 u19 u20 u21 u22 u23 u25 u26 u27 u28 u29 u30 u31 u32 u33 u34 u35 u36 u37 u38 u39 u40 u41 u42 u43 u44 u45 u46 u47 u48 u49 u50 u51 u52 u53 u54 u55 u56 u57 u58 u59 u60 u61 u62 u63 u64 u65 u66 u67 u68 u69 u70 u71 u72 u73 u74 u75 u76 u77 u78 u79 u80 u81 u82 u83 u84 u85 u86 u87 u88 u89 u90 u91 u92 u93 u94 u95 u96 u97 u98 u99 u100 u101 u102 u103 u104 u105 u106 u107 u108 u109 u110 u111 u112 u113 u114 u115 u116 u117 u118 u119 u120 u121 u122 u123 u124 u125 u126 u127 u128 u129 u130 u131 u132 u133 u134 u135 u136 u137 u138 u139 u140 u141 u142 u143 u144 u145 u146 u147 u148 u149 u150 u151 u152 u153 u154 u155 u156 u157 u158 u159 u160 u161 u162 u163 u164 u165 u166 u167 u168 u169 u170 u171 u172 u173 u174 u175 u176 u177 u178 u179 u180 u181 u182 u183 u184 u185 u186 u187 u188 u189 u190 u191 u192 u193 u194 u195 u196 u197 u198 u199 u200 u201 u202 u203 u204 u205 u206 u207 u208 u209 u210 u211 u212 u213 u214 u215 u216 u217 u218 u219 : Value}, Code.wp Try.prog (tailR 43 (Try.f39.body.getD .skip)) (bodyPost Try.prog Try.f39 P) (Act.mk (List.toArray ((.slice (some ⟨g, 0, none⟩) n cap) :: (.int .i64 (a : Nat)) :: (.int .i64 (m : Nat)) :: (.int .i64 (b : Nat)) :: (.func (.func 31) #[] #[]) :: u5 :: u6 :: u7 :: u8 :: u9 :: u10 :: u11 :: u12 :: u13 :: u14 :: u15 :: u16 :: u17 :: (.int .i64 (mid : Nat)) :: u19 :: u20 :: u21 :: u22 :: u23 :: (.int .i64 (e : Nat)) :: u25 :: u26 :: u27 :: u28 :: u29 :: u30 :: u31 :: u32 :: u33 :: u34 :: u35 :: u36 :: u37 :: u38 :: u39 :: u40 :: u41 :: u42 :: u43 :: u44 :: u45 :: u46 :: u47 :: u48 :: u49 :: u50 :: u51 :: u52 :: u53 :: u54 :: u55 :: u56 :: u57 :: u58 :: u59 :: u60 :: u61 :: u62 :: u63 :: u64 :: u65 :: u66 :: u67 :: u68 :: u69 :: u70 :: u71 :: u72 :: u73 :: u74 :: u75 :: u76 :: u77 :: u78 :: u79 :: u80 :: u81 :: u82 :: u83 :: u84 :: u85 :: u86 :: u87 :: u88 :: u89 :: u90 :: u91 :: u92 :: u93 :: u94 :: u95 :: u96 :: u97 :: u98 :: u99 :: u100 :: u101 :: u102 :: u103 :: u104 :: u105 :: u106 :: u107 :: u108 :: u109 :: u110 :: u111 :: u112 :: u113 :: u114 :: u115 :: u116 :: u117 :: u118 :: u119 :: u120 :: u121 :: u122 :: u123 :: u124 :: u125 :: u126 :: u127 :: u128 :: u129 :: u130 :: u131 :: u132 :: u133 :: u134 :: u135 :: u136 :: u137 :: u138 :: u139 :: u140 :: u141 :: u142 :: u143 :: u144 :: u145 :: u146 :: u147 :: u148 :: u149 :: u150 :: u151 :: u152 :: u153 :: u154 :: u155 :: u156 :: u157 :: u158 :: u159 :: u160 :: u161 :: u162 :: u163 :: u164 :: u165 :: u166 :: u167 :: u168 :: u169 :: u170 :: u171 :: u172 :: u173 :: u174 :: u175 :: u176 :: u177 :: u178 :: u179 :: u180 :: u181 :: u182 :: u183 :: u184 :: u185 :: u186 :: u187 :: u188 :: u189 :: u190 :: u191 :: u192 :: u193 :: u194 :: u195 :: u196 :: u197 :: u198 :: u199 :: u200 :: u201 :: u202 :: u203 :: u204 :: u205 :: u206 :: u207 :: u208 :: u209 :: u210 :: u211 :: u212 :: u213 :: u214 :: u215 :: u216 :: u217 :: u218 :: u219 :: [])) []) w') := by
    intro w' K1 hR1 hS1 hD1 hG1 u5 u6 u7 u8 u9 u10 u11 u12 u13 u14 u15 u16 u17 u19 u20 u21 u22 u23 u25 u26 u27 u28 u29 u30 u31 u32 u33 u34 u35 u36 u37 u38 u39 u40 u41 u42 u43 u44 u45 u46 u47 u48 u49 u50 u51 u52 u53 u54 u55 u56 u57 u58 u59 u60 u61 u62 u63 u64 u65 u66 u67 u68 u69 u70 u71 u72 u73 u74 u75 u76 u77 u78 u79 u80 u81 u82 u83 u84 u85 u86 u87 u88 u89 u90 u91 u92 u93 u94 u95 u96 u97 u98 u99 u100 u101 u102 u103 u104 u105 u106 u107 u108 u109 u110 u111 u112 u113 u114 u115 u116 u117 u118 u119 u120 u121 u122 u123 u124 u125 u126 u127 u128 u129 u130 u131 u132 u133 u134 u135 u136 u137 u138 u139 u140 u141 u142 u143 u144 u145 u146 u147 u148 u149 u150 u151 u152 u153 u154 u155 u156 u157 u158 u159 u160 u161 u162 u163 u164 u165 u166 u167 u168 u169 u170 u171 u172 u173 u174 u175 u176 u177 u178 u179 u180 u181 u182 u183 u184 u185 u186 u187 u188 u189 u190 u191 u192 u193 u194 u195 u196 u197 u198 u199 u200 u201 u202 u203 u204 u205 u206 u207 u208 u209 u210 u211 u212 u213 u214 u215 u216 u217 u218 u219
    have hl := hS1.len
    refine sy_t43 P w' g cap n d a m b mid e K1 hI (by omega) hme heb hmb hb (by omega) hn6 hR1 ?_ ?_ ?_
    · intro p q z1 z2 z3
      rw [hS1.out p (.inr z1), hS1.out q (.inr (by omega))]
      exact hS.r3 p q z1 z2 z3
    · intro p q z1 z2 z3
      rw [hS1.out p (.inr (by omega)), hS1.out q (.inr (by omega))]
      exact hS.r4 p q z1 z2 z3
    · intro w2 K2 hR2 hS2 hD2 hG2
      exact hP w2 K2 hR2 ((hS1.wide (Nat.le_refl _) (by omega)).trans (hS2.wide (by omega) (Nat.le_refl _))) (halves (by omega) (by omega) (by omega) hS.cr hS1 hD1 hS2 hD2) (hG1.trans hG2)
  have HR : Hid _ := hR
  have hmn : mid ≤ n := by omega
  clear hP hS hI hR hd heb hme hmb
  refine wp_seq_k fun K5 hK5 => ?_
  have HK5 : Hid _ := hK5
  clear hK5
  by_cases h1 : a < s
  · have l1 : (a : Int) < (s : Int) := by omega
    by_cases h2 : s < mid
    · have l2 : (s : Int) < (mid : Int) := by omega
      have S0 := hI0 h1 h2 hmn hn HR.out HS.out.r1 HS.out.r2
      clear hI0 had hsa hsm hb hn h1 h2
      go_wp2_with (go_at_call 39; refine S0.mono ?_; rintro e1 w9 ⟨rfl, K9, hR9, hS9, hD9, hG9⟩)
      refine HK5.out _ _ ?_
      exact FIN.out w9 K9 hR9 hS9 hD9 hG9
    · have l2 : ¬ (s : Int) < (mid : Int) := by omega
      have hsx : s = mid := by omega
      have HD : Hid (SrtD K a mid) := by show SrtD K a mid; rw [← hsx]; exact HS.out.r1
      clear hI0 had hsa hsm hb hn h1 h2 hsx
      go_wp2
      refine HK5.out _ _ ?_
      exact FIN.out w K HR.out (SameD.refl _ _ _) HD.out (World.grownBy.refl _ _)
  · have l1 : ¬ (a : Int) < (s : Int) := by omega
    have hsx : a = s := by omega
    have HD : Hid (SrtD K a mid) := by
      show SrtD K a mid
      have := HS.out.r2
      rw [← hsx] at this
      exact this
    clear hI0 had hsa hsm hb hn h1 hsx
    go_wp2
    refine HK5.out _ _ ?_
    exact FIN.out w K HR.out (SameD.refl _ _ _) HD.out (World.grownBy.refl _ _)
set_option maxHeartbeats 32000000 in
theorem sy_t32 {u5 u6 u7 u8 u9 u10 u11 u12 u13 u14 u15 u16 u17 u22 u23 u24 u25 u26 u27 u28 u29 u30 u31 u32 u33 u34 u35 u36 u37 u38 u39 u40 u41 u42 u43 u44 u45 u46 u47 u48 u49 u50 u51 u52 u53 u54 u55 u56 u57 u58 u59 u60 u61 u62 u63 u64 u65 u66 u67 u68 u69 u70 u71 u72 u73 u74 u75 u76 u77 u78 u79 u80 u81 u82 u83 u84 u85 u86 u87 u88 u89 u90 u91 u92 u93 u94 u95 u96 u97 u98 u99 u100 u101 u102 u103 u104 u105 u106 u107 u108 u109 u110 u111 u112 u113 u114 u115 u116 u117 u118 u119 u120 u121 u122 u123 u124 u125 u126 u127 u128 u129 u130 u131 u132 u133 u134 u135 u136 u137 u138 u139 u140 u141 u142 u143 u144 u145 u146 u147 u148 u149 u150 u151 u152 u153 u154 u155 u156 u157 u158 u159 u160 u161 u162 u163 u164 u165 u166 u167 u168 u169 u170 u171 u172 u173 u174 u175 u176 u177 u178 u179 u180 u181 u182 u183 u184 u185 u186 u187 u188 u189 u190 u191 u192 u193 u194 u195 u196 u197 u198 u199 u200 u201 u202 u203 u204 u205 u206 u207 u208 u209 u210 u211 u212 u213 u214 u215 u216 u217 u218 u219 : Value} (P : Ending → World → Prop) (w : World) (g cap n d a m b mid nn lo hi : Nat) (H : List Ld) (hI : SymOK g cap n d) (hd : b - a ≤ d) (ham : a + 1 < m) (hmb : m + 1 < b) (hb : b ≤ n) (hmid : mid = (a + b) / 2) (hnn : nn = mid + m) (hlo : a ≤ lo ∧ nn ≤ lo + b ∧ lo ≤ hi ∧ hi ≤ m ∧ hi ≤ mid ∧ (lo = a ∨ lo + b = nn) ∧ (hi = m ∨ hi = mid)) (hn : n = H.length) (hn6 : n ≤ 1000000) (hR : RwD w g cap H) (s1 : SrtD H a m) (s2 : SrtD H m b) (hP : ∀ w' K2, RwD w' g cap K2 → SameD H K2 a b → SrtD K2 a b → w.grownBy w' (some g) → P (.returned (.tuple #[])) w') :
    Code.wp Try.prog (tailR 32 (Try.f39.body.getD .skip)) (bodyPost Try.prog Try.f39 P) (Act.mk (List.toArray ((.slice (some ⟨g, 0, none⟩) n cap) :: (.int .i64 (a : Nat)) :: (.int .i64 (m : Nat)) :: (.int .i64 (b : Nat)) :: (.func (.func 31) #[] #[]) :: u5 :: u6 :: u7 :: u8 :: u9 :: u10 :: u11 :: u12 :: u13 :: u14 :: u15 :: u16 :: u17 :: (.int .i64 (mid : Nat)) :: (.int .i64 (nn : Nat)) :: (.int .i64 (lo : Nat)) :: (.int .i64 (hi : Nat)) :: u22 :: u23 :: u24 :: u25 :: u26 :: u27 :: u28 :: u29 :: u30 :: u31 :: u32 :: u33 :: u34 :: u35 :: u36 :: u37 :: u38 :: u39 :: u40 :: u41 :: u42 :: u43 :: u44 :: u45 :: u46 :: u47 :: u48 :: u49 :: u50 :: u51 :: u52 :: u53 :: u54 :: u55 :: u56 :: u57 :: u58 :: u59 :: u60 :: u61 :: u62 :: u63 :: u64 :: u65 :: u66 :: u67 :: u68 :: u69 :: u70 :: u71 :: u72 :: u73 :: u74 :: u75 :: u76 :: u77 :: u78 :: u79 :: u80 :: u81 :: u82 :: u83 :: u84 :: u85 :: u86 :: u87 :: u88 :: u89 :: u90 :: u91 :: u92 :: u93 :: u94 :: u95 :: u96 :: u97 :: u98 :: u99 :: u100 :: u101 :: u102 :: u103 :: u104 :: u105 :: u106 :: u107 :: u108 :: u109 :: u110 :: u111 :: u112 :: u113 :: u114 :: u115 :: u116 :: u117 :: u118 :: u119 :: u120 :: u121 :: u122 :: u123 :: u124 :: u125 :: u126 :: u127 :: u128 :: u129 :: u130 :: u131 :: u132 :: u133 :: u134 :: u135 :: u136 :: u137 :: u138 :: u139 :: u140 :: u141 :: u142 :: u143 :: u144 :: u145 :: u146 :: u147 :: u148 :: u149 :: u150 :: u151 :: u152 :: u153 :: u154 :: u155 :: u156 :: u157 :: u158 :: u159 :: u160 :: u161 :: u162 :: u163 :: u164 :: u165 :: u166 :: u167 :: u168 :: u169 :: u170 :: u171 :: u172 :: u173 :: u174 :: u175 :: u176 :: u177 :: u178 :: u179 :: u180 :: u181 :: u182 :: u183 :: u184 :: u185 :: u186 :: u187 :: u188 :: u189 :: u190 :: u191 :: u192 :: u193 :: u194 :: u195 :: u196 :: u197 :: u198 :: u199 :: u200 :: u201 :: u202 :: u203 :: u204 :: u205 :: u206 :: u207 :: u208 :: u209 :: u210 :: u211 :: u212 :: u213 :: u214 :: u215 :: u216 :: u217 :: u218 :: u219 :: [])) []) w := by
  conv => enter [2]; whnf
  have HP : Hid _ := hP
  have S12 : Hid (SrtD H a m ∧ SrtD H m b) := ⟨s1, s2⟩
  have HI : Hid _ := hI
  have HNN : Hid _ := hn
  obtain ⟨p, hp⟩ : ∃ p, p = nn - 1 := ⟨_, rfl⟩
  have hpi : (nn : Int) - 1 = (p : Int) := by omega
  have HB : Hid (b - a ≤ d ∧ a + 1 < m ∧ m + 1 < b ∧ b ≤ n ∧ mid = (a + b) / 2 ∧ nn = mid + m ∧ n ≤ 1000000 ∧ p = nn - 1) := ⟨hd, ham, hmb, hb, hmid, hnn, hn6, hp⟩
  have HLO : Hid _ := hlo
  have HW : Hid _ := hR
  have hnn6 : (nn : Int) ≤ 2000000 := by omega
  have hp6 : (p : Int) ≤ 2000000 := by omega
  have hm6 : (m : Int) ≤ 1000000 := by omega
  clear hP s1 s2 hI hn hp hd ham hmb hb hmid hnn hlo hR
  refine wp_seq_k fun K0 hK0 => ?_
  have HK0 : Hid _ := hK0
  clear hK0
  go_wp2
  refine HK0.out _ _ ?_
  clear HK0
  refine wp_seq_k fun K1 hK1 => ?_
  have HK1 : Hid _ := hK1
  clear hK1
  refine wp_block ?_
  go_loopw [20, 21] (fun v20 v21 wr => ∃ i j : Nat, lo ≤ i ∧ i ≤ j ∧ j ≤ hi ∧ v20 = .int .i64 (i : Nat) ∧ v21 = .int .i64 (j : Nat) ∧ Hid (RwD wr g cap H) ∧ Hid (∀ h, lo ≤ h → h < i → (H.getD h ld0).fr ≤ (H.getD (p - h) ld0).fr) ∧ Hid (∀ h, j ≤ h → h < hi → (H.getD (p - h) ld0).fr < (H.getD h ld0).fr) ∧ Hid (w.grownBy wr (some g))) (fun v20 v21 _ => (intOf v21).toNat - (intOf v20).toNat)
  case atStart => exact ⟨lo, hi, Nat.le_refl _, HLO.out.2.2.1, Nat.le_refl _, rfl, rfl, HW.out, (fun h h1 h2 => absurd h1 (by omega)), (fun h h1 h2 => absurd h1 (by omega)), World.grownBy.refl _ _⟩
  case round =>
    obtain ⟨i, j, hai, hij, hjm, rfl, rfl, hR, hgo, hno, hg⟩ := hrel
    obtain ⟨l1, l2, l3, l4, l5, l6, l7⟩ := HLO.out
    obtain ⟨q1, q2, q3, q4, q5, q6, q7, q8⟩ := HB.out
    by_cases hlt : i < j
    · have lk : (i : Int) < (j : Int) := by omega
      have hi6 : (i : Int) ≤ 1000000 := by omega
      have hj6 : (j : Int) ≤ 1000000 := by omega
      obtain ⟨c, hc⟩ : ∃ c, c = (i + j) / 2 := ⟨_, rfl⟩
      have hci : ((i : Int) + (j : Int)) / 2 = (c : Int) := by omega
      obtain ⟨Y, hY⟩ : ∃ Y, Y = p - c := ⟨_, rfl⟩
      have hYi : (p : Int) - (c : Int) = (Y : Int) := by omega
      have hcn : (c : Int) < (n : Int) := by omega
      have hYn : (Y : Int) < (n : Int) := by omega
      have hc6 : (c : Int) ≤ 1000000 := by omega
      have hwY : IntKind.i64.wrap (Y : Int) = (Y : Int) := wrap_inP _ (by omega) (by omega)
      have HXL : Hid (Y < H.length) := by show Y < H.length; rw [← HNN.out]; omega
      have HYL : Hid (c < H.length) := by show c < H.length; rw [← HNN.out]; omega
      have HQ : Hid (lo ≤ i ∧ i ≤ c ∧ c < j ∧ j ≤ hi ∧ Y = p - c) := ⟨hai, by omega, by omega, hjm, hY⟩
      clear hc hY q1 q2 q3 q4 q5 q6 q7 q8 l1 l2 l3 l4 l5 l6 l7 hai hij hjm hlt
      go_upto_region 35 with fail
      have hx := hR.out.range (i := Y) HXL.out
      have hy := hR.out.range (i := c) HYL.out
      obtain ⟨x, hX⟩ : ∃ x, x = H.getD Y ld0 := ⟨_, rfl⟩
      obtain ⟨y, hY⟩ : ∃ y, y = H.getD c ld0 := ⟨_, rfl⟩
      rw [← hX] at hx
      rw [← hY] at hy
      have HX : Hid _ := hX
      have HY : Hid _ := hY
      clear hX hY
      obtain ⟨bb, hbb⟩ : ∃ bb, bb = decide ((x.fr : Int) < (y.fr : Int)) := ⟨_, rfl⟩
      have hcmp : decide (cN (x.fr : Int) (y.fr : Int) < 0) = bb := by rw [cN_lt, hbb]
      have HBB : Hid _ := hbb
      clear hbb
      have Gd := grown_drew wr none
      have SS : wr.drew.rangeAt g (Y * 4) x.cells ∧ wr.drew.rangeAt g (c * 4) y.cells := ⟨range_grown hx Gd, range_grown hy Gd⟩
      refine wp_regionM (fun wz => wz.rangeAt g (Y * 4) x.cells ∧ wz.rangeAt g (c * 4) y.cells) [] #[false, false, false, false, false, false, false, false, false, false, false, false, false, false] rfl (by kernel_rfl) ?_
      have HGd : Hid _ := Gd
      clear Gd
      generalize wr.drew = wd at *
      refine wpAnyY_takeF 0 (.func (.func 31) #[] #[]) rfl (by kernel_rfl) (fun _ _ _ h => h) rfl (by intro wz; go_simp; try rfl) ?_
      try simp only [List.getElem_toArray, List.getElem_cons_succ, List.getElem_cons_zero, Act.put, List.setIfInBounds_toArray, List.set_cons_zero, List.set_cons_succ]
      refine wpAnyY_takeF 1 (.slice (some ⟨g, 0, none⟩) n cap) rfl (by kernel_rfl) (fun _ _ _ h => h) rfl (by intro wz; go_simp; try rfl) ?_
      try simp only [List.getElem_toArray, List.getElem_cons_succ, List.getElem_cons_zero, Act.put, List.setIfInBounds_toArray, List.set_cons_zero, List.set_cons_succ]
      refine wpAnyY_takeF 2 (.int .i64 (p : Nat)) rfl (by kernel_rfl) (fun _ _ _ h => h) rfl (by intro wz; go_simp; try rfl) ?_
      try simp only [List.getElem_toArray, List.getElem_cons_succ, List.getElem_cons_zero, Act.put, List.setIfInBounds_toArray, List.set_cons_zero, List.set_cons_succ]
      refine wpAnyY_takeF 3 (.int .i64 (c : Nat)) rfl (by kernel_rfl) (fun _ _ _ h => h) rfl (by intro wz; go_simp; try rfl) ?_
      try simp only [List.getElem_toArray, List.getElem_cons_succ, List.getElem_cons_zero, Act.put, List.setIfInBounds_toArray, List.set_cons_zero, List.set_cons_succ]
      refine wpAnyY_takeF 4 (.int .i64 (Y : Nat)) rfl (by kernel_rfl) (fun _ _ _ h => h) rfl (by intro wz; go_simp; try rfl) ?_
      try simp only [List.getElem_toArray, List.getElem_cons_succ, List.getElem_cons_zero, Act.put, List.setIfInBounds_toArray, List.set_cons_zero, List.set_cons_succ]
      refine wpAnyY_takeF 5 (.pointer (some ⟨g, Y * 4, none⟩)) rfl (by kernel_rfl) (fun _ _ _ h => h) rfl (by intro wz; go_simp; try rfl) ?_
      try simp only [List.getElem_toArray, List.getElem_cons_succ, List.getElem_cons_zero, Act.put, List.setIfInBounds_toArray, List.set_cons_zero, List.set_cons_succ]
      refine wpAnyY_take [] 6 (.agg #[.int .i64 (x.pl : Int), .int .i64 (x.fr : Int), .int .i64 (x.by' : Int), .int .i64 (x.lf : Int)]) rfl (by kernel_rfl) (fun _ _ _ h => h) SS rfl (fun wz hz => ldMR rfl rfl hz.1 Try.underlying55 rfl (by rw [Try.info_ld]; rfl)) ?_
      try simp only [List.getElem_toArray, List.getElem_cons_succ, List.getElem_cons_zero, Act.put, List.setIfInBounds_toArray, List.set_cons_zero, List.set_cons_succ]
      refine wpAnyY_takeF 7 (.slice (some ⟨g, 0, none⟩) n cap) rfl (by kernel_rfl) (fun _ _ _ h => h) rfl (by intro wz; go_simp; try rfl) ?_
      try simp only [List.getElem_toArray, List.getElem_cons_succ, List.getElem_cons_zero, Act.put, List.setIfInBounds_toArray, List.set_cons_zero, List.set_cons_succ]
      refine wpAnyY_takeF 8 (.int .i64 (c : Nat)) rfl (by kernel_rfl) (fun _ _ _ h => h) rfl (by intro wz; go_simp; try rfl) ?_
      try simp only [List.getElem_toArray, List.getElem_cons_succ, List.getElem_cons_zero, Act.put, List.setIfInBounds_toArray, List.set_cons_zero, List.set_cons_succ]
      refine wpAnyY_takeF 9 (.pointer (some ⟨g, c * 4, none⟩)) rfl (by kernel_rfl) (fun _ _ _ h => h) rfl (by intro wz; go_simp; try rfl) ?_
      try simp only [List.getElem_toArray, List.getElem_cons_succ, List.getElem_cons_zero, Act.put, List.setIfInBounds_toArray, List.set_cons_zero, List.set_cons_succ]
      refine wpAnyY_take [] 10 (.agg #[.int .i64 (y.pl : Int), .int .i64 (y.fr : Int), .int .i64 (y.by' : Int), .int .i64 (y.lf : Int)]) rfl (by kernel_rfl) (fun _ _ _ h => h) SS rfl (fun wz hz => ldMR rfl rfl hz.2 Try.underlying55 rfl (by rw [Try.info_ld]; rfl)) ?_
      try simp only [List.getElem_toArray, List.getElem_cons_succ, List.getElem_cons_zero, Act.put, List.setIfInBounds_toArray, List.set_cons_zero, List.set_cons_succ]
      refine wpAnyY_oneB 11 rfl (by kernel_rfl) (fun KK hKK => ?_)
      go_simp
      go_at_call 31
      refine (lcmp_any x y _).mono ?_
      rintro e w3 ⟨rfl, g3⟩
      dsimp only
      refine hKK _ _ (fun h _ => ⟨range_grown h.1 g3, range_grown h.2 g3⟩) ?_
      try simp only [List.getElem_toArray, List.getElem_cons_succ, List.getElem_cons_zero, Act.put, List.setIfInBounds_toArray, List.set_cons_zero, List.set_cons_succ]
      refine wpAnyY_takeF 12 (.bool bb) rfl (by kernel_rfl) (fun _ _ _ h => h) rfl (by intro wz; go_simp; try rfl) ?_
      try simp only [List.getElem_toArray, List.getElem_cons_succ, List.getElem_cons_zero, Act.put, List.setIfInBounds_toArray, List.set_cons_zero, List.set_cons_succ]
      refine wpAnyY_takeF 13 (.bool (!bb)) rfl (by kernel_rfl) (fun _ _ _ h => h) rfl (by intro wz; go_simp; try rfl) ?_
      try simp only [List.getElem_toArray, List.getElem_cons_succ, List.getElem_cons_zero, Act.put, List.setIfInBounds_toArray, List.set_cons_zero, List.set_cons_succ]
      refine wpAnyY_doneB (by kernel_rfl) ?_ _
      (try simp only [Exit.then, Exit.inBlock])
      have HR3 : Hid (RwD w3 g cap H) := (hR.out.keep HGd.out (by simp)).keep g3 (by simp)
      have HG3 : Hid (w.grownBy w3 (some g)) := hg.out.trans ((grown_weak HGd.out _).trans (grown_weak g3 _))
      clear SS hx hy g3 hcmp
      apply_assumption
      cases bb with
      | false =>
        have hlt := of_decide_eq_false HBB.out.symm
        have HLT : Hid ((H.getD c ld0).fr ≤ (H.getD (p - c) ld0).fr) := by show _ ≤ _; rw [← HQ.out.2.2.2.2, ← HX.out, ← HY.out]; omega
        clear hlt
        go_wp2
        obtain ⟨l1, l2, l3, l4, l5, l6, l7⟩ := HLO.out
        obtain ⟨q1, q2, q3, q4, q5, q6, q7, q8⟩ := HB.out
        obtain ⟨e1, e2, e3, e4, e5⟩ := HQ.out
        refine ⟨⟨c + 1, j, by omega, by omega, e4, by go_num, rfl, HR3.out, fun h h1 h2 => ?_, hno.out, HG3.out⟩, by simp [intOf] <;> omega⟩
        have z1 := SrtF.le (f := fun k => (H.getD k ld0).fr) S12.out.1 (p := h) (q := c) (by omega) (by omega) (by omega)
        have z2 := SrtF.le (f := fun k => (H.getD k ld0).fr) S12.out.2 (p := p - c) (q := p - h) (by omega) (by omega) (by omega)
        exact Nat.le_trans z1 (Nat.le_trans HLT.out z2)
      | true =>
        have hlt := of_decide_eq_true HBB.out.symm
        have HLT : Hid ((H.getD (p - c) ld0).fr < (H.getD c ld0).fr) := by show _ < _; rw [← HQ.out.2.2.2.2, ← HX.out, ← HY.out]; omega
        clear hlt
        go_wp2
        obtain ⟨l1, l2, l3, l4, l5, l6, l7⟩ := HLO.out
        obtain ⟨q1, q2, q3, q4, q5, q6, q7, q8⟩ := HB.out
        obtain ⟨e1, e2, e3, e4, e5⟩ := HQ.out
        refine ⟨⟨i, c, e1, e2, by omega, rfl, rfl, HR3.out, hgo.out, fun h h1 h2 => ?_, HG3.out⟩, by simp [intOf] <;> omega⟩
        have z1 := SrtF.le (f := fun k => (H.getD k ld0).fr) S12.out.1 (p := c) (q := h) (by omega) h1 (by omega)
        have z2 := SrtF.le (f := fun k => (H.getD k ld0).fr) S12.out.2 (p := p - h) (q := p - c) (by omega) (by omega) (by omega)
        exact Nat.lt_of_le_of_lt z2 (Nat.lt_of_lt_of_le HLT.out z1)
    · obtain rfl : i = j := by omega
      have lk : ¬ (i : Int) < (i : Int) := by omega
      have hi6 : (i : Int) ≤ 1000000 := by omega
      obtain ⟨e, he⟩ : ∃ e, e = nn - i := ⟨_, rfl⟩
      have hei : (nn : Int) - (i : Int) = (e : Int) := by omega
      have HR0 : Hid (RwD wr g cap H) := hR.out
      have HG0 : Hid (w.grownBy wr (some g)) := hg.out
      -- the rotation's outcome is fit for what comes behind
      have hRS := rot_srt (f := fun q => (H.getD q ld0).fr) (a := a) (s := i) (m := m) (e := e) (b := b) S12.out.1 S12.out.2 (by omega) (by omega) (by omega) (by omega) (fun h1 h2 => by
          have := hgo.out (i - 1) (by omega) (by omega)
          rwa [show p - (i - 1) = e by omega] at this) (fun h1 h2 => by
          have := hno.out i (Nat.le_refl _) (by omega)
          rw [show p - i = e - 1 by omega] at this
          exact Nat.le_of_lt this)
      rw [show i + (e - m) = mid by omega] at hRS
      have HRS : Hid _ := hRS
      have HE : Hid (a ≤ i ∧ i ≤ m ∧ i ≤ mid ∧ e = nn - i ∧ mid ≤ e ∧ m ≤ e ∧ e ≤ b ∧ a < mid ∧ mid < b) := ⟨by omega, by omega, by omega, he, by omega, by omega, by omega, by omega, by omega⟩
      have FIN : Hid (∀ w' K, RwD w' g cap K → K.Perm H → (∀ q, K.getD q ld0 = rotF (fun q => H.getD q ld0) i m e q) → wr.grownBy w' (some g) → ∀ {u5 u6 u7 u8 u9 u10 u11 u12 u13 u14 u15 u16 u17 u19 u21 u22 u23 u25 u26 u27 u28 u29 u30 u31 u32 u33 u34 u35 u36 u37 u38 u39 u40 u41 u42 u43 u44 u45 u46 u47 u48 u49 u50 u51 u52 u53 u54 u55 u56 u57 u58 u59 u60 u61 u62 u63 u64 u65 u66 u67 u68 u69 u70 u71 u72 u73 u74 u75 u76 u77 u78 u79 u80 u81 u82 u83 u84 u85 u86 u87 u88 u89 u90 u91 u92 u93 u94 u95 u96 u97 u98 u99 u100 u101 u102 u103 u104 u105 u106 u107 u108 u109 u110 u111 u112 u113 u114 u115 u116 u117 u118 u119 u120 u121 u122 u123 u124 u125 u126 u127 u128 u129 u130 u131 u132 u133 u134 u135 u136 u137 u138 u139 u140 u141 u142 u143 u144 u145 u146 u147 u148 u149 u150 u151 u152 u153 u154 u155 u156 u157 u158 u159 u160 u161 u162 u163 u164 u165 u166 u167 u168 u169 u170 u171 u172 u173 u174 u175 u176 u177 u178 u179 u180 u181 u182 u183 u184 u185 u186 u187 u188 u189 u190 u191 u192 u193 u194 u195 u196 u197 u198 u199 u200 u201 u202 u203 u204 u205 u206 u207 u208 u209 u210 u211 u212 u213 u214 u215 u216 u217 u218 u219 : Value}, Code.wp Try.prog (tailR 41 (Try.f39.body.getD .skip)) (bodyPost Try.prog Try.f39 P) (Act.mk (List.toArray ((.slice (some ⟨g, 0, none⟩) n cap) :: (.int .i64 (a : Nat)) :: (.int .i64 (m : Nat)) :: (.int .i64 (b : Nat)) :: (.func (.func 31) #[] #[]) :: u5 :: u6 :: u7 :: u8 :: u9 :: u10 :: u11 :: u12 :: u13 :: u14 :: u15 :: u16 :: u17 :: (.int .i64 (mid : Nat)) :: u19 :: (.int .i64 (i : Nat)) :: u21 :: u22 :: u23 :: (.int .i64 (e : Nat)) :: u25 :: u26 :: u27 :: u28 :: u29 :: u30 :: u31 :: u32 :: u33 :: u34 :: u35 :: u36 :: u37 :: u38 :: u39 :: u40 :: u41 :: u42 :: u43 :: u44 :: u45 :: u46 :: u47 :: u48 :: u49 :: u50 :: u51 :: u52 :: u53 :: u54 :: u55 :: u56 :: u57 :: u58 :: u59 :: u60 :: u61 :: u62 :: u63 :: u64 :: u65 :: u66 :: u67 :: u68 :: u69 :: u70 :: u71 :: u72 :: u73 :: u74 :: u75 :: u76 :: u77 :: u78 :: u79 :: u80 :: u81 :: u82 :: u83 :: u84 :: u85 :: u86 :: u87 :: u88 :: u89 :: u90 :: u91 :: u92 :: u93 :: u94 :: u95 :: u96 :: u97 :: u98 :: u99 :: u100 :: u101 :: u102 :: u103 :: u104 :: u105 :: u106 :: u107 :: u108 :: u109 :: u110 :: u111 :: u112 :: u113 :: u114 :: u115 :: u116 :: u117 :: u118 :: u119 :: u120 :: u121 :: u122 :: u123 :: u124 :: u125 :: u126 :: u127 :: u128 :: u129 :: u130 :: u131 :: u132 :: u133 :: u134 :: u135 :: u136 :: u137 :: u138 :: u139 :: u140 :: u141 :: u142 :: u143 :: u144 :: u145 :: u146 :: u147 :: u148 :: u149 :: u150 :: u151 :: u152 :: u153 :: u154 :: u155 :: u156 :: u157 :: u158 :: u159 :: u160 :: u161 :: u162 :: u163 :: u164 :: u165 :: u166 :: u167 :: u168 :: u169 :: u170 :: u171 :: u172 :: u173 :: u174 :: u175 :: u176 :: u177 :: u178 :: u179 :: u180 :: u181 :: u182 :: u183 :: u184 :: u185 :: u186 :: u187 :: u188 :: u189 :: u190 :: u191 :: u192 :: u193 :: u194 :: u195 :: u196 :: u197 :: u198 :: u199 :: u200 :: u201 :: u202 :: u203 :: u204 :: u205 :: u206 :: u207 :: u208 :: u209 :: u210 :: u211 :: u212 :: u213 :: u214 :: u215 :: u216 :: u217 :: u218 :: u219 :: [])) []) w') := by
        intro w' K hRK hPK hFK hGK u5 u6 u7 u8 u9 u10 u11 u12 u13 u14 u15 u16 u17 u19 u21 u22 u23 u25 u26 u27 u28 u29 u30 u31 u32 u33 u34 u35 u36 u37 u38 u39 u40 u41 u42 u43 u44 u45 u46 u47 u48 u49 u50 u51 u52 u53 u54 u55 u56 u57 u58 u59 u60 u61 u62 u63 u64 u65 u66 u67 u68 u69 u70 u71 u72 u73 u74 u75 u76 u77 u78 u79 u80 u81 u82 u83 u84 u85 u86 u87 u88 u89 u90 u91 u92 u93 u94 u95 u96 u97 u98 u99 u100 u101 u102 u103 u104 u105 u106 u107 u108 u109 u110 u111 u112 u113 u114 u115 u116 u117 u118 u119 u120 u121 u122 u123 u124 u125 u126 u127 u128 u129 u130 u131 u132 u133 u134 u135 u136 u137 u138 u139 u140 u141 u142 u143 u144 u145 u146 u147 u148 u149 u150 u151 u152 u153 u154 u155 u156 u157 u158 u159 u160 u161 u162 u163 u164 u165 u166 u167 u168 u169 u170 u171 u172 u173 u174 u175 u176 u177 u178 u179 u180 u181 u182 u183 u184 u185 u186 u187 u188 u189 u190 u191 u192 u193 u194 u195 u196 u197 u198 u199 u200 u201 u202 u203 u204 u205 u206 u207 u208 u209 u210 u211 u212 u213 u214 u215 u216 u217 u218 u219
        obtain ⟨y1, y2, y3, y4, y5, y6, y7, y8, y9⟩ := HE.out
        have hl := hPK.length_eq
        have hKe : (fun q => (K.getD q ld0).fr) = rotF (fun q => (H.getD q ld0).fr) i m e := funext fun q => by rw [hFK q]; exact rotF_map Ld.fr _ i m e q
        have hS0 : SameD H K a b := ⟨hPK, fun q hq => by
          rw [hFK q]
          unfold rotF
          rcases hq with hq | hq
          · rw [if_pos (by omega)]
          · rw [if_neg (by omega), if_neg (by omega), if_neg (by omega)]⟩
        refine sy_t41 P w' g cap n d a m b mid i e K HI.out q1 y8 y1 y3 y5 y7 y9 q4 (by rw [HNN.out, hl]) q7 hRK (by rw [hKe]; exact HRS.out) ?_
        intro w2 K2 hR2 hS2 hD2 hG2
        exact HP.out w2 K2 hR2 (hS0.trans hS2) hD2 (HG0.out.trans (hGK.trans hG2))
      have S0 := fun (h1 : i < m) (h2 : m < e) => rot_any g cap i m e n H wr h1 h2 (by omega) HNN.out q7 HR0.out
      clear hai hij hjm hR hg hRS he q1 q2 q3 q4 q5 q6 q7 q8 l1 l2 l3 l4 l5 l6 l7 hgo hno HP HI
      go_wp2
      (try simp only [Exit.inBlock, Exit.then])
      refine HK1.out _ _ ?_
      clear HK1
      refine wp_seq_k fun K3 hK3 => ?_
      have HK3 : Hid _ := hK3
      clear hK3
      go_wp2
      refine HK3.out _ _ ?_
      clear HK3
      refine wp_seq_k fun K4 hK4 => ?_
      have HK4 : Hid _ := hK4
      clear hK4
      by_cases h1 : i < m
      · have z1 : (i : Int) < (m : Int) := by omega
        by_cases h2 : m < e
        · have z2 : (m : Int) < (e : Int) := by omega
          have S1 := S0 h1 h2
          clear h1 h2 S0
          go_wp2_with (go_at_call 40; refine S1.mono ?_; rintro e1 w9 ⟨rfl, K9, hR9, hP9, hF9, hG9⟩)
          refine HK4.out _ _ ?_
          exact FIN.out w9 K9 hR9 hP9 hF9 hG9
        · have z2 : ¬ (m : Int) < (e : Int) := by omega
          have hem : e = m := by have := HE.out; omega
          have HEM : Hid _ := hem
          clear h1 h2 S0 hem
          go_wp2
          refine HK4.out _ _ ?_
          refine FIN.out wr H HR0.out (List.Perm.refl _) (fun q => ?_) (World.grownBy.refl _ _)
          rw [HEM.out]
          unfold rotF
          repeat' split
          all_goals first
            | rfl
            | (exfalso; omega)
            | (congr 1; omega)
      · have z1 : ¬ (i : Int) < (m : Int) := by omega
        have him : i = m := by have := HE.out; omega
        have HIM : Hid _ := him
        clear h1 S0 him
        go_wp2
        refine HK4.out _ _ ?_
        refine FIN.out wr H HR0.out (List.Perm.refl _) (fun q => ?_) (World.grownBy.refl _ _)
        rw [HIM.out]
        unfold rotF
        repeat' split
        all_goals first
          | rfl
          | (exfalso; omega)
          | (congr 1; omega)
theorem SrtD.sub {K : List Ld} {a b : Nat} (h : SrtD K a b) {c d : Nat} (h1 : a ≤ c) (h2 : d ≤ b) : SrtD K c d := fun p q z1 z2 z3 => h p q (by omega) z2 (by omega)
set_option maxHeartbeats 32000000 in
theorem sym_main (g cap n d a m b : Nat) (H : List Ld) (w : World) (hI : SymOK g cap n d) (hd : b - a ≤ d) (ham : a + 1 < m) (hmb : m + 1 < b) (hb : b ≤ n) (hN : n = H.length) (hn6 : n ≤ 1000000) (hR : RwD w g cap H) (s1 : SrtD H a m) (s2 : SrtD H m b) :
    Calls Try.prog 39 #[.slice (some ⟨g, 0, none⟩) n cap, .int .i64 (a : Nat), .int .i64 (m : Nat), .int .i64 (b : Nat), .func (.func 31) #[] #[]] w fun e w' => e = .returned (.tuple #[]) ∧ ∃ K, RwD w' g cap K ∧ SameD H K a b ∧ SrtD K a b ∧ w.grownBy w' (some g) := by
  obtain ⟨mid, hmid⟩ : ∃ mid, mid = (a + b) / 2 := ⟨_, rfl⟩
  obtain ⟨nn, hnn⟩ : ∃ nn, nn = mid + m := ⟨_, rfl⟩
  have FIN : Hid (∀ lo hi, (a ≤ lo ∧ nn ≤ lo + b ∧ lo ≤ hi ∧ hi ≤ m ∧ hi ≤ mid ∧ (lo = a ∨ lo + b = nn) ∧ (hi = m ∨ hi = mid)) → ∀ {u5 u6 u7 u8 u9 u10 u11 u12 u13 u14 u15 u16 u17 u22 u23 u24 u25 u26 u27 u28 u29 u30 u31 u32 u33 u34 u35 u36 u37 u38 u39 u40 u41 u42 u43 u44 u45 u46 u47 u48 u49 u50 u51 u52 u53 u54 u55 u56 u57 u58 u59 u60 u61 u62 u63 u64 u65 u66 u67 u68 u69 u70 u71 u72 u73 u74 u75 u76 u77 u78 u79 u80 u81 u82 u83 u84 u85 u86 u87 u88 u89 u90 u91 u92 u93 u94 u95 u96 u97 u98 u99 u100 u101 u102 u103 u104 u105 u106 u107 u108 u109 u110 u111 u112 u113 u114 u115 u116 u117 u118 u119 u120 u121 u122 u123 u124 u125 u126 u127 u128 u129 u130 u131 u132 u133 u134 u135 u136 u137 u138 u139 u140 u141 u142 u143 u144 u145 u146 u147 u148 u149 u150 u151 u152 u153 u154 u155 u156 u157 u158 u159 u160 u161 u162 u163 u164 u165 u166 u167 u168 u169 u170 u171 u172 u173 u174 u175 u176 u177 u178 u179 u180 u181 u182 u183 u184 u185 u186 u187 u188 u189 u190 u191 u192 u193 u194 u195 u196 u197 u198 u199 u200 u201 u202 u203 u204 u205 u206 u207 u208 u209 u210 u211 u212 u213 u214 u215 u216 u217 u218 u219 : Value}, Code.wp Try.prog (tailR 32 (Try.f39.body.getD .skip)) (bodyPost Try.prog Try.f39 (fun e w' => e = .returned (.tuple #[]) ∧ ∃ K, RwD w' g cap K ∧ SameD H K a b ∧ SrtD K a b ∧ w.grownBy w' (some g))) (Act.mk (List.toArray ((.slice (some ⟨g, 0, none⟩) n cap) :: (.int .i64 (a : Nat)) :: (.int .i64 (m : Nat)) :: (.int .i64 (b : Nat)) :: (.func (.func 31) #[] #[]) :: u5 :: u6 :: u7 :: u8 :: u9 :: u10 :: u11 :: u12 :: u13 :: u14 :: u15 :: u16 :: u17 :: (.int .i64 (mid : Nat)) :: (.int .i64 (nn : Nat)) :: (.int .i64 (lo : Nat)) :: (.int .i64 (hi : Nat)) :: u22 :: u23 :: u24 :: u25 :: u26 :: u27 :: u28 :: u29 :: u30 :: u31 :: u32 :: u33 :: u34 :: u35 :: u36 :: u37 :: u38 :: u39 :: u40 :: u41 :: u42 :: u43 :: u44 :: u45 :: u46 :: u47 :: u48 :: u49 :: u50 :: u51 :: u52 :: u53 :: u54 :: u55 :: u56 :: u57 :: u58 :: u59 :: u60 :: u61 :: u62 :: u63 :: u64 :: u65 :: u66 :: u67 :: u68 :: u69 :: u70 :: u71 :: u72 :: u73 :: u74 :: u75 :: u76 :: u77 :: u78 :: u79 :: u80 :: u81 :: u82 :: u83 :: u84 :: u85 :: u86 :: u87 :: u88 :: u89 :: u90 :: u91 :: u92 :: u93 :: u94 :: u95 :: u96 :: u97 :: u98 :: u99 :: u100 :: u101 :: u102 :: u103 :: u104 :: u105 :: u106 :: u107 :: u108 :: u109 :: u110 :: u111 :: u112 :: u113 :: u114 :: u115 :: u116 :: u117 :: u118 :: u119 :: u120 :: u121 :: u122 :: u123 :: u124 :: u125 :: u126 :: u127 :: u128 :: u129 :: u130 :: u131 :: u132 :: u133 :: u134 :: u135 :: u136 :: u137 :: u138 :: u139 :: u140 :: u141 :: u142 :: u143 :: u144 :: u145 :: u146 :: u147 :: u148 :: u149 :: u150 :: u151 :: u152 :: u153 :: u154 :: u155 :: u156 :: u157 :: u158 :: u159 :: u160 :: u161 :: u162 :: u163 :: u164 :: u165 :: u166 :: u167 :: u168 :: u169 :: u170 :: u171 :: u172 :: u173 :: u174 :: u175 :: u176 :: u177 :: u178 :: u179 :: u180 :: u181 :: u182 :: u183 :: u184 :: u185 :: u186 :: u187 :: u188 :: u189 :: u190 :: u191 :: u192 :: u193 :: u194 :: u195 :: u196 :: u197 :: u198 :: u199 :: u200 :: u201 :: u202 :: u203 :: u204 :: u205 :: u206 :: u207 :: u208 :: u209 :: u210 :: u211 :: u212 :: u213 :: u214 :: u215 :: u216 :: u217 :: u218 :: u219 :: [])) []) w) := by
    intro lo hi hlo u5 u6 u7 u8 u9 u10 u11 u12 u13 u14 u15 u16 u17 u22 u23 u24 u25 u26 u27 u28 u29 u30 u31 u32 u33 u34 u35 u36 u37 u38 u39 u40 u41 u42 u43 u44 u45 u46 u47 u48 u49 u50 u51 u52 u53 u54 u55 u56 u57 u58 u59 u60 u61 u62 u63 u64 u65 u66 u67 u68 u69 u70 u71 u72 u73 u74 u75 u76 u77 u78 u79 u80 u81 u82 u83 u84 u85 u86 u87 u88 u89 u90 u91 u92 u93 u94 u95 u96 u97 u98 u99 u100 u101 u102 u103 u104 u105 u106 u107 u108 u109 u110 u111 u112 u113 u114 u115 u116 u117 u118 u119 u120 u121 u122 u123 u124 u125 u126 u127 u128 u129 u130 u131 u132 u133 u134 u135 u136 u137 u138 u139 u140 u141 u142 u143 u144 u145 u146 u147 u148 u149 u150 u151 u152 u153 u154 u155 u156 u157 u158 u159 u160 u161 u162 u163 u164 u165 u166 u167 u168 u169 u170 u171 u172 u173 u174 u175 u176 u177 u178 u179 u180 u181 u182 u183 u184 u185 u186 u187 u188 u189 u190 u191 u192 u193 u194 u195 u196 u197 u198 u199 u200 u201 u202 u203 u204 u205 u206 u207 u208 u209 u210 u211 u212 u213 u214 u215 u216 u217 u218 u219
    exact sy_t32 _ w g cap n d a m b mid nn lo hi H hI hd ham hmb hb hmid hnn hlo hN hn6 hR s1 s2 (fun w' K2 h1 h2 h3 h4 => ⟨rfl, K2, h1, h2, h3, h4⟩)
  obtain ⟨z, hz⟩ : ∃ z, z = m - a := ⟨_, rfl⟩
  obtain ⟨y, hy⟩ : ∃ y, y = b - m := ⟨_, rfl⟩
  have d0 : (m : Int) - (a : Int) = (z : Int) := by omega
  have d1 : (b : Int) - (m : Int) = (y : Int) := by omega
  have d2 : ((z : Int) == 1) = false := by
    have : ¬ (z : Int) = 1 := by omega
    exact beq_eq_false_iff_ne.2 this
  have d3 : ((y : Int) == 1) = false := by
    have : ¬ (y : Int) = 1 := by omega
    exact beq_eq_false_iff_ne.2 this
  have d4 : ((a : Int) + (b : Int)) / 2 = (mid : Int) := by omega
  have d5 : (mid : Int) + (m : Int) = (nn : Int) := by omega
  have ha6 : (a : Int) ≤ 1000000 := by omega
  have hm6 : (m : Int) ≤ 1000000 := by omega
  have hb6 : (b : Int) ≤ 1000000 := by omega
  have hi6 : (mid : Int) ≤ 1000000 := by omega
  have hz6 : (z : Int) ≤ 1000000 := by omega
  have hy6 : (y : Int) ≤ 1000000 := by omega
  have hw5 : IntKind.i64.wrap (nn : Int) = (nn : Int) := wrap_inP _ (by omega) (by omega)
  have HB : Hid (b - a ≤ d ∧ a + 1 < m ∧ m + 1 < b ∧ mid = (a + b) / 2 ∧ nn = mid + m) := ⟨hd, ham, hmb, hmid, hnn⟩
  clear hI hd ham hmb hb hN hR s1 s2 hmid hnn hz hy
  go_enter Try.func39, Try.ntmps39
  refine wp_seq_k fun K0 hK0 => ?_
  have HK0 : Hid _ := hK0
  clear hK0
  go_wp2
  refine HK0.out _ _ ?_
  clear HK0
  refine wp_seq_k fun K1 hK1 => ?_
  have HK1 : Hid _ := hK1
  clear hK1
  go_wp2
  refine HK1.out _ _ ?_
  clear HK1
  refine wp_seq_k fun K2 hK2 => ?_
  have HK2 : Hid _ := hK2
  clear hK2
  go_wp2
  refine HK2.out _ _ ?_
  clear HK2
  refine wp_seq_k fun K3 hK3 => ?_
  have HK3 : Hid _ := hK3
  clear hK3
  go_wp2
  refine HK3.out _ _ ?_
  clear HK3
  refine wp_seq_k fun K4 hK4 => ?_
  have HK4 : Hid _ := hK4
  clear hK4
  go_wp2
  refine HK4.out _ _ ?_
  clear HK4
  refine wp_seq_k fun K5 hK5 => ?_
  have HK5 : Hid _ := hK5
  clear hK5
  by_cases hc : mid < m
  · have l1 : (mid : Int) < (m : Int) := by omega
    obtain ⟨lo, hlo⟩ : ∃ lo, lo = nn - b := ⟨_, rfl⟩
    have l2 : (nn : Int) - (b : Int) = (lo : Int) := by have := HB.out; omega
    have HL : Hid (lo = nn - b ∧ mid < m) := ⟨hlo, hc⟩
    clear hlo hc
    go_wp2
    refine HK5.out _ _ ?_
    have z1 := HB.out
    have z2 := HL.out
    exact FIN.out lo mid ⟨by omega, by omega, by omega, by omega, Nat.le_refl _, .inr (by omega), .inr rfl⟩
  · have l1 : ¬ (mid : Int) < (m : Int) := by omega
    have HL : Hid (m ≤ mid) := by show m ≤ mid; omega
    clear hc
    go_wp2
    refine HK5.out _ _ ?_
    have z1 := HB.out
    have z2 := HL.out
    exact FIN.out a m ⟨Nat.le_refl _, by omega, by omega, Nat.le_refl _, z2, .inl rfl, .inl rfl⟩
/-- symMerge makes of two sorted runs one -/
theorem sym_all (g cap n : Nat) (hn6 : n ≤ 1000000) : ∀ d, SymOK g cap n d
  | 0 => fun a m b H w hd => absurd hd (by omega)
  | d + 1 => fun a m b H w hd h1 h2 h3 h4 hR s1 s2 => by
    by_cases e1 : m = a + 1
    · exact sym_one g cap a m b n H w e1 h2 h3 h4 hn6 hR s2
    · by_cases e2 : b = m + 1
      · exact sym_two g cap a m b n H w e2 (by omega) h3 h4 hn6 hR s1
      · exact sym_main g cap n d a m b H w (sym_all g cap n hn6 d) (by omega) (by omega) (by omega) h3 h4 hn6 hR s1 s2
end
end Go.Proofs.Ytnjdbbjhplebhaa
