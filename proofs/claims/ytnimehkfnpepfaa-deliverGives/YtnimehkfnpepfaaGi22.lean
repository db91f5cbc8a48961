import Derived.Test.YtnimehkfnpepfaaGi21
import Derived.Test.YtnimehkfnpepfaaGi10
import Derived.Test.YtnimehkfnpepfaaGi5
import Derived.Test.YtnimehkfnpepfaaGi6
import Derived.Test.YtnimehkfnpepfaaGi3
import Derived.Test.YtnimehkfnpepfaaGi7
import Derived.Test.YtnimehkfnpepfaaGi4
namespace Go.Proofs.Ytnimehkfnpepfaa
open Go.RowKit
set_option maxRecDepth 100000
set_option linter.unusedVariables false
set_option linter.unusedSimpArgs false

section
/-- what the document's Give answers: the giver as it is read, the notes in new memory -/
def RDo (w : World) (V : Gv) (T : List Nt) (E : Nat) (e : Ending) (w' : World) : Prop :=
  ∃ a c q d na nc xs, e = .returned (.tuple #[.agg (gvA V.id V.nm (.slice a V.L.length c) V.mo V.bu V.st V.fi V.at' (.slice q V.G.length d) V.ti V.pa V.tr V.li), .slice na T.length nc, .int .i64 (E : Nat)]) ∧ xs.map Nx.dt = T ∧ Rd w' a V.L.length c V.L ∧ RdG w' q V.G.length d (giF V.G) ∧ OwN w' w.heap.size na T.length nc xs ∧ w.grownBy w' none
theorem DX.fin {wB w w' : World} {g1 g2 gv : Nat} {s0 : Int} {V : Gv} {a : Option Addr} {c : Nat} {q : Option Addr} {d : Nat} {na : Option Addr} {nn nc : Nat} {xs : List Nx} (h : DX wB w g1 g2 gv s0 V a c q d na nn nc xs) (u : w.grownBy w' (some g2)) {T : List Nt} (hT : xs.map Nx.dt = T) : RDo wB V T 0 (.returned (.tuple #[.agg #[.int .i64 V.id, .string V.nm, .slice a V.L.length c, .int .i64 V.mo, .int .i64 V.bu, .int .i64 V.st, .bool V.fi, .int .i64 V.at', .slice q V.G.length d, .int .i64 V.ti, .int .i64 V.pa, .int .i64 V.tr, .int .i64 V.li], .slice na nn nc, .int .i64 0])) w' := by
  obtain ⟨cs, k1, k2⟩ := h.b2
  have hl : nn = T.length := by rw [← hT, List.length_map, h.N.len]
  subst hl
  exact ⟨a, c, q, d, na, nc, xs, rfl, hT, (h.A.kRR u (fun z e e2 => by have e := Option.some.inj e; subst e; exact own_ty h.A.own k2 (by decide) e2)).rd, (h.O.bx k2 (by decide) u).rd, h.N.bx k2 (by decide) (by decide) (by decide) u, grown_far h.g u (fun z e => by have e := Option.some.inj e; have := h.l2; omega)⟩
set_option maxHeartbeats 16000000 in
theorem go_t43 {u0 u3 u4 u7 u8 u9 u10 u11 u12 u13 u14 u15 u16 u17 u18 u19 u20 u21 u22 u23 u24 u25 u26 u27 u28 u29 u30 u31 u32 u33 u34 u35 u36 u37 u38 u39 u40 u41 u42 u43 u44 u45 u46 u47 u48 u49 u50 u51 u52 u53 u54 u55 u56 u57 u58 u59 u60 u61 u62 u63 u64 u65 u66 u67 u68 u69 u70 u71 u72 u73 u74 u75 u76 u77 u78 u79 u80 u81 u82 u83 u84 u85 u86 u87 u88 u89 u90 u91 u92 u93 u94 u95 u96 u97 u98 u99 u100 u101 u102 u103 u104 u105 u106 u107 u108 u109 u110 u111 u112 u113 u114 u115 u116 u117 u118 u119 u120 u121 u122 u123 u124 u125 u126 u127 u128 u129 u130 u131 u132 u133 u134 u135 u136 u137 u138 u139 u140 u141 u142 u143 u144 u145 u146 u147 u148 u149 u150 u151 u152 u153 u154 u155 u156 u157 u158 u159 u160 u161 u162 u163 u164 u165 u166 u167 u168 u169 u170 u171 u172 u173 u174 u175 u176 u177 u178 u179 u180 u181 u182 u183 u184 u185 u186 u187 u188 u189 u190 u191 u192 u193 u194 u195 u196 u197 u198 u199 u200 u201 u202 u203 u204 u205 u206 u207 u208 u209 u210 u211 u212 u213 u214 u215 u216 u217 u218 u219 u220 u221 u222 u223 u224 u225 u226 u227 u228 u229 u230 u231 u232 u233 u234 u235 u236 u237 u238 u239 u240 u241 u242 u243 u244 u245 u246 u247 u248 u249 u250 u251 u252 u253 u254 u255 u256 u257 u258 u259 u260 u261 u262 u263 u264 u265 u266 u267 u268 u269 u270 u271 u272 u273 u274 u275 u276 u277 u278 u279 u280 u281 u282 u283 u284 u285 u286 u287 u288 u289 u290 u291 u292 u293 u294 u295 u296 u297 u298 u299 u300 u301 u302 : Value} (P : Ending → World → Prop) (wB w : World) (g1 g2 gv : Nat) (s0 : Int) (V : Gv) (a : Option Addr) (c : Nat) (q : Option Addr) (d : Nat) (na : Option Addr) (nn nc : Nat) (xs : List Nx) (T : List Nt) (h : DX wB w g1 g2 gv s0 V a c q d na nn nc xs) (hT : xs.map Nx.dt = T) (hP : ∀ e w', RDo wB V T 0 e w' → P e w') :
    Code.wp Try.prog (tailR 43 (Try.f30.body.getD .skip)) (bodyPost Try.prog Try.f30 P) (Act.mk (List.toArray (u0 :: (.pointer (some ⟨g1, 0, none⟩)) :: (.pointer (some ⟨g2, 0, none⟩)) :: u3 :: u4 :: (.pointer (some ⟨gv, 0, none⟩)) :: (.slice na nn nc) :: u7 :: u8 :: u9 :: u10 :: u11 :: u12 :: u13 :: u14 :: u15 :: u16 :: u17 :: u18 :: u19 :: u20 :: u21 :: u22 :: u23 :: u24 :: u25 :: u26 :: u27 :: u28 :: u29 :: u30 :: u31 :: u32 :: u33 :: u34 :: u35 :: u36 :: u37 :: u38 :: u39 :: u40 :: u41 :: u42 :: u43 :: u44 :: u45 :: u46 :: u47 :: u48 :: u49 :: u50 :: u51 :: u52 :: u53 :: u54 :: u55 :: u56 :: u57 :: u58 :: u59 :: u60 :: u61 :: u62 :: u63 :: u64 :: u65 :: u66 :: u67 :: u68 :: u69 :: u70 :: u71 :: u72 :: u73 :: u74 :: u75 :: u76 :: u77 :: u78 :: u79 :: u80 :: u81 :: u82 :: u83 :: u84 :: u85 :: u86 :: u87 :: u88 :: u89 :: u90 :: u91 :: u92 :: u93 :: u94 :: u95 :: u96 :: u97 :: u98 :: u99 :: u100 :: u101 :: u102 :: u103 :: u104 :: u105 :: u106 :: u107 :: u108 :: u109 :: u110 :: u111 :: u112 :: u113 :: u114 :: u115 :: u116 :: u117 :: u118 :: u119 :: u120 :: u121 :: u122 :: u123 :: u124 :: u125 :: u126 :: u127 :: u128 :: u129 :: u130 :: u131 :: u132 :: u133 :: u134 :: u135 :: u136 :: u137 :: u138 :: u139 :: u140 :: u141 :: u142 :: u143 :: u144 :: u145 :: u146 :: u147 :: u148 :: u149 :: u150 :: u151 :: u152 :: u153 :: u154 :: u155 :: u156 :: u157 :: u158 :: u159 :: u160 :: u161 :: u162 :: u163 :: u164 :: u165 :: u166 :: u167 :: u168 :: u169 :: u170 :: u171 :: u172 :: u173 :: u174 :: u175 :: u176 :: u177 :: u178 :: u179 :: u180 :: u181 :: u182 :: u183 :: u184 :: u185 :: u186 :: u187 :: u188 :: u189 :: u190 :: u191 :: u192 :: u193 :: u194 :: u195 :: u196 :: u197 :: u198 :: u199 :: u200 :: u201 :: u202 :: u203 :: u204 :: u205 :: u206 :: u207 :: u208 :: u209 :: u210 :: u211 :: u212 :: u213 :: u214 :: u215 :: u216 :: u217 :: u218 :: u219 :: u220 :: u221 :: u222 :: u223 :: u224 :: u225 :: u226 :: u227 :: u228 :: u229 :: u230 :: u231 :: u232 :: u233 :: u234 :: u235 :: u236 :: u237 :: u238 :: u239 :: u240 :: u241 :: u242 :: u243 :: u244 :: u245 :: u246 :: u247 :: u248 :: u249 :: u250 :: u251 :: u252 :: u253 :: u254 :: u255 :: u256 :: u257 :: u258 :: u259 :: u260 :: u261 :: u262 :: u263 :: u264 :: u265 :: u266 :: u267 :: u268 :: u269 :: u270 :: u271 :: u272 :: u273 :: u274 :: u275 :: u276 :: u277 :: u278 :: u279 :: u280 :: u281 :: u282 :: u283 :: u284 :: u285 :: u286 :: u287 :: u288 :: u289 :: u290 :: u291 :: u292 :: u293 :: u294 :: u295 :: u296 :: u297 :: u298 :: u299 :: u300 :: u301 :: u302 :: [])) []) w := by
  conv => enter [2]; whnf
  have HP : Hid _ := hP
  clear hP
  obtain ⟨cs2, hs2, b2⟩ := h.b2
  have i13 := Try.info_gv
  obtain ⟨c0, c1, c2, c3, c4, c5, c6, c7, c8, c9, c10, c11, c12⟩ := (h.bv).cell13
  have s0' : True := trivial
  go_wp2_with (have _t := s0'; clear s0'; refine wpList_stX _ rfl _ (.tmp 2) (.tmp 301) rfl g2 _ _ rfl rfl b2 i13 hs2 (by simp [Value.oneCell']) ?_; intro wA bA uA)
  refine bodyPost_ret (results_c1t2 rfl _ _ _ ⟨g2, 0, none⟩ _ _ _ rfl (BxS.load (t := 44) bA Try.underlying44 Try.info_gv) rfl rfl) rfl ?_
  exact HP.out _ _ (h.fin uA hT)

set_option maxHeartbeats 16000000 in
theorem go_t34 {u0 u3 u4 u7 u8 u9 u10 u11 u12 u13 u14 u15 u16 u17 u18 u19 u20 u21 u22 u23 u24 u25 u26 u27 u28 u29 u30 u31 u32 u33 u34 u35 u36 u37 u38 u39 u40 u41 u42 u43 u44 u45 u46 u47 u48 u49 u50 u51 u52 u53 u54 u55 u56 u57 u58 u59 u60 u61 u62 u63 u64 u65 u66 u67 u68 u69 u70 u71 u72 u73 u74 u75 u76 u77 u78 u79 u80 u81 u82 u83 u84 u85 u86 u87 u88 u89 u90 u91 u92 u93 u94 u95 u96 u97 u98 u99 u100 u101 u102 u103 u104 u105 u106 u107 u108 u109 u110 u111 u112 u113 u114 u115 u116 u117 u118 u119 u120 u121 u122 u123 u124 u125 u126 u127 u128 u129 u130 u131 u132 u133 u134 u135 u136 u137 u138 u139 u140 u141 u142 u143 u144 u145 u146 u147 u148 u149 u150 u151 u152 u153 u154 u155 u156 u157 u158 u159 u160 u161 u162 u163 u164 u165 u166 u167 u168 u169 u170 u171 u172 u173 u174 u175 u176 u177 u178 u179 u180 u181 u182 u183 u184 u185 u186 u187 u188 u189 u190 u191 u192 u193 u194 u195 u196 u197 u198 u199 u200 u201 u202 u203 u204 u205 u206 u207 u208 u209 u210 u211 u212 u213 u214 u215 u216 u217 u218 u219 u220 u221 u222 u223 u224 u225 u226 u227 u228 u229 u230 u231 u232 u233 u234 u235 u236 u237 u238 u239 u240 u241 u242 u243 u244 u245 u246 u247 u248 u249 u250 u251 u252 u253 u254 u255 u256 u257 u258 u259 u260 u261 u262 u263 u264 u265 u266 u267 u268 u269 u270 u271 u272 u273 u274 u275 u276 u277 u278 u279 u280 u281 u282 u283 u284 u285 u286 u287 u288 u289 u290 u291 u292 u293 u294 u295 u296 u297 u298 u299 u300 u301 u302 : Value} (P : Ending → World → Prop) (wB w : World) (g1 g2 gv : Nat) (s0 : Int) (V : Gv) (a : Option Addr) (c : Nat) (q : Option Addr) (d : Nat) (na : Option Addr) (nn nc : Nat) (xs : List Nx) (T : List Nt) (h : DX wB w g1 g2 gv s0 V a c q d na nn nc xs) (hT : xs.map Nx.dt = T) (ho : GvO V) (hnn : nn ≤ 1000) (wt : Bool) (hwt : wt = true ↔ (s0 = 1 ∨ s0 = 2)) (hP : ∀ e w', RDo wB (if wt = true then (wtV V).1 else V) (if wt = true then T ++ (wtV V).2 else T) 0 e w' → P e w') :
    Code.wp Try.prog (tailR 34 (Try.f30.body.getD .skip)) (bodyPost Try.prog Try.f30 P) (Act.mk (List.toArray (u0 :: (.pointer (some ⟨g1, 0, none⟩)) :: (.pointer (some ⟨g2, 0, none⟩)) :: u3 :: u4 :: (.pointer (some ⟨gv, 0, none⟩)) :: (.slice na nn nc) :: u7 :: u8 :: u9 :: u10 :: u11 :: u12 :: u13 :: u14 :: u15 :: u16 :: u17 :: u18 :: u19 :: u20 :: u21 :: u22 :: u23 :: u24 :: u25 :: u26 :: u27 :: u28 :: u29 :: u30 :: u31 :: u32 :: u33 :: u34 :: u35 :: u36 :: u37 :: u38 :: u39 :: u40 :: u41 :: u42 :: u43 :: u44 :: u45 :: u46 :: u47 :: u48 :: u49 :: u50 :: u51 :: u52 :: u53 :: u54 :: u55 :: u56 :: u57 :: u58 :: u59 :: u60 :: u61 :: u62 :: u63 :: u64 :: u65 :: u66 :: u67 :: u68 :: u69 :: u70 :: u71 :: u72 :: u73 :: u74 :: u75 :: u76 :: u77 :: u78 :: u79 :: u80 :: u81 :: u82 :: u83 :: u84 :: u85 :: u86 :: u87 :: u88 :: u89 :: u90 :: u91 :: u92 :: u93 :: u94 :: u95 :: u96 :: u97 :: u98 :: u99 :: u100 :: u101 :: u102 :: u103 :: u104 :: u105 :: u106 :: u107 :: u108 :: u109 :: u110 :: u111 :: u112 :: u113 :: u114 :: u115 :: u116 :: u117 :: u118 :: u119 :: u120 :: u121 :: u122 :: u123 :: u124 :: u125 :: u126 :: u127 :: u128 :: u129 :: u130 :: u131 :: u132 :: u133 :: u134 :: u135 :: u136 :: u137 :: u138 :: u139 :: u140 :: u141 :: u142 :: u143 :: u144 :: u145 :: u146 :: u147 :: u148 :: u149 :: u150 :: u151 :: u152 :: u153 :: u154 :: u155 :: u156 :: u157 :: u158 :: u159 :: u160 :: u161 :: u162 :: u163 :: u164 :: u165 :: u166 :: u167 :: u168 :: u169 :: u170 :: u171 :: u172 :: u173 :: u174 :: u175 :: u176 :: u177 :: u178 :: u179 :: u180 :: u181 :: u182 :: u183 :: u184 :: u185 :: u186 :: u187 :: u188 :: u189 :: u190 :: u191 :: u192 :: u193 :: u194 :: u195 :: u196 :: u197 :: u198 :: u199 :: u200 :: u201 :: u202 :: u203 :: u204 :: u205 :: u206 :: u207 :: u208 :: u209 :: u210 :: u211 :: u212 :: u213 :: u214 :: u215 :: u216 :: u217 :: u218 :: u219 :: u220 :: u221 :: u222 :: u223 :: u224 :: u225 :: u226 :: u227 :: u228 :: u229 :: u230 :: u231 :: u232 :: u233 :: u234 :: u235 :: u236 :: u237 :: u238 :: u239 :: u240 :: u241 :: u242 :: u243 :: u244 :: u245 :: u246 :: u247 :: u248 :: u249 :: u250 :: u251 :: u252 :: u253 :: u254 :: u255 :: u256 :: u257 :: u258 :: u259 :: u260 :: u261 :: u262 :: u263 :: u264 :: u265 :: u266 :: u267 :: u268 :: u269 :: u270 :: u271 :: u272 :: u273 :: u274 :: u275 :: u276 :: u277 :: u278 :: u279 :: u280 :: u281 :: u282 :: u283 :: u284 :: u285 :: u286 :: u287 :: u288 :: u289 :: u290 :: u291 :: u292 :: u293 :: u294 :: u295 :: u296 :: u297 :: u298 :: u299 :: u300 :: u301 :: u302 :: [])) []) w := by
  conv => enter [2]; whnf
  have HP : Hid _ := hP
  clear hP
  obtain ⟨cs1, b1, e5⟩ := h.b1
  have x5 : w.cell? ⟨g1, 5, none⟩ = some (.int .i64 s0) := by
    have b1' : w.heap[g1]? = some (.cells cs1 44) := b1
    rw [cell_of_row w g1 5 _ _ _ b1']; exact e5
  have hti := ho.ti
  have htr := ho.tr
  refine wp_seq_k fun K1 hK1 => ?_
  have HK1 : Hid _ := hK1
  clear hK1
  cases wt with
  | false =>
    have h1 : ¬ s0 = 1 := fun e => by have := hwt.2 (.inl e); cases this
    have h2 : ¬ s0 = 2 := fun e => by have := hwt.2 (.inr e); cases this
    have h1' : (s0 == 1) = false := beq_eq_false_iff_ne.2 h1
    have h2' : (s0 == 2) = false := beq_eq_false_iff_ne.2 h2
    go_wp2
    refine HK1.out _ _ ?_
    clear HK1
    exact go_t43 P wB w g1 g2 gv s0 V a c q d na nn nc xs T h hT (fun e w' h9 => HP.out e w' h9)
  | true =>
    have HPT : Hid (∀ e w', RDo wB (wtV V).1 (T ++ (wtV V).2) 0 e w' → P e w') := fun e w' h9 => HP.out e w' h9
    clear HP
    have hs : s0 = 1 ∨ s0 = 2 := hwt.1 rfl
    clear hwt b1 e5
    obtain ⟨t1, ht1⟩ : ∃ t1, V.ti + 1 = t1 := ⟨_, rfl⟩
    have hw1 : IntKind.i64.wrap (V.ti + 1) = t1 := by rw [ht1]; exact wrap_i64_in _ (by omega) (by omega)
    obtain ⟨r1, hr1⟩ : ∃ r1, V.tr + 1 = r1 := ⟨_, rfl⟩
    have hw2 : IntKind.i64.wrap (V.tr + 1) = r1 := by rw [hr1]; exact wrap_i64_in _ (by omega) (by omega)
    have hr2 : r1 ≤ V.li + 1 := by omega
    have ht2 : t1 ≤ V.pa := by omega
    have HT1 : Hid _ := ht1
    have HR1 : Hid _ := hr1
    clear ht1 hr1
    refine wp_seq_k fun K2 hK2 => ?_
    have HK2 : Hid _ := hK2
    clear hK2
    rcases hs with rfl | rfl
    · go_wp2
      refine HK2.out _ _ ?_
      clear HK2
      refine wp_cond_true rfl ?_
      refine wp_seq_k fun K2 hK2 => ?_
      have HK2 : Hid _ := hK2
      clear hK2
      have x9 : w.cell? ⟨gv, 9, none⟩ = some (.int .i64 V.ti) := h.bv.cell 9 (by show 9 < 13; decide)
      have s0' : True := trivial
      go_wp2_with (have _t := s0'; clear s0'; refine wpList_stC _ rfl _ _ _ rfl gv 9 92 _ #[.int .i64 V.id, .string V.nm, .slice a V.L.length c, .int .i64 V.mo, .int .i64 V.bu, .int .i64 V.st, .bool V.fi, .int .i64 V.at', .slice q V.G.length d, .int .i64 t1, .int .i64 V.pa, .int .i64 V.tr, .int .i64 V.li] (.int .i64 t1) rfl rfl h.bv (stc_int _ _ _) (by show 9 < 13; decide) rfl ?_; intro w1 bw1 uw1)
      refine HK2.out _ _ ?_
      clear HK2
      have h1 := h.setV uw1 (V' := { V with ti := t1 }) rfl h.O bw1
      clear x9 x5 uw1 bw1
      refine wp_seq_k fun K2 hK2 => ?_
      have HK2 : Hid _ := hK2
      clear hK2
      by_cases hlt : t1 < V.pa
      · have hne : (t1 == V.pa) = false := beq_eq_false_iff_ne.2 (by omega)
        have hne2 : ¬ t1 = V.pa := by omega
        have HLT : Hid _ := hlt
        have Gd := grown_drew w1 none
        have hd := h1.keepN Gd
        have SS : BxS w1.drew gv 92 #[.int .i64 V.id, .string V.nm, .slice a V.L.length c, .int .i64 V.mo, .int .i64 V.bu, .int .i64 V.st, .bool V.fi, .int .i64 V.at', .slice q V.G.length d, .int .i64 t1, .int .i64 V.pa, .int .i64 V.tr, .int .i64 V.li] := hd.bv
        refine wp_regionL (fun wz => BxS wz gv 92 #[.int .i64 V.id, .string V.nm, .slice a V.L.length c, .int .i64 V.mo, .int .i64 V.bu, .int .i64 V.st, .bool V.fi, .int .i64 V.at', .slice q V.G.length d, .int .i64 t1, .int .i64 V.pa, .int .i64 V.tr, .int .i64 V.li]) [] #[false, false, false, false, false, false, false, false, false, false, false] rfl (by kernel_rfl) ?_
        refine wpAnyZ_take [] 0 (.pointer (some ⟨gv, 0, none⟩)) rfl (by kernel_rfl) (fun _ _ _ h => h) SS rfl (by intro wz hz; go_simp) ?_
        try simp only [List.getElem_toArray, List.getElem_cons_succ, List.getElem_cons_zero, Act.put, List.setIfInBounds_toArray, List.set_cons_zero, List.set_cons_succ]
        refine wpAnyZ_take [] 1 (.pointer (some ⟨gv, 0, none⟩)) rfl (by kernel_rfl) (fun _ _ _ h => h) SS rfl (by intro wz hz; go_simp) ?_
        try simp only [List.getElem_toArray, List.getElem_cons_succ, List.getElem_cons_zero, Act.put, List.setIfInBounds_toArray, List.set_cons_zero, List.set_cons_succ]
        refine wpAnyZ_take [] 2 (.pointer (some ⟨gv, 0, none⟩)) rfl (by kernel_rfl) (fun _ _ _ h => h) SS rfl (by intro wz hz; go_simp) ?_
        try simp only [List.getElem_toArray, List.getElem_cons_succ, List.getElem_cons_zero, Act.put, List.setIfInBounds_toArray, List.set_cons_zero, List.set_cons_succ]
        refine wpAnyZ_take [] 3 (.pointer (some ⟨gv, 9, none⟩)) rfl (by kernel_rfl) (fun _ _ _ h => h) SS rfl (by intro wz hz; go_simp) ?_
        try simp only [List.getElem_toArray, List.getElem_cons_succ, List.getElem_cons_zero, Act.put, List.setIfInBounds_toArray, List.set_cons_zero, List.set_cons_succ]
        refine wpAnyZ_take [] 4 (.int .i64 t1) rfl (by kernel_rfl) (fun _ _ _ h => h) SS rfl (by intro wz hz; have z : wz.cell? ⟨gv, 9, none⟩ = some (.int .i64 t1) := hz.cell 9 (by show 9 < 13; decide); go_simp) ?_
        try simp only [List.getElem_toArray, List.getElem_cons_succ, List.getElem_cons_zero, Act.put, List.setIfInBounds_toArray, List.set_cons_zero, List.set_cons_succ]
        refine wpAnyZ_take [] 5 (.pointer (some ⟨gv, 0, none⟩)) rfl (by kernel_rfl) (fun _ _ _ h => h) SS rfl (by intro wz hz; go_simp) ?_
        try simp only [List.getElem_toArray, List.getElem_cons_succ, List.getElem_cons_zero, Act.put, List.setIfInBounds_toArray, List.set_cons_zero, List.set_cons_succ]
        refine wpAnyZ_take [] 6 (.pointer (some ⟨gv, 0, none⟩)) rfl (by kernel_rfl) (fun _ _ _ h => h) SS rfl (by intro wz hz; go_simp) ?_
        try simp only [List.getElem_toArray, List.getElem_cons_succ, List.getElem_cons_zero, Act.put, List.setIfInBounds_toArray, List.set_cons_zero, List.set_cons_succ]
        refine wpAnyZ_take [] 7 (.pointer (some ⟨gv, 0, none⟩)) rfl (by kernel_rfl) (fun _ _ _ h => h) SS rfl (by intro wz hz; go_simp) ?_
        try simp only [List.getElem_toArray, List.getElem_cons_succ, List.getElem_cons_zero, Act.put, List.setIfInBounds_toArray, List.set_cons_zero, List.set_cons_succ]
        refine wpAnyZ_take [] 8 (.pointer (some ⟨gv, 10, none⟩)) rfl (by kernel_rfl) (fun _ _ _ h => h) SS rfl (by intro wz hz; go_simp) ?_
        try simp only [List.getElem_toArray, List.getElem_cons_succ, List.getElem_cons_zero, Act.put, List.setIfInBounds_toArray, List.set_cons_zero, List.set_cons_succ]
        refine wpAnyZ_take [] 9 (.int .i64 V.pa) rfl (by kernel_rfl) (fun _ _ _ h => h) SS rfl (by intro wz hz; have z : wz.cell? ⟨gv, 10, none⟩ = some (.int .i64 V.pa) := hz.cell 10 (by show 10 < 13; decide); go_simp) ?_
        try simp only [List.getElem_toArray, List.getElem_cons_succ, List.getElem_cons_zero, Act.put, List.setIfInBounds_toArray, List.set_cons_zero, List.set_cons_succ]
        refine wpAnyZ_take [] 10 (.bool false) rfl (by kernel_rfl) (fun _ _ _ h => h) SS rfl (by intro wz hz; go_simp) ?_
        try simp only [List.getElem_toArray, List.getElem_cons_succ, List.getElem_cons_zero, Act.put, List.setIfInBounds_toArray, List.set_cons_zero, List.set_cons_succ]
        refine wpAnyZ_doneB (by kernel_rfl) ?_ _
        refine HK2.out _ _ ?_
        clear HK2
        refine wp_cond_false rfl ?_
        refine wp_skip ?_
        try simp only [Exit.then]
        refine HK1.out _ _ ?_
        clear HK1
        have HX : Hid (wtV V = ({ V with ti := t1 }, [])) := by show _ = _; unfold wtV; rw [HT1.out, if_pos HLT.out]
        refine go_t43 P wB w1.drew g1 g2 gv _ { V with ti := t1 } a c q d na nn nc xs T hd hT ?_
        intro e w' h9
        refine HPT.out e w' ?_
        rw [HX.out, List.append_nil]
        exact h9
      · obtain rfl : t1 = V.pa := by omega
        have hne : (V.pa == V.pa) = true := beq_self_eq_true _
        have HLT : Hid _ := hlt
        have Gd := grown_drew w1 none
        have hd := h1.keepN Gd
        have SS : BxS w1.drew gv 92 #[.int .i64 V.id, .string V.nm, .slice a V.L.length c, .int .i64 V.mo, .int .i64 V.bu, .int .i64 V.st, .bool V.fi, .int .i64 V.at', .slice q V.G.length d, .int .i64 V.pa, .int .i64 V.pa, .int .i64 V.tr, .int .i64 V.li] := hd.bv
        refine wp_regionL (fun wz => BxS wz gv 92 #[.int .i64 V.id, .string V.nm, .slice a V.L.length c, .int .i64 V.mo, .int .i64 V.bu, .int .i64 V.st, .bool V.fi, .int .i64 V.at', .slice q V.G.length d, .int .i64 V.pa, .int .i64 V.pa, .int .i64 V.tr, .int .i64 V.li]) [] #[false, false, false, false, false, false, false, false, false, false, false] rfl (by kernel_rfl) ?_
        refine wpAnyZ_take [] 0 (.pointer (some ⟨gv, 0, none⟩)) rfl (by kernel_rfl) (fun _ _ _ h => h) SS rfl (by intro wz hz; go_simp) ?_
        try simp only [List.getElem_toArray, List.getElem_cons_succ, List.getElem_cons_zero, Act.put, List.setIfInBounds_toArray, List.set_cons_zero, List.set_cons_succ]
        refine wpAnyZ_take [] 1 (.pointer (some ⟨gv, 0, none⟩)) rfl (by kernel_rfl) (fun _ _ _ h => h) SS rfl (by intro wz hz; go_simp) ?_
        try simp only [List.getElem_toArray, List.getElem_cons_succ, List.getElem_cons_zero, Act.put, List.setIfInBounds_toArray, List.set_cons_zero, List.set_cons_succ]
        refine wpAnyZ_take [] 2 (.pointer (some ⟨gv, 0, none⟩)) rfl (by kernel_rfl) (fun _ _ _ h => h) SS rfl (by intro wz hz; go_simp) ?_
        try simp only [List.getElem_toArray, List.getElem_cons_succ, List.getElem_cons_zero, Act.put, List.setIfInBounds_toArray, List.set_cons_zero, List.set_cons_succ]
        refine wpAnyZ_take [] 3 (.pointer (some ⟨gv, 9, none⟩)) rfl (by kernel_rfl) (fun _ _ _ h => h) SS rfl (by intro wz hz; go_simp) ?_
        try simp only [List.getElem_toArray, List.getElem_cons_succ, List.getElem_cons_zero, Act.put, List.setIfInBounds_toArray, List.set_cons_zero, List.set_cons_succ]
        refine wpAnyZ_take [] 4 (.int .i64 V.pa) rfl (by kernel_rfl) (fun _ _ _ h => h) SS rfl (by intro wz hz; have z : wz.cell? ⟨gv, 9, none⟩ = some (.int .i64 V.pa) := hz.cell 9 (by show 9 < 13; decide); go_simp) ?_
        try simp only [List.getElem_toArray, List.getElem_cons_succ, List.getElem_cons_zero, Act.put, List.setIfInBounds_toArray, List.set_cons_zero, List.set_cons_succ]
        refine wpAnyZ_take [] 5 (.pointer (some ⟨gv, 0, none⟩)) rfl (by kernel_rfl) (fun _ _ _ h => h) SS rfl (by intro wz hz; go_simp) ?_
        try simp only [List.getElem_toArray, List.getElem_cons_succ, List.getElem_cons_zero, Act.put, List.setIfInBounds_toArray, List.set_cons_zero, List.set_cons_succ]
        refine wpAnyZ_take [] 6 (.pointer (some ⟨gv, 0, none⟩)) rfl (by kernel_rfl) (fun _ _ _ h => h) SS rfl (by intro wz hz; go_simp) ?_
        try simp only [List.getElem_toArray, List.getElem_cons_succ, List.getElem_cons_zero, Act.put, List.setIfInBounds_toArray, List.set_cons_zero, List.set_cons_succ]
        refine wpAnyZ_take [] 7 (.pointer (some ⟨gv, 0, none⟩)) rfl (by kernel_rfl) (fun _ _ _ h => h) SS rfl (by intro wz hz; go_simp) ?_
        try simp only [List.getElem_toArray, List.getElem_cons_succ, List.getElem_cons_zero, Act.put, List.setIfInBounds_toArray, List.set_cons_zero, List.set_cons_succ]
        refine wpAnyZ_take [] 8 (.pointer (some ⟨gv, 10, none⟩)) rfl (by kernel_rfl) (fun _ _ _ h => h) SS rfl (by intro wz hz; go_simp) ?_
        try simp only [List.getElem_toArray, List.getElem_cons_succ, List.getElem_cons_zero, Act.put, List.setIfInBounds_toArray, List.set_cons_zero, List.set_cons_succ]
        refine wpAnyZ_take [] 9 (.int .i64 V.pa) rfl (by kernel_rfl) (fun _ _ _ h => h) SS rfl (by intro wz hz; have z : wz.cell? ⟨gv, 10, none⟩ = some (.int .i64 V.pa) := hz.cell 10 (by show 10 < 13; decide); go_simp) ?_
        try simp only [List.getElem_toArray, List.getElem_cons_succ, List.getElem_cons_zero, Act.put, List.setIfInBounds_toArray, List.set_cons_zero, List.set_cons_succ]
        refine wpAnyZ_take [] 10 (.bool true) rfl (by kernel_rfl) (fun _ _ _ h => h) SS rfl (by intro wz hz; go_simp) ?_
        try simp only [List.getElem_toArray, List.getElem_cons_succ, List.getElem_cons_zero, Act.put, List.setIfInBounds_toArray, List.set_cons_zero, List.set_cons_succ]
        refine wpAnyZ_doneB (by kernel_rfl) ?_ _
        refine HK2.out _ _ ?_
        clear HK2
        refine wp_cond_true rfl ?_
        clear SS Gd h1 h
        generalize w1.drew = w2 at *
        refine wp_seq_k fun K2 hK2 => ?_
        have HK2 : Hid _ := hK2
        clear hK2
        have s0' : True := trivial
        go_wp2_with (have _t := s0'; clear s0'; refine wpList_stC _ rfl _ _ _ rfl gv 9 92 _ #[.int .i64 V.id, .string V.nm, .slice a V.L.length c, .int .i64 V.mo, .int .i64 V.bu, .int .i64 V.st, .bool V.fi, .int .i64 V.at', .slice q V.G.length d, .int .i64 0, .int .i64 V.pa, .int .i64 V.tr, .int .i64 V.li] (.int .i64 0) rfl rfl hd.bv (stc_int _ _ _) (by show 9 < 13; decide) rfl ?_; intro w3 bw3 uw3)
        refine HK2.out _ _ ?_
        clear HK2
        have h3 := hd.setV uw3 (V' := { V with ti := 0 }) rfl hd.O bw3
        clear uw3 bw3 hd
        refine wp_seq_k fun K2 hK2 => ?_
        have HK2 : Hid _ := hK2
        clear hK2
        have x11 : w3.cell? ⟨gv, 11, none⟩ = some (.int .i64 V.tr) := h3.bv.cell 11 (by show 11 < 13; decide)
        have s0' : True := trivial
        go_wp2_with (have _t := s0'; clear s0'; refine wpList_stC _ rfl _ _ _ rfl gv 11 92 _ #[.int .i64 V.id, .string V.nm, .slice a V.L.length c, .int .i64 V.mo, .int .i64 V.bu, .int .i64 V.st, .bool V.fi, .int .i64 V.at', .slice q V.G.length d, .int .i64 0, .int .i64 V.pa, .int .i64 r1, .int .i64 V.li] (.int .i64 r1) rfl rfl h3.bv (stc_int _ _ _) (by show 11 < 13; decide) rfl ?_; intro w4 bw4 uw4)
        refine HK2.out _ _ ?_
        clear HK2
        have h4 := h3.setV uw4 (V' := { V with ti := 0, tr := r1 }) rfl h3.O bw4
        clear uw4 bw4 h3 x11
        refine wp_seq_k fun K2 hK2 => ?_
        have HK2 : Hid _ := hK2
        clear hK2
        by_cases hgt : V.li < r1
        · have hle : ¬ r1 ≤ V.li := by omega
          have Gd := grown_drew w4 none
          have hd := h4.keepN Gd
          have SS : BxS w4.drew gv 92 #[.int .i64 V.id, .string V.nm, .slice a V.L.length c, .int .i64 V.mo, .int .i64 V.bu, .int .i64 V.st, .bool V.fi, .int .i64 V.at', .slice q V.G.length d, .int .i64 0, .int .i64 V.pa, .int .i64 r1, .int .i64 V.li] := hd.bv
          refine wp_regionL (fun wz => BxS wz gv 92 #[.int .i64 V.id, .string V.nm, .slice a V.L.length c, .int .i64 V.mo, .int .i64 V.bu, .int .i64 V.st, .bool V.fi, .int .i64 V.at', .slice q V.G.length d, .int .i64 0, .int .i64 V.pa, .int .i64 r1, .int .i64 V.li]) [] #[false, false, false, false, false, false, false, false, false, false, false] rfl (by kernel_rfl) ?_
          refine wpAnyZ_take [] 0 (.pointer (some ⟨gv, 0, none⟩)) rfl (by kernel_rfl) (fun _ _ _ h => h) SS rfl (by intro wz hz; go_simp) ?_
          try simp only [List.getElem_toArray, List.getElem_cons_succ, List.getElem_cons_zero, Act.put, List.setIfInBounds_toArray, List.set_cons_zero, List.set_cons_succ]
          refine wpAnyZ_take [] 1 (.pointer (some ⟨gv, 0, none⟩)) rfl (by kernel_rfl) (fun _ _ _ h => h) SS rfl (by intro wz hz; go_simp) ?_
          try simp only [List.getElem_toArray, List.getElem_cons_succ, List.getElem_cons_zero, Act.put, List.setIfInBounds_toArray, List.set_cons_zero, List.set_cons_succ]
          refine wpAnyZ_take [] 2 (.pointer (some ⟨gv, 0, none⟩)) rfl (by kernel_rfl) (fun _ _ _ h => h) SS rfl (by intro wz hz; go_simp) ?_
          try simp only [List.getElem_toArray, List.getElem_cons_succ, List.getElem_cons_zero, Act.put, List.setIfInBounds_toArray, List.set_cons_zero, List.set_cons_succ]
          refine wpAnyZ_take [] 3 (.pointer (some ⟨gv, 11, none⟩)) rfl (by kernel_rfl) (fun _ _ _ h => h) SS rfl (by intro wz hz; go_simp) ?_
          try simp only [List.getElem_toArray, List.getElem_cons_succ, List.getElem_cons_zero, Act.put, List.setIfInBounds_toArray, List.set_cons_zero, List.set_cons_succ]
          refine wpAnyZ_take [] 4 (.int .i64 r1) rfl (by kernel_rfl) (fun _ _ _ h => h) SS rfl (by intro wz hz; have z : wz.cell? ⟨gv, 11, none⟩ = some (.int .i64 r1) := hz.cell 11 (by show 11 < 13; decide); go_simp) ?_
          try simp only [List.getElem_toArray, List.getElem_cons_succ, List.getElem_cons_zero, Act.put, List.setIfInBounds_toArray, List.set_cons_zero, List.set_cons_succ]
          refine wpAnyZ_take [] 5 (.pointer (some ⟨gv, 0, none⟩)) rfl (by kernel_rfl) (fun _ _ _ h => h) SS rfl (by intro wz hz; go_simp) ?_
          try simp only [List.getElem_toArray, List.getElem_cons_succ, List.getElem_cons_zero, Act.put, List.setIfInBounds_toArray, List.set_cons_zero, List.set_cons_succ]
          refine wpAnyZ_take [] 6 (.pointer (some ⟨gv, 0, none⟩)) rfl (by kernel_rfl) (fun _ _ _ h => h) SS rfl (by intro wz hz; go_simp) ?_
          try simp only [List.getElem_toArray, List.getElem_cons_succ, List.getElem_cons_zero, Act.put, List.setIfInBounds_toArray, List.set_cons_zero, List.set_cons_succ]
          refine wpAnyZ_take [] 7 (.pointer (some ⟨gv, 0, none⟩)) rfl (by kernel_rfl) (fun _ _ _ h => h) SS rfl (by intro wz hz; go_simp) ?_
          try simp only [List.getElem_toArray, List.getElem_cons_succ, List.getElem_cons_zero, Act.put, List.setIfInBounds_toArray, List.set_cons_zero, List.set_cons_succ]
          refine wpAnyZ_take [] 8 (.pointer (some ⟨gv, 12, none⟩)) rfl (by kernel_rfl) (fun _ _ _ h => h) SS rfl (by intro wz hz; go_simp) ?_
          try simp only [List.getElem_toArray, List.getElem_cons_succ, List.getElem_cons_zero, Act.put, List.setIfInBounds_toArray, List.set_cons_zero, List.set_cons_succ]
          refine wpAnyZ_take [] 9 (.int .i64 V.li) rfl (by kernel_rfl) (fun _ _ _ h => h) SS rfl (by intro wz hz; have z : wz.cell? ⟨gv, 12, none⟩ = some (.int .i64 V.li) := hz.cell 12 (by show 12 < 13; decide); go_simp) ?_
          try simp only [List.getElem_toArray, List.getElem_cons_succ, List.getElem_cons_zero, Act.put, List.setIfInBounds_toArray, List.set_cons_zero, List.set_cons_succ]
          refine wpAnyZ_take [] 10 (.bool true) rfl (by kernel_rfl) (fun _ _ _ h => h) SS rfl (by intro wz hz; go_simp) ?_
          try simp only [List.getElem_toArray, List.getElem_cons_succ, List.getElem_cons_zero, Act.put, List.setIfInBounds_toArray, List.set_cons_zero, List.set_cons_succ]
          refine wpAnyZ_doneB (by kernel_rfl) ?_ _
          refine HK2.out _ _ ?_
          clear HK2
          refine wp_cond_true rfl ?_
          clear SS Gd h4
          generalize w4.drew = w5 at *
          refine wp_seq_k fun K2 hK2 => ?_
          have HK2 : Hid _ := hK2
          clear hK2
          have x12 : w5.cell? ⟨gv, 12, none⟩ = some (.int .i64 V.li) := hd.bv.cell 12 (by show 12 < 13; decide)
          have s0' : True := trivial
          go_wp2_with (have _t := s0'; clear s0'; refine wpList_stC _ rfl _ _ _ rfl gv 11 92 _ #[.int .i64 V.id, .string V.nm, .slice a V.L.length c, .int .i64 V.mo, .int .i64 V.bu, .int .i64 V.st, .bool V.fi, .int .i64 V.at', .slice q V.G.length d, .int .i64 0, .int .i64 V.pa, .int .i64 V.li, .int .i64 V.li] (.int .i64 V.li) rfl rfl hd.bv (stc_int _ _ _) (by show 11 < 13; decide) rfl ?_; intro w6 bw6 uw6)
          refine HK2.out _ _ ?_
          clear HK2
          have h6 := hd.setV uw6 (V' := { V with ti := 0, tr := V.li }) rfl hd.O bw6
          have s0' : True := trivial
          go_wp2_with (have _t := s0'; clear s0'; refine wpList_stC _ rfl _ _ _ rfl gv 5 92 _ #[.int .i64 V.id, .string V.nm, .slice a V.L.length c, .int .i64 V.mo, .int .i64 V.bu, .int .i64 4, .bool V.fi, .int .i64 V.at', .slice q V.G.length d, .int .i64 0, .int .i64 V.pa, .int .i64 V.li, .int .i64 V.li] (.int .i64 4) rfl rfl h6.bv (stc_stg _ _ _) (by show 5 < 13; decide) rfl ?_; intro w7 bw7 uw7)
          have h7 := h6.setV uw7 (V' := { V with st := 4, ti := 0, tr := V.li }) rfl h6.O bw7
          try simp only [Exit.then]
          refine HK1.out _ _ ?_
          clear HK1
          have htl : V.tr = V.li := by have := HR1.out; omega
          have HX : Hid (wtV V = ({ V with st := 4, ti := 0, tr := V.li }, [])) := by show _ = _; unfold wtV; rw [HT1.out, if_neg HLT.out, if_pos htl, htl]
          refine go_t43 P wB w7 g1 g2 gv _ { V with st := 4, ti := 0, tr := V.li } a c q d na nn nc xs T h7 hT ?_
          intro e w' h9
          refine HPT.out e w' ?_
          rw [HX.out, List.append_nil]
          exact h9
        · have hle : r1 ≤ V.li := by omega
          have Gd := grown_drew w4 none
          have hd := h4.keepN Gd
          have SS : BxS w4.drew gv 92 #[.int .i64 V.id, .string V.nm, .slice a V.L.length c, .int .i64 V.mo, .int .i64 V.bu, .int .i64 V.st, .bool V.fi, .int .i64 V.at', .slice q V.G.length d, .int .i64 0, .int .i64 V.pa, .int .i64 r1, .int .i64 V.li] := hd.bv
          refine wp_regionL (fun wz => BxS wz gv 92 #[.int .i64 V.id, .string V.nm, .slice a V.L.length c, .int .i64 V.mo, .int .i64 V.bu, .int .i64 V.st, .bool V.fi, .int .i64 V.at', .slice q V.G.length d, .int .i64 0, .int .i64 V.pa, .int .i64 r1, .int .i64 V.li]) [] #[false, false, false, false, false, false, false, false, false, false, false] rfl (by kernel_rfl) ?_
          refine wpAnyZ_take [] 0 (.pointer (some ⟨gv, 0, none⟩)) rfl (by kernel_rfl) (fun _ _ _ h => h) SS rfl (by intro wz hz; go_simp) ?_
          try simp only [List.getElem_toArray, List.getElem_cons_succ, List.getElem_cons_zero, Act.put, List.setIfInBounds_toArray, List.set_cons_zero, List.set_cons_succ]
          refine wpAnyZ_take [] 1 (.pointer (some ⟨gv, 0, none⟩)) rfl (by kernel_rfl) (fun _ _ _ h => h) SS rfl (by intro wz hz; go_simp) ?_
          try simp only [List.getElem_toArray, List.getElem_cons_succ, List.getElem_cons_zero, Act.put, List.setIfInBounds_toArray, List.set_cons_zero, List.set_cons_succ]
          refine wpAnyZ_take [] 2 (.pointer (some ⟨gv, 0, none⟩)) rfl (by kernel_rfl) (fun _ _ _ h => h) SS rfl (by intro wz hz; go_simp) ?_
          try simp only [List.getElem_toArray, List.getElem_cons_succ, List.getElem_cons_zero, Act.put, List.setIfInBounds_toArray, List.set_cons_zero, List.set_cons_succ]
          refine wpAnyZ_take [] 3 (.pointer (some ⟨gv, 11, none⟩)) rfl (by kernel_rfl) (fun _ _ _ h => h) SS rfl (by intro wz hz; go_simp) ?_
          try simp only [List.getElem_toArray, List.getElem_cons_succ, List.getElem_cons_zero, Act.put, List.setIfInBounds_toArray, List.set_cons_zero, List.set_cons_succ]
          refine wpAnyZ_take [] 4 (.int .i64 r1) rfl (by kernel_rfl) (fun _ _ _ h => h) SS rfl (by intro wz hz; have z : wz.cell? ⟨gv, 11, none⟩ = some (.int .i64 r1) := hz.cell 11 (by show 11 < 13; decide); go_simp) ?_
          try simp only [List.getElem_toArray, List.getElem_cons_succ, List.getElem_cons_zero, Act.put, List.setIfInBounds_toArray, List.set_cons_zero, List.set_cons_succ]
          refine wpAnyZ_take [] 5 (.pointer (some ⟨gv, 0, none⟩)) rfl (by kernel_rfl) (fun _ _ _ h => h) SS rfl (by intro wz hz; go_simp) ?_
          try simp only [List.getElem_toArray, List.getElem_cons_succ, List.getElem_cons_zero, Act.put, List.setIfInBounds_toArray, List.set_cons_zero, List.set_cons_succ]
          refine wpAnyZ_take [] 6 (.pointer (some ⟨gv, 0, none⟩)) rfl (by kernel_rfl) (fun _ _ _ h => h) SS rfl (by intro wz hz; go_simp) ?_
          try simp only [List.getElem_toArray, List.getElem_cons_succ, List.getElem_cons_zero, Act.put, List.setIfInBounds_toArray, List.set_cons_zero, List.set_cons_succ]
          refine wpAnyZ_take [] 7 (.pointer (some ⟨gv, 0, none⟩)) rfl (by kernel_rfl) (fun _ _ _ h => h) SS rfl (by intro wz hz; go_simp) ?_
          try simp only [List.getElem_toArray, List.getElem_cons_succ, List.getElem_cons_zero, Act.put, List.setIfInBounds_toArray, List.set_cons_zero, List.set_cons_succ]
          refine wpAnyZ_take [] 8 (.pointer (some ⟨gv, 12, none⟩)) rfl (by kernel_rfl) (fun _ _ _ h => h) SS rfl (by intro wz hz; go_simp) ?_
          try simp only [List.getElem_toArray, List.getElem_cons_succ, List.getElem_cons_zero, Act.put, List.setIfInBounds_toArray, List.set_cons_zero, List.set_cons_succ]
          refine wpAnyZ_take [] 9 (.int .i64 V.li) rfl (by kernel_rfl) (fun _ _ _ h => h) SS rfl (by intro wz hz; have z : wz.cell? ⟨gv, 12, none⟩ = some (.int .i64 V.li) := hz.cell 12 (by show 12 < 13; decide); go_simp) ?_
          try simp only [List.getElem_toArray, List.getElem_cons_succ, List.getElem_cons_zero, Act.put, List.setIfInBounds_toArray, List.set_cons_zero, List.set_cons_succ]
          refine wpAnyZ_take [] 10 (.bool false) rfl (by kernel_rfl) (fun _ _ _ h => h) SS rfl (by intro wz hz; go_simp) ?_
          try simp only [List.getElem_toArray, List.getElem_cons_succ, List.getElem_cons_zero, Act.put, List.setIfInBounds_toArray, List.set_cons_zero, List.set_cons_succ]
          refine wpAnyZ_doneB (by kernel_rfl) ?_ _
          refine HK2.out _ _ ?_
          clear HK2
          refine wp_cond_false rfl ?_
          clear SS Gd h4
          generalize w4.drew = w5 at *
          obtain ⟨sm, hsm⟩ : ∃ sm, smT V.L V.L.length % 4294967296 = sm := ⟨_, rfl⟩
          have kC : Calls Try.prog 63 #[.pointer (some ⟨gv, 0, none⟩)] w5 (fun e w' => e = .returned (.agg #[.int .i64 3, .int .i64 V.id, .string ⟨#[]⟩, .int .i64 (V.L.length : Int), .int .i64 (sm : Int), .int .i64 0, .slice none 0 0, .slice none 0 0, .int .i64 0, .int .i64 0]) ∧ w5.grownBy w' none) := by have := rend_any w5 gv _ _ _ _ _ _ _ _ _ _ _ _ _ _ _ _ _ V.L hd.A.rd hd.bv; rw [hsm] at this; exact this
          have HSM : Hid _ := hsm
          clear hsm
          obtain ⟨i0, hi, hz0, hz1, hz2⟩ := info_parts Try.info_nt3
          have s0' : True := trivial
          go_wp2_with (first
            | (go_at_call 63; have _t := s0'; clear s0'; refine Calls.mono kC ?_; rintro e wc ⟨rfl, yc⟩; have bA := BxS.new wc 27 #[.int .i64 3, .int .i64 V.id, .string ⟨#[]⟩, .int .i64 (V.L.length : Int), .int .i64 (sm : Int), .int .i64 0, .slice none 0 0, .slice none 0 0, .int .i64 0, .int .i64 0]; have yA := World.grownBy_alloc wc (.cells #[.int .i64 3, .int .i64 V.id, .string ⟨#[]⟩, .int .i64 (V.L.length : Int), .int .i64 (sm : Int), .int .i64 0, .slice none 0 0, .slice none 0 0, .int .i64 0, .int .i64 0] 27) none; generalize hwA : wc.alloc (.cells #[.int .i64 3, .int .i64 V.id, .string ⟨#[]⟩, .int .i64 (V.L.length : Int), .int .i64 (sm : Int), .int .i64 0, .slice none 0 0, .slice none 0 0, .int .i64 0, .int .i64 0] 27) = wA at bA yA; have hA := hd.keepN (grown_trans yc yA); have s1' : True := trivial)
            | (at_builtin; have _t := s1'; clear s1'; refine wpList_apS wA rfl _ _ 54 27 i0 _ 10 120 Try.underlying54 hi hz0 hz1 hz2 rfl (by decide) rfl (.slice na nn nc) nn (flN xs) rfl hA.N.own ⟨wc.heap.size, 0, none⟩ 1 1 (xEnd V.id V.L.length sm).cells rfl rfl bA.newsA (by intro u hu; simp only [xEnd, Nx.cells, Nx.arr, List.mem_cons, List.not_mem_nil, or_false] at hu; rcases hu with rfl | rfl | rfl | rfl | rfl | rfl | rfl | rfl | rfl | rfl <;> rfl) (by decide) (by unfold maxLen; omega) (by omega) ?_; intro gx cx w6 hor u5 hO5))
          have h6 := hA.push (x := xEnd V.id V.L.length sm) rfl rfl rfl (Ans.nil _ _) (fun z e => by cases e) hor u5 hO5
          try simp only [Exit.then]
          refine HK1.out _ _ ?_
          clear HK1
          have HX : Hid (wtV V = ({ V with ti := 0, tr := r1 }, [ntEnd V])) := by show _ = _; unfold wtV; rw [HT1.out, if_neg HLT.out, if_neg (by have := HR1.out; omega), HR1.out]
          refine go_t43 P wB w6 g1 g2 gv _ { V with ti := 0, tr := r1 } a c q d _ _ _ _ (T ++ [ntEnd V]) h6 (map_one hT _ _ (by show Nt.mk _ _ _ _ _ _ _ _ _ _ = _; rw [← HSM.out]; rfl)) ?_
          intro e w' h9
          refine HPT.out e w' ?_
          rw [HX.out]
          exact h9
    · go_wp2
      refine HK2.out _ _ ?_
      clear HK2
      refine wp_cond_true rfl ?_
      refine wp_seq_k fun K2 hK2 => ?_
      have HK2 : Hid _ := hK2
      clear hK2
      have x9 : w.cell? ⟨gv, 9, none⟩ = some (.int .i64 V.ti) := h.bv.cell 9 (by show 9 < 13; decide)
      have s0' : True := trivial
      go_wp2_with (have _t := s0'; clear s0'; refine wpList_stC _ rfl _ _ _ rfl gv 9 92 _ #[.int .i64 V.id, .string V.nm, .slice a V.L.length c, .int .i64 V.mo, .int .i64 V.bu, .int .i64 V.st, .bool V.fi, .int .i64 V.at', .slice q V.G.length d, .int .i64 t1, .int .i64 V.pa, .int .i64 V.tr, .int .i64 V.li] (.int .i64 t1) rfl rfl h.bv (stc_int _ _ _) (by show 9 < 13; decide) rfl ?_; intro w1 bw1 uw1)
      refine HK2.out _ _ ?_
      clear HK2
      have h1 := h.setV uw1 (V' := { V with ti := t1 }) rfl h.O bw1
      clear x9 x5 uw1 bw1
      refine wp_seq_k fun K2 hK2 => ?_
      have HK2 : Hid _ := hK2
      clear hK2
      by_cases hlt : t1 < V.pa
      · have hne : (t1 == V.pa) = false := beq_eq_false_iff_ne.2 (by omega)
        have hne2 : ¬ t1 = V.pa := by omega
        have HLT : Hid _ := hlt
        have Gd := grown_drew w1 none
        have hd := h1.keepN Gd
        have SS : BxS w1.drew gv 92 #[.int .i64 V.id, .string V.nm, .slice a V.L.length c, .int .i64 V.mo, .int .i64 V.bu, .int .i64 V.st, .bool V.fi, .int .i64 V.at', .slice q V.G.length d, .int .i64 t1, .int .i64 V.pa, .int .i64 V.tr, .int .i64 V.li] := hd.bv
        refine wp_regionL (fun wz => BxS wz gv 92 #[.int .i64 V.id, .string V.nm, .slice a V.L.length c, .int .i64 V.mo, .int .i64 V.bu, .int .i64 V.st, .bool V.fi, .int .i64 V.at', .slice q V.G.length d, .int .i64 t1, .int .i64 V.pa, .int .i64 V.tr, .int .i64 V.li]) [] #[false, false, false, false, false, false, false, false, false, false, false] rfl (by kernel_rfl) ?_
        refine wpAnyZ_take [] 0 (.pointer (some ⟨gv, 0, none⟩)) rfl (by kernel_rfl) (fun _ _ _ h => h) SS rfl (by intro wz hz; go_simp) ?_
        try simp only [List.getElem_toArray, List.getElem_cons_succ, List.getElem_cons_zero, Act.put, List.setIfInBounds_toArray, List.set_cons_zero, List.set_cons_succ]
        refine wpAnyZ_take [] 1 (.pointer (some ⟨gv, 0, none⟩)) rfl (by kernel_rfl) (fun _ _ _ h => h) SS rfl (by intro wz hz; go_simp) ?_
        try simp only [List.getElem_toArray, List.getElem_cons_succ, List.getElem_cons_zero, Act.put, List.setIfInBounds_toArray, List.set_cons_zero, List.set_cons_succ]
        refine wpAnyZ_take [] 2 (.pointer (some ⟨gv, 0, none⟩)) rfl (by kernel_rfl) (fun _ _ _ h => h) SS rfl (by intro wz hz; go_simp) ?_
        try simp only [List.getElem_toArray, List.getElem_cons_succ, List.getElem_cons_zero, Act.put, List.setIfInBounds_toArray, List.set_cons_zero, List.set_cons_succ]
        refine wpAnyZ_take [] 3 (.pointer (some ⟨gv, 9, none⟩)) rfl (by kernel_rfl) (fun _ _ _ h => h) SS rfl (by intro wz hz; go_simp) ?_
        try simp only [List.getElem_toArray, List.getElem_cons_succ, List.getElem_cons_zero, Act.put, List.setIfInBounds_toArray, List.set_cons_zero, List.set_cons_succ]
        refine wpAnyZ_take [] 4 (.int .i64 t1) rfl (by kernel_rfl) (fun _ _ _ h => h) SS rfl (by intro wz hz; have z : wz.cell? ⟨gv, 9, none⟩ = some (.int .i64 t1) := hz.cell 9 (by show 9 < 13; decide); go_simp) ?_
        try simp only [List.getElem_toArray, List.getElem_cons_succ, List.getElem_cons_zero, Act.put, List.setIfInBounds_toArray, List.set_cons_zero, List.set_cons_succ]
        refine wpAnyZ_take [] 5 (.pointer (some ⟨gv, 0, none⟩)) rfl (by kernel_rfl) (fun _ _ _ h => h) SS rfl (by intro wz hz; go_simp) ?_
        try simp only [List.getElem_toArray, List.getElem_cons_succ, List.getElem_cons_zero, Act.put, List.setIfInBounds_toArray, List.set_cons_zero, List.set_cons_succ]
        refine wpAnyZ_take [] 6 (.pointer (some ⟨gv, 0, none⟩)) rfl (by kernel_rfl) (fun _ _ _ h => h) SS rfl (by intro wz hz; go_simp) ?_
        try simp only [List.getElem_toArray, List.getElem_cons_succ, List.getElem_cons_zero, Act.put, List.setIfInBounds_toArray, List.set_cons_zero, List.set_cons_succ]
        refine wpAnyZ_take [] 7 (.pointer (some ⟨gv, 0, none⟩)) rfl (by kernel_rfl) (fun _ _ _ h => h) SS rfl (by intro wz hz; go_simp) ?_
        try simp only [List.getElem_toArray, List.getElem_cons_succ, List.getElem_cons_zero, Act.put, List.setIfInBounds_toArray, List.set_cons_zero, List.set_cons_succ]
        refine wpAnyZ_take [] 8 (.pointer (some ⟨gv, 10, none⟩)) rfl (by kernel_rfl) (fun _ _ _ h => h) SS rfl (by intro wz hz; go_simp) ?_
        try simp only [List.getElem_toArray, List.getElem_cons_succ, List.getElem_cons_zero, Act.put, List.setIfInBounds_toArray, List.set_cons_zero, List.set_cons_succ]
        refine wpAnyZ_take [] 9 (.int .i64 V.pa) rfl (by kernel_rfl) (fun _ _ _ h => h) SS rfl (by intro wz hz; have z : wz.cell? ⟨gv, 10, none⟩ = some (.int .i64 V.pa) := hz.cell 10 (by show 10 < 13; decide); go_simp) ?_
        try simp only [List.getElem_toArray, List.getElem_cons_succ, List.getElem_cons_zero, Act.put, List.setIfInBounds_toArray, List.set_cons_zero, List.set_cons_succ]
        refine wpAnyZ_take [] 10 (.bool false) rfl (by kernel_rfl) (fun _ _ _ h => h) SS rfl (by intro wz hz; go_simp) ?_
        try simp only [List.getElem_toArray, List.getElem_cons_succ, List.getElem_cons_zero, Act.put, List.setIfInBounds_toArray, List.set_cons_zero, List.set_cons_succ]
        refine wpAnyZ_doneB (by kernel_rfl) ?_ _
        refine HK2.out _ _ ?_
        clear HK2
        refine wp_cond_false rfl ?_
        refine wp_skip ?_
        try simp only [Exit.then]
        refine HK1.out _ _ ?_
        clear HK1
        have HX : Hid (wtV V = ({ V with ti := t1 }, [])) := by show _ = _; unfold wtV; rw [HT1.out, if_pos HLT.out]
        refine go_t43 P wB w1.drew g1 g2 gv _ { V with ti := t1 } a c q d na nn nc xs T hd hT ?_
        intro e w' h9
        refine HPT.out e w' ?_
        rw [HX.out, List.append_nil]
        exact h9
      · obtain rfl : t1 = V.pa := by omega
        have hne : (V.pa == V.pa) = true := beq_self_eq_true _
        have HLT : Hid _ := hlt
        have Gd := grown_drew w1 none
        have hd := h1.keepN Gd
        have SS : BxS w1.drew gv 92 #[.int .i64 V.id, .string V.nm, .slice a V.L.length c, .int .i64 V.mo, .int .i64 V.bu, .int .i64 V.st, .bool V.fi, .int .i64 V.at', .slice q V.G.length d, .int .i64 V.pa, .int .i64 V.pa, .int .i64 V.tr, .int .i64 V.li] := hd.bv
        refine wp_regionL (fun wz => BxS wz gv 92 #[.int .i64 V.id, .string V.nm, .slice a V.L.length c, .int .i64 V.mo, .int .i64 V.bu, .int .i64 V.st, .bool V.fi, .int .i64 V.at', .slice q V.G.length d, .int .i64 V.pa, .int .i64 V.pa, .int .i64 V.tr, .int .i64 V.li]) [] #[false, false, false, false, false, false, false, false, false, false, false] rfl (by kernel_rfl) ?_
        refine wpAnyZ_take [] 0 (.pointer (some ⟨gv, 0, none⟩)) rfl (by kernel_rfl) (fun _ _ _ h => h) SS rfl (by intro wz hz; go_simp) ?_
        try simp only [List.getElem_toArray, List.getElem_cons_succ, List.getElem_cons_zero, Act.put, List.setIfInBounds_toArray, List.set_cons_zero, List.set_cons_succ]
        refine wpAnyZ_take [] 1 (.pointer (some ⟨gv, 0, none⟩)) rfl (by kernel_rfl) (fun _ _ _ h => h) SS rfl (by intro wz hz; go_simp) ?_
        try simp only [List.getElem_toArray, List.getElem_cons_succ, List.getElem_cons_zero, Act.put, List.setIfInBounds_toArray, List.set_cons_zero, List.set_cons_succ]
        refine wpAnyZ_take [] 2 (.pointer (some ⟨gv, 0, none⟩)) rfl (by kernel_rfl) (fun _ _ _ h => h) SS rfl (by intro wz hz; go_simp) ?_
        try simp only [List.getElem_toArray, List.getElem_cons_succ, List.getElem_cons_zero, Act.put, List.setIfInBounds_toArray, List.set_cons_zero, List.set_cons_succ]
        refine wpAnyZ_take [] 3 (.pointer (some ⟨gv, 9, none⟩)) rfl (by kernel_rfl) (fun _ _ _ h => h) SS rfl (by intro wz hz; go_simp) ?_
        try simp only [List.getElem_toArray, List.getElem_cons_succ, List.getElem_cons_zero, Act.put, List.setIfInBounds_toArray, List.set_cons_zero, List.set_cons_succ]
        refine wpAnyZ_take [] 4 (.int .i64 V.pa) rfl (by kernel_rfl) (fun _ _ _ h => h) SS rfl (by intro wz hz; have z : wz.cell? ⟨gv, 9, none⟩ = some (.int .i64 V.pa) := hz.cell 9 (by show 9 < 13; decide); go_simp) ?_
        try simp only [List.getElem_toArray, List.getElem_cons_succ, List.getElem_cons_zero, Act.put, List.setIfInBounds_toArray, List.set_cons_zero, List.set_cons_succ]
        refine wpAnyZ_take [] 5 (.pointer (some ⟨gv, 0, none⟩)) rfl (by kernel_rfl) (fun _ _ _ h => h) SS rfl (by intro wz hz; go_simp) ?_
        try simp only [List.getElem_toArray, List.getElem_cons_succ, List.getElem_cons_zero, Act.put, List.setIfInBounds_toArray, List.set_cons_zero, List.set_cons_succ]
        refine wpAnyZ_take [] 6 (.pointer (some ⟨gv, 0, none⟩)) rfl (by kernel_rfl) (fun _ _ _ h => h) SS rfl (by intro wz hz; go_simp) ?_
        try simp only [List.getElem_toArray, List.getElem_cons_succ, List.getElem_cons_zero, Act.put, List.setIfInBounds_toArray, List.set_cons_zero, List.set_cons_succ]
        refine wpAnyZ_take [] 7 (.pointer (some ⟨gv, 0, none⟩)) rfl (by kernel_rfl) (fun _ _ _ h => h) SS rfl (by intro wz hz; go_simp) ?_
        try simp only [List.getElem_toArray, List.getElem_cons_succ, List.getElem_cons_zero, Act.put, List.setIfInBounds_toArray, List.set_cons_zero, List.set_cons_succ]
        refine wpAnyZ_take [] 8 (.pointer (some ⟨gv, 10, none⟩)) rfl (by kernel_rfl) (fun _ _ _ h => h) SS rfl (by intro wz hz; go_simp) ?_
        try simp only [List.getElem_toArray, List.getElem_cons_succ, List.getElem_cons_zero, Act.put, List.setIfInBounds_toArray, List.set_cons_zero, List.set_cons_succ]
        refine wpAnyZ_take [] 9 (.int .i64 V.pa) rfl (by kernel_rfl) (fun _ _ _ h => h) SS rfl (by intro wz hz; have z : wz.cell? ⟨gv, 10, none⟩ = some (.int .i64 V.pa) := hz.cell 10 (by show 10 < 13; decide); go_simp) ?_
        try simp only [List.getElem_toArray, List.getElem_cons_succ, List.getElem_cons_zero, Act.put, List.setIfInBounds_toArray, List.set_cons_zero, List.set_cons_succ]
        refine wpAnyZ_take [] 10 (.bool true) rfl (by kernel_rfl) (fun _ _ _ h => h) SS rfl (by intro wz hz; go_simp) ?_
        try simp only [List.getElem_toArray, List.getElem_cons_succ, List.getElem_cons_zero, Act.put, List.setIfInBounds_toArray, List.set_cons_zero, List.set_cons_succ]
        refine wpAnyZ_doneB (by kernel_rfl) ?_ _
        refine HK2.out _ _ ?_
        clear HK2
        refine wp_cond_true rfl ?_
        clear SS Gd h1 h
        generalize w1.drew = w2 at *
        refine wp_seq_k fun K2 hK2 => ?_
        have HK2 : Hid _ := hK2
        clear hK2
        have s0' : True := trivial
        go_wp2_with (have _t := s0'; clear s0'; refine wpList_stC _ rfl _ _ _ rfl gv 9 92 _ #[.int .i64 V.id, .string V.nm, .slice a V.L.length c, .int .i64 V.mo, .int .i64 V.bu, .int .i64 V.st, .bool V.fi, .int .i64 V.at', .slice q V.G.length d, .int .i64 0, .int .i64 V.pa, .int .i64 V.tr, .int .i64 V.li] (.int .i64 0) rfl rfl hd.bv (stc_int _ _ _) (by show 9 < 13; decide) rfl ?_; intro w3 bw3 uw3)
        refine HK2.out _ _ ?_
        clear HK2
        have h3 := hd.setV uw3 (V' := { V with ti := 0 }) rfl hd.O bw3
        clear uw3 bw3 hd
        refine wp_seq_k fun K2 hK2 => ?_
        have HK2 : Hid _ := hK2
        clear hK2
        have x11 : w3.cell? ⟨gv, 11, none⟩ = some (.int .i64 V.tr) := h3.bv.cell 11 (by show 11 < 13; decide)
        have s0' : True := trivial
        go_wp2_with (have _t := s0'; clear s0'; refine wpList_stC _ rfl _ _ _ rfl gv 11 92 _ #[.int .i64 V.id, .string V.nm, .slice a V.L.length c, .int .i64 V.mo, .int .i64 V.bu, .int .i64 V.st, .bool V.fi, .int .i64 V.at', .slice q V.G.length d, .int .i64 0, .int .i64 V.pa, .int .i64 r1, .int .i64 V.li] (.int .i64 r1) rfl rfl h3.bv (stc_int _ _ _) (by show 11 < 13; decide) rfl ?_; intro w4 bw4 uw4)
        refine HK2.out _ _ ?_
        clear HK2
        have h4 := h3.setV uw4 (V' := { V with ti := 0, tr := r1 }) rfl h3.O bw4
        clear uw4 bw4 h3 x11
        refine wp_seq_k fun K2 hK2 => ?_
        have HK2 : Hid _ := hK2
        clear hK2
        by_cases hgt : V.li < r1
        · have hle : ¬ r1 ≤ V.li := by omega
          have Gd := grown_drew w4 none
          have hd := h4.keepN Gd
          have SS : BxS w4.drew gv 92 #[.int .i64 V.id, .string V.nm, .slice a V.L.length c, .int .i64 V.mo, .int .i64 V.bu, .int .i64 V.st, .bool V.fi, .int .i64 V.at', .slice q V.G.length d, .int .i64 0, .int .i64 V.pa, .int .i64 r1, .int .i64 V.li] := hd.bv
          refine wp_regionL (fun wz => BxS wz gv 92 #[.int .i64 V.id, .string V.nm, .slice a V.L.length c, .int .i64 V.mo, .int .i64 V.bu, .int .i64 V.st, .bool V.fi, .int .i64 V.at', .slice q V.G.length d, .int .i64 0, .int .i64 V.pa, .int .i64 r1, .int .i64 V.li]) [] #[false, false, false, false, false, false, false, false, false, false, false] rfl (by kernel_rfl) ?_
          refine wpAnyZ_take [] 0 (.pointer (some ⟨gv, 0, none⟩)) rfl (by kernel_rfl) (fun _ _ _ h => h) SS rfl (by intro wz hz; go_simp) ?_
          try simp only [List.getElem_toArray, List.getElem_cons_succ, List.getElem_cons_zero, Act.put, List.setIfInBounds_toArray, List.set_cons_zero, List.set_cons_succ]
          refine wpAnyZ_take [] 1 (.pointer (some ⟨gv, 0, none⟩)) rfl (by kernel_rfl) (fun _ _ _ h => h) SS rfl (by intro wz hz; go_simp) ?_
          try simp only [List.getElem_toArray, List.getElem_cons_succ, List.getElem_cons_zero, Act.put, List.setIfInBounds_toArray, List.set_cons_zero, List.set_cons_succ]
          refine wpAnyZ_take [] 2 (.pointer (some ⟨gv, 0, none⟩)) rfl (by kernel_rfl) (fun _ _ _ h => h) SS rfl (by intro wz hz; go_simp) ?_
          try simp only [List.getElem_toArray, List.getElem_cons_succ, List.getElem_cons_zero, Act.put, List.setIfInBounds_toArray, List.set_cons_zero, List.set_cons_succ]
          refine wpAnyZ_take [] 3 (.pointer (some ⟨gv, 11, none⟩)) rfl (by kernel_rfl) (fun _ _ _ h => h) SS rfl (by intro wz hz; go_simp) ?_
          try simp only [List.getElem_toArray, List.getElem_cons_succ, List.getElem_cons_zero, Act.put, List.setIfInBounds_toArray, List.set_cons_zero, List.set_cons_succ]
          refine wpAnyZ_take [] 4 (.int .i64 r1) rfl (by kernel_rfl) (fun _ _ _ h => h) SS rfl (by intro wz hz; have z : wz.cell? ⟨gv, 11, none⟩ = some (.int .i64 r1) := hz.cell 11 (by show 11 < 13; decide); go_simp) ?_
          try simp only [List.getElem_toArray, List.getElem_cons_succ, List.getElem_cons_zero, Act.put, List.setIfInBounds_toArray, List.set_cons_zero, List.set_cons_succ]
          refine wpAnyZ_take [] 5 (.pointer (some ⟨gv, 0, none⟩)) rfl (by kernel_rfl) (fun _ _ _ h => h) SS rfl (by intro wz hz; go_simp) ?_
          try simp only [List.getElem_toArray, List.getElem_cons_succ, List.getElem_cons_zero, Act.put, List.setIfInBounds_toArray, List.set_cons_zero, List.set_cons_succ]
          refine wpAnyZ_take [] 6 (.pointer (some ⟨gv, 0, none⟩)) rfl (by kernel_rfl) (fun _ _ _ h => h) SS rfl (by intro wz hz; go_simp) ?_
          try simp only [List.getElem_toArray, List.getElem_cons_succ, List.getElem_cons_zero, Act.put, List.setIfInBounds_toArray, List.set_cons_zero, List.set_cons_succ]
          refine wpAnyZ_take [] 7 (.pointer (some ⟨gv, 0, none⟩)) rfl (by kernel_rfl) (fun _ _ _ h => h) SS rfl (by intro wz hz; go_simp) ?_
          try simp only [List.getElem_toArray, List.getElem_cons_succ, List.getElem_cons_zero, Act.put, List.setIfInBounds_toArray, List.set_cons_zero, List.set_cons_succ]
          refine wpAnyZ_take [] 8 (.pointer (some ⟨gv, 12, none⟩)) rfl (by kernel_rfl) (fun _ _ _ h => h) SS rfl (by intro wz hz; go_simp) ?_
          try simp only [List.getElem_toArray, List.getElem_cons_succ, List.getElem_cons_zero, Act.put, List.setIfInBounds_toArray, List.set_cons_zero, List.set_cons_succ]
          refine wpAnyZ_take [] 9 (.int .i64 V.li) rfl (by kernel_rfl) (fun _ _ _ h => h) SS rfl (by intro wz hz; have z : wz.cell? ⟨gv, 12, none⟩ = some (.int .i64 V.li) := hz.cell 12 (by show 12 < 13; decide); go_simp) ?_
          try simp only [List.getElem_toArray, List.getElem_cons_succ, List.getElem_cons_zero, Act.put, List.setIfInBounds_toArray, List.set_cons_zero, List.set_cons_succ]
          refine wpAnyZ_take [] 10 (.bool true) rfl (by kernel_rfl) (fun _ _ _ h => h) SS rfl (by intro wz hz; go_simp) ?_
          try simp only [List.getElem_toArray, List.getElem_cons_succ, List.getElem_cons_zero, Act.put, List.setIfInBounds_toArray, List.set_cons_zero, List.set_cons_succ]
          refine wpAnyZ_doneB (by kernel_rfl) ?_ _
          refine HK2.out _ _ ?_
          clear HK2
          refine wp_cond_true rfl ?_
          clear SS Gd h4
          generalize w4.drew = w5 at *
          refine wp_seq_k fun K2 hK2 => ?_
          have HK2 : Hid _ := hK2
          clear hK2
          have x12 : w5.cell? ⟨gv, 12, none⟩ = some (.int .i64 V.li) := hd.bv.cell 12 (by show 12 < 13; decide)
          have s0' : True := trivial
          go_wp2_with (have _t := s0'; clear s0'; refine wpList_stC _ rfl _ _ _ rfl gv 11 92 _ #[.int .i64 V.id, .string V.nm, .slice a V.L.length c, .int .i64 V.mo, .int .i64 V.bu, .int .i64 V.st, .bool V.fi, .int .i64 V.at', .slice q V.G.length d, .int .i64 0, .int .i64 V.pa, .int .i64 V.li, .int .i64 V.li] (.int .i64 V.li) rfl rfl hd.bv (stc_int _ _ _) (by show 11 < 13; decide) rfl ?_; intro w6 bw6 uw6)
          refine HK2.out _ _ ?_
          clear HK2
          have h6 := hd.setV uw6 (V' := { V with ti := 0, tr := V.li }) rfl hd.O bw6
          have s0' : True := trivial
          go_wp2_with (have _t := s0'; clear s0'; refine wpList_stC _ rfl _ _ _ rfl gv 5 92 _ #[.int .i64 V.id, .string V.nm, .slice a V.L.length c, .int .i64 V.mo, .int .i64 V.bu, .int .i64 4, .bool V.fi, .int .i64 V.at', .slice q V.G.length d, .int .i64 0, .int .i64 V.pa, .int .i64 V.li, .int .i64 V.li] (.int .i64 4) rfl rfl h6.bv (stc_stg _ _ _) (by show 5 < 13; decide) rfl ?_; intro w7 bw7 uw7)
          have h7 := h6.setV uw7 (V' := { V with st := 4, ti := 0, tr := V.li }) rfl h6.O bw7
          try simp only [Exit.then]
          refine HK1.out _ _ ?_
          clear HK1
          have htl : V.tr = V.li := by have := HR1.out; omega
          have HX : Hid (wtV V = ({ V with st := 4, ti := 0, tr := V.li }, [])) := by show _ = _; unfold wtV; rw [HT1.out, if_neg HLT.out, if_pos htl, htl]
          refine go_t43 P wB w7 g1 g2 gv _ { V with st := 4, ti := 0, tr := V.li } a c q d na nn nc xs T h7 hT ?_
          intro e w' h9
          refine HPT.out e w' ?_
          rw [HX.out, List.append_nil]
          exact h9
        · have hle : r1 ≤ V.li := by omega
          have Gd := grown_drew w4 none
          have hd := h4.keepN Gd
          have SS : BxS w4.drew gv 92 #[.int .i64 V.id, .string V.nm, .slice a V.L.length c, .int .i64 V.mo, .int .i64 V.bu, .int .i64 V.st, .bool V.fi, .int .i64 V.at', .slice q V.G.length d, .int .i64 0, .int .i64 V.pa, .int .i64 r1, .int .i64 V.li] := hd.bv
          refine wp_regionL (fun wz => BxS wz gv 92 #[.int .i64 V.id, .string V.nm, .slice a V.L.length c, .int .i64 V.mo, .int .i64 V.bu, .int .i64 V.st, .bool V.fi, .int .i64 V.at', .slice q V.G.length d, .int .i64 0, .int .i64 V.pa, .int .i64 r1, .int .i64 V.li]) [] #[false, false, false, false, false, false, false, false, false, false, false] rfl (by kernel_rfl) ?_
          refine wpAnyZ_take [] 0 (.pointer (some ⟨gv, 0, none⟩)) rfl (by kernel_rfl) (fun _ _ _ h => h) SS rfl (by intro wz hz; go_simp) ?_
          try simp only [List.getElem_toArray, List.getElem_cons_succ, List.getElem_cons_zero, Act.put, List.setIfInBounds_toArray, List.set_cons_zero, List.set_cons_succ]
          refine wpAnyZ_take [] 1 (.pointer (some ⟨gv, 0, none⟩)) rfl (by kernel_rfl) (fun _ _ _ h => h) SS rfl (by intro wz hz; go_simp) ?_
          try simp only [List.getElem_toArray, List.getElem_cons_succ, List.getElem_cons_zero, Act.put, List.setIfInBounds_toArray, List.set_cons_zero, List.set_cons_succ]
          refine wpAnyZ_take [] 2 (.pointer (some ⟨gv, 0, none⟩)) rfl (by kernel_rfl) (fun _ _ _ h => h) SS rfl (by intro wz hz; go_simp) ?_
          try simp only [List.getElem_toArray, List.getElem_cons_succ, List.getElem_cons_zero, Act.put, List.setIfInBounds_toArray, List.set_cons_zero, List.set_cons_succ]
          refine wpAnyZ_take [] 3 (.pointer (some ⟨gv, 11, none⟩)) rfl (by kernel_rfl) (fun _ _ _ h => h) SS rfl (by intro wz hz; go_simp) ?_
          try simp only [List.getElem_toArray, List.getElem_cons_succ, List.getElem_cons_zero, Act.put, List.setIfInBounds_toArray, List.set_cons_zero, List.set_cons_succ]
          refine wpAnyZ_take [] 4 (.int .i64 r1) rfl (by kernel_rfl) (fun _ _ _ h => h) SS rfl (by intro wz hz; have z : wz.cell? ⟨gv, 11, none⟩ = some (.int .i64 r1) := hz.cell 11 (by show 11 < 13; decide); go_simp) ?_
          try simp only [List.getElem_toArray, List.getElem_cons_succ, List.getElem_cons_zero, Act.put, List.setIfInBounds_toArray, List.set_cons_zero, List.set_cons_succ]
          refine wpAnyZ_take [] 5 (.pointer (some ⟨gv, 0, none⟩)) rfl (by kernel_rfl) (fun _ _ _ h => h) SS rfl (by intro wz hz; go_simp) ?_
          try simp only [List.getElem_toArray, List.getElem_cons_succ, List.getElem_cons_zero, Act.put, List.setIfInBounds_toArray, List.set_cons_zero, List.set_cons_succ]
          refine wpAnyZ_take [] 6 (.pointer (some ⟨gv, 0, none⟩)) rfl (by kernel_rfl) (fun _ _ _ h => h) SS rfl (by intro wz hz; go_simp) ?_
          try simp only [List.getElem_toArray, List.getElem_cons_succ, List.getElem_cons_zero, Act.put, List.setIfInBounds_toArray, List.set_cons_zero, List.set_cons_succ]
          refine wpAnyZ_take [] 7 (.pointer (some ⟨gv, 0, none⟩)) rfl (by kernel_rfl) (fun _ _ _ h => h) SS rfl (by intro wz hz; go_simp) ?_
          try simp only [List.getElem_toArray, List.getElem_cons_succ, List.getElem_cons_zero, Act.put, List.setIfInBounds_toArray, List.set_cons_zero, List.set_cons_succ]
          refine wpAnyZ_take [] 8 (.pointer (some ⟨gv, 12, none⟩)) rfl (by kernel_rfl) (fun _ _ _ h => h) SS rfl (by intro wz hz; go_simp) ?_
          try simp only [List.getElem_toArray, List.getElem_cons_succ, List.getElem_cons_zero, Act.put, List.setIfInBounds_toArray, List.set_cons_zero, List.set_cons_succ]
          refine wpAnyZ_take [] 9 (.int .i64 V.li) rfl (by kernel_rfl) (fun _ _ _ h => h) SS rfl (by intro wz hz; have z : wz.cell? ⟨gv, 12, none⟩ = some (.int .i64 V.li) := hz.cell 12 (by show 12 < 13; decide); go_simp) ?_
          try simp only [List.getElem_toArray, List.getElem_cons_succ, List.getElem_cons_zero, Act.put, List.setIfInBounds_toArray, List.set_cons_zero, List.set_cons_succ]
          refine wpAnyZ_take [] 10 (.bool false) rfl (by kernel_rfl) (fun _ _ _ h => h) SS rfl (by intro wz hz; go_simp) ?_
          try simp only [List.getElem_toArray, List.getElem_cons_succ, List.getElem_cons_zero, Act.put, List.setIfInBounds_toArray, List.set_cons_zero, List.set_cons_succ]
          refine wpAnyZ_doneB (by kernel_rfl) ?_ _
          refine HK2.out _ _ ?_
          clear HK2
          refine wp_cond_false rfl ?_
          clear SS Gd h4
          generalize w4.drew = w5 at *
          obtain ⟨sm, hsm⟩ : ∃ sm, smT V.L V.L.length % 4294967296 = sm := ⟨_, rfl⟩
          have kC : Calls Try.prog 63 #[.pointer (some ⟨gv, 0, none⟩)] w5 (fun e w' => e = .returned (.agg #[.int .i64 3, .int .i64 V.id, .string ⟨#[]⟩, .int .i64 (V.L.length : Int), .int .i64 (sm : Int), .int .i64 0, .slice none 0 0, .slice none 0 0, .int .i64 0, .int .i64 0]) ∧ w5.grownBy w' none) := by have := rend_any w5 gv _ _ _ _ _ _ _ _ _ _ _ _ _ _ _ _ _ V.L hd.A.rd hd.bv; rw [hsm] at this; exact this
          have HSM : Hid _ := hsm
          clear hsm
          obtain ⟨i0, hi, hz0, hz1, hz2⟩ := info_parts Try.info_nt3
          have s0' : True := trivial
          go_wp2_with (first
            | (go_at_call 63; have _t := s0'; clear s0'; refine Calls.mono kC ?_; rintro e wc ⟨rfl, yc⟩; have bA := BxS.new wc 27 #[.int .i64 3, .int .i64 V.id, .string ⟨#[]⟩, .int .i64 (V.L.length : Int), .int .i64 (sm : Int), .int .i64 0, .slice none 0 0, .slice none 0 0, .int .i64 0, .int .i64 0]; have yA := World.grownBy_alloc wc (.cells #[.int .i64 3, .int .i64 V.id, .string ⟨#[]⟩, .int .i64 (V.L.length : Int), .int .i64 (sm : Int), .int .i64 0, .slice none 0 0, .slice none 0 0, .int .i64 0, .int .i64 0] 27) none; generalize hwA : wc.alloc (.cells #[.int .i64 3, .int .i64 V.id, .string ⟨#[]⟩, .int .i64 (V.L.length : Int), .int .i64 (sm : Int), .int .i64 0, .slice none 0 0, .slice none 0 0, .int .i64 0, .int .i64 0] 27) = wA at bA yA; have hA := hd.keepN (grown_trans yc yA); have s1' : True := trivial)
            | (at_builtin; have _t := s1'; clear s1'; refine wpList_apS wA rfl _ _ 54 27 i0 _ 10 120 Try.underlying54 hi hz0 hz1 hz2 rfl (by decide) rfl (.slice na nn nc) nn (flN xs) rfl hA.N.own ⟨wc.heap.size, 0, none⟩ 1 1 (xEnd V.id V.L.length sm).cells rfl rfl bA.newsA (by intro u hu; simp only [xEnd, Nx.cells, Nx.arr, List.mem_cons, List.not_mem_nil, or_false] at hu; rcases hu with rfl | rfl | rfl | rfl | rfl | rfl | rfl | rfl | rfl | rfl <;> rfl) (by decide) (by unfold maxLen; omega) (by omega) ?_; intro gx cx w6 hor u5 hO5))
          have h6 := hA.push (x := xEnd V.id V.L.length sm) rfl rfl rfl (Ans.nil _ _) (fun z e => by cases e) hor u5 hO5
          try simp only [Exit.then]
          refine HK1.out _ _ ?_
          clear HK1
          have HX : Hid (wtV V = ({ V with ti := 0, tr := r1 }, [ntEnd V])) := by show _ = _; unfold wtV; rw [HT1.out, if_neg HLT.out, if_neg (by have := HR1.out; omega), HR1.out]
          refine go_t43 P wB w6 g1 g2 gv _ { V with ti := 0, tr := r1 } a c q d _ _ _ _ (T ++ [ntEnd V]) h6 (map_one hT _ _ (by show Nt.mk _ _ _ _ _ _ _ _ _ _ = _; rw [← HSM.out]; rfl)) ?_
          intro e w' h9
          refine HPT.out e w' ?_
          rw [HX.out]
          exact h9
end
end Go.Proofs.Ytnimehkfnpepfaa
