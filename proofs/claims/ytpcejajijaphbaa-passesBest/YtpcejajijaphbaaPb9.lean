import Derived.Test.YtpcejajijaphbaaPb8
namespace Go.Proofs.Ytpcejajijaphbaa
open Go.RowKit
set_option maxRecDepth 100000
set_option linter.unusedVariables false
set_option linter.unusedSimpArgs false

section
theorem sum_app (F : Nat → Pa) : ∀ (X Y : List Nat), sumW F (X ++ Y) = sumW F X + sumW F Y := by
  intro X
  induction X with
  | nil => intro Y; show sumW F Y = 0 + sumW F Y; omega
  | cons a X ih => intro Y; show (F a).wo + sumW F (X ++ Y) = (F a).wo + sumW F X + sumW F Y; rw [ih]; omega
theorem sum_ins (F : Nat → Pa) (A : List Nat) (k i : Nat) : sumW F (A.take k ++ i :: A.drop k) = sumW F A + (F i).wo := by
  have h := sum_app F (A.take k) (A.drop k)
  rw [List.take_append_drop] at h
  rw [sum_app, h]
  show sumW F (A.take k) + ((F i).wo + sumW F (A.drop k)) = _
  omega
theorem ins_set (A : List Nat) (k x y : Nat) (hk : k ≤ A.length) : ((A.take k ++ x :: A.drop k).map fun (p : Nat) => Value.int .i64 (p : Int)).set k (.int .i64 (y : Int)) = (A.take k ++ y :: A.drop k).map fun (p : Nat) => Value.int .i64 (p : Int) := by
  have hl : ((A.take k).map fun (p : Nat) => Value.int .i64 (p : Int)).length = k := by rw [List.length_map, List.length_take]; omega
  rw [List.map_append, List.map_append, List.set_append_right _ _ (by omega), hl, Nat.sub_self]
  rfl
theorem ins_len (A : List Nat) (k x : Nat) (hk : k ≤ A.length) : (A.take k ++ x :: A.drop k).length = A.length + 1 := by
  rw [List.length_append, List.length_cons, List.length_take, List.length_drop]
  omega
theorem ins_prev (A : List Nat) (k x p : Nat) (h : A[k]? = some p) : (A.take (k + 1) ++ x :: A.drop (k + 1))[k]? = some p ∧ A.take (k + 1) ++ p :: A.drop (k + 1) = A.take k ++ p :: A.drop k := by
  have hk := (List.getElem?_eq_some_iff.1 h).1
  have e : A.take (k + 1) = A.take k ++ [p] := by rw [List.take_add_one, h]; rfl
  have e2 : A.drop k = p :: A.drop (k + 1) := by
    rw [List.drop_eq_getElem_cons hk, (List.getElem?_eq_some_iff.1 h).2]
  constructor
  · rw [List.getElem?_append_left (by rw [List.length_take]; omega), List.getElem?_take, if_pos (by omega)]
    exact h
  · rw [e, e2, List.append_assoc]
    rfl
set_option maxHeartbeats 32000000 in
theorem pb_t36 {u0 u1 u2 u3 u4 u5 u6 u8 u9 u10 u11 u12 u13 u14 u15 u16 u17 u18 u19 u20 u21 u23 u25 u26 u27 u28 u29 u30 u31 u32 u33 u34 u35 u36 u37 u38 u39 u40 u41 u42 u43 u44 u45 u46 u47 u48 u49 u50 u51 u52 u53 u54 u55 u56 u57 u58 u59 u60 u61 u62 u63 u64 u65 u66 u67 u68 u69 u70 u71 u72 u73 u74 u75 u76 u77 u78 u79 u80 u81 u82 u83 u84 u85 u86 u87 u88 u89 u90 u91 u92 u93 u94 u95 u96 u97 u98 u99 u100 u101 u102 u103 u104 u105 u106 u107 u108 u109 u110 u111 u112 u113 u114 u115 u116 u117 u118 u119 u120 u121 u122 u123 u124 u125 u126 u127 u128 u129 u130 u131 u132 u133 u134 u135 u136 u137 u138 u139 u140 u141 u142 u143 u144 u145 u146 u147 u148 u149 u150 u151 u152 u153 u154 u155 u156 u157 u158 u159 u160 u161 u162 u163 u164 u165 u166 u167 u168 u169 u170 u171 u172 u173 u174 u175 u176 u177 u178 u179 u180 u181 u182 u183 u184 u185 u186 u187 u188 u189 u190 u191 u192 u193 u194 u195 u196 u197 u198 u199 u200 u201 u202 u203 u204 u205 u206 u207 u208 u209 u210 u211 u212 u213 u214 u215 u216 u217 u218 u219 u220 u221 u222 u223 u224 u225 u226 u227 u228 u229 u230 u231 u232 u233 u234 u235 : Value} (Q : Exit → Act → World → Prop) (hPn : ∀ c (a1 a2 : Act) w, a1.defers = a2.defers → Q (.panic c) a1 w → Q (.panic c) a2 w) (wB w : World) (lb lf ln lc : Nat) (F : Nat → Pa) (hP : ∀ j, j < ln → wB.rangeAt lb (lf + j * 4) (F j).cells) (hlc : ln ≤ lc ∧ lc ≤ 9223372036854775807) (GB : wB.grownBy w none) (A : List Nat) (aa : Option Addr) (ac i : Nat) (hi : i < ln) (hA0 : AnsX 3 w wB.heap.size aa A.length ac ((A).map fun (p : Nat) => Value.int .i64 (p : Int))) (hAm : ∀ p, p ∈ A → p < ln) (hAl : A.length ≤ 100)
    (hQ : ∀ v25 v188 v189 v190 v191 v192 v193 v194 v195 v196 v197 v198 v199 v200 v201 v202 v203 v204 v205 v206 v207 v208 v209 v210 v211 v212 v213 v214 v215 v216 v217 v218 v219 v220 v221 v222 v223 v224 v225 v226 (A' : List Nat) (a' : Option Addr) (c' : Nat) (w' : World), AnsX 3 w' wB.heap.size a' A'.length c' ((A').map fun (p : Nat) => Value.int .i64 (p : Int)) → A'.length = A.length + 1 → sumW F A' = sumW F A + (F i).wo → (∀ p, p ∈ A' → p < ln) → wB.grownBy w' none → Q .normal (Act.mk (List.toArray (u0 :: u1 :: u2 :: u3 :: u4 :: u5 :: u6 :: (.slice (some ⟨lb, lf, none⟩) ln lc) :: u8 :: u9 :: u10 :: u11 :: u12 :: u13 :: u14 :: u15 :: u16 :: u17 :: u18 :: u19 :: u20 :: u21 :: (.slice a' A'.length c') :: u23 :: (.int .i64 (i : Int)) :: v25 :: u26 :: u27 :: u28 :: u29 :: u30 :: u31 :: u32 :: u33 :: u34 :: u35 :: u36 :: u37 :: u38 :: u39 :: u40 :: u41 :: u42 :: u43 :: u44 :: u45 :: u46 :: u47 :: u48 :: u49 :: u50 :: u51 :: u52 :: u53 :: u54 :: u55 :: u56 :: u57 :: u58 :: u59 :: u60 :: u61 :: u62 :: u63 :: u64 :: u65 :: u66 :: u67 :: u68 :: u69 :: u70 :: u71 :: u72 :: u73 :: u74 :: u75 :: u76 :: u77 :: u78 :: u79 :: u80 :: u81 :: u82 :: u83 :: u84 :: u85 :: u86 :: u87 :: u88 :: u89 :: u90 :: u91 :: u92 :: u93 :: u94 :: u95 :: u96 :: u97 :: u98 :: u99 :: u100 :: u101 :: u102 :: u103 :: u104 :: u105 :: u106 :: u107 :: u108 :: u109 :: u110 :: u111 :: u112 :: u113 :: u114 :: u115 :: u116 :: u117 :: u118 :: u119 :: u120 :: u121 :: u122 :: u123 :: u124 :: u125 :: u126 :: u127 :: u128 :: u129 :: u130 :: u131 :: u132 :: u133 :: u134 :: u135 :: u136 :: u137 :: u138 :: u139 :: u140 :: u141 :: u142 :: u143 :: u144 :: u145 :: u146 :: u147 :: u148 :: u149 :: u150 :: u151 :: u152 :: u153 :: u154 :: u155 :: u156 :: u157 :: u158 :: u159 :: u160 :: u161 :: u162 :: u163 :: u164 :: u165 :: u166 :: u167 :: u168 :: u169 :: u170 :: u171 :: u172 :: u173 :: u174 :: u175 :: u176 :: u177 :: u178 :: u179 :: u180 :: u181 :: u182 :: u183 :: u184 :: u185 :: u186 :: u187 :: v188 :: v189 :: v190 :: v191 :: v192 :: v193 :: v194 :: v195 :: v196 :: v197 :: v198 :: v199 :: v200 :: v201 :: v202 :: v203 :: v204 :: v205 :: v206 :: v207 :: v208 :: v209 :: v210 :: v211 :: v212 :: v213 :: v214 :: v215 :: v216 :: v217 :: v218 :: v219 :: v220 :: v221 :: v222 :: v223 :: v224 :: v225 :: v226 :: u227 :: u228 :: u229 :: u230 :: u231 :: u232 :: u233 :: u234 :: u235 :: [])) []) w') :
    Code.wp Try.prog (tailR 36 (Try.f4.body.getD .skip)) Q (Act.mk (List.toArray (u0 :: u1 :: u2 :: u3 :: u4 :: u5 :: u6 :: (.slice (some ⟨lb, lf, none⟩) ln lc) :: u8 :: u9 :: u10 :: u11 :: u12 :: u13 :: u14 :: u15 :: u16 :: u17 :: u18 :: u19 :: u20 :: u21 :: (.slice aa A.length ac) :: u23 :: (.int .i64 (i : Int)) :: u25 :: u26 :: u27 :: u28 :: u29 :: u30 :: u31 :: u32 :: u33 :: u34 :: u35 :: u36 :: u37 :: u38 :: u39 :: u40 :: u41 :: u42 :: u43 :: u44 :: u45 :: u46 :: u47 :: u48 :: u49 :: u50 :: u51 :: u52 :: u53 :: u54 :: u55 :: u56 :: u57 :: u58 :: u59 :: u60 :: u61 :: u62 :: u63 :: u64 :: u65 :: u66 :: u67 :: u68 :: u69 :: u70 :: u71 :: u72 :: u73 :: u74 :: u75 :: u76 :: u77 :: u78 :: u79 :: u80 :: u81 :: u82 :: u83 :: u84 :: u85 :: u86 :: u87 :: u88 :: u89 :: u90 :: u91 :: u92 :: u93 :: u94 :: u95 :: u96 :: u97 :: u98 :: u99 :: u100 :: u101 :: u102 :: u103 :: u104 :: u105 :: u106 :: u107 :: u108 :: u109 :: u110 :: u111 :: u112 :: u113 :: u114 :: u115 :: u116 :: u117 :: u118 :: u119 :: u120 :: u121 :: u122 :: u123 :: u124 :: u125 :: u126 :: u127 :: u128 :: u129 :: u130 :: u131 :: u132 :: u133 :: u134 :: u135 :: u136 :: u137 :: u138 :: u139 :: u140 :: u141 :: u142 :: u143 :: u144 :: u145 :: u146 :: u147 :: u148 :: u149 :: u150 :: u151 :: u152 :: u153 :: u154 :: u155 :: u156 :: u157 :: u158 :: u159 :: u160 :: u161 :: u162 :: u163 :: u164 :: u165 :: u166 :: u167 :: u168 :: u169 :: u170 :: u171 :: u172 :: u173 :: u174 :: u175 :: u176 :: u177 :: u178 :: u179 :: u180 :: u181 :: u182 :: u183 :: u184 :: u185 :: u186 :: u187 :: u188 :: u189 :: u190 :: u191 :: u192 :: u193 :: u194 :: u195 :: u196 :: u197 :: u198 :: u199 :: u200 :: u201 :: u202 :: u203 :: u204 :: u205 :: u206 :: u207 :: u208 :: u209 :: u210 :: u211 :: u212 :: u213 :: u214 :: u215 :: u216 :: u217 :: u218 :: u219 :: u220 :: u221 :: u222 :: u223 :: u224 :: u225 :: u226 :: u227 :: u228 :: u229 :: u230 :: u231 :: u232 :: u233 :: u234 :: u235 :: [])) []) w := by
  conv => enter [2]; whnf
  have HQ : Hid _ := hQ
  have HPR : Hid _ := hP
  clear hQ hP
  have lii : (i : Int) < (ln : Int) := by omega
  refine wp_seq_k fun K0 hK0 => ?_
  have HK0 : Hid _ := hK0
  clear hK0
  go_wp2
  refine HK0.out _ _ ?_
  clear HK0
  refine wp_seq_k fun K1 hK1 => ?_
  have HK1 : Hid _ := hK1
  clear hK1
  go_wp2_with (at_builtin; refine wpList_psX Try.elN w (.int .i64 (i : Int)) rfl rfl _ _ rfl aa A.length ac wB.heap.size _ rfl hA0 GB.size rfl (by omega) ?_; intro gx cx w1 hA1 u1 hx1)
  refine HK1.out _ _ ?_
  clear HK1
  have G1 : wB.grownBy w1 none := grown_far GB u1 (fun z e => hA0.new z e)
  have hA1 : AnsX 3 w1 wB.heap.size (some ⟨gx, 0, none⟩) (A.length + 1) cx ((A.take A.length ++ i :: A.drop A.length).map fun (p : Nat) => Value.int .i64 (p : Int)) := by
    rw [List.take_length, List.drop_length, List.map_append]
    exact hA1
  refine wp_seq_k fun K2 hK2 => ?_
  have HK2 : Hid _ := hK2
  clear hK2
  go_wp2
  go_loopw [25] (fun v25 wr => ∃ (k x : Nat), k ≤ A.length ∧ v25 = .int .i64 k ∧ AnsX 3 wr wB.heap.size (some ⟨gx, 0, none⟩) (A.length + 1) cx ((A.take k ++ x :: A.drop k).map fun (p : Nat) => Value.int .i64 (p : Int)) ∧ wB.grownBy wr none) (fun v25 _ => (intOf v25).toNat)
  case atStart => exact ⟨A.length, i, Nat.le_refl _, rfl, hA1, G1⟩
  case round =>
    obtain ⟨k, x, hk, rfl, hA, GR⟩ := hrel
    have hcap := hA.max
    unfold maxLen at hcap
    cases k with
    | zero =>
      refine wp_seq_k fun K3 hK3 => ?_
      have HK3 : Hid _ := hK3
      clear hK3
      refine wp_seq_k fun K4 hK4 => ?_
      have HK4 : Hid _ := hK4
      clear hK4
      have Gd := grown_drew wr none
      refine wp_regionM (fun _ => True) [] #[false, false, false, false, false, false, false, false, false, false, false, false, false, false, false, false, false, false, false] rfl (by kernel_rfl) ?_
      have hAd := hA.keep Gd
      have GRd := grown_trans GR Gd
      generalize wr.drew = wd at *
      refine wpAnyY_takeF 0 (.int .i64 0) rfl (by kernel_rfl) (fun _ _ _ h => hPn _ _ _ _ (by rfl) h) rfl (by intro wz; go_simp; try rfl) ?_
      try simp only [List.getElem_toArray, List.getElem_cons_succ, List.getElem_cons_zero, Act.put, List.setIfInBounds_toArray, List.set_cons_zero, List.set_cons_succ]
      refine wpAnyY_takeF 1 (.bool false) rfl (by kernel_rfl) (fun _ _ _ h => hPn _ _ _ _ (by rfl) h) rfl (by intro wz; go_simp; try rfl) ?_
      try simp only [List.getElem_toArray, List.getElem_cons_succ, List.getElem_cons_zero, Act.put, List.setIfInBounds_toArray, List.set_cons_zero, List.set_cons_succ]
      refine wpAnyY_takeF 2 (.bool false) rfl (by kernel_rfl) (fun _ _ _ h => hPn _ _ _ _ (by rfl) h) rfl (by intro wz; go_simp; try rfl) ?_
      try simp only [List.getElem_toArray, List.getElem_cons_succ, List.getElem_cons_zero, Act.put, List.setIfInBounds_toArray, List.set_cons_zero, List.set_cons_succ]
      refine wpAnyY_skipR 3 rfl (by kernel_rfl) (fun _ _ _ h => hPn _ _ _ _ (by rfl) h) rfl ?_
      try simp only [List.getElem_toArray, List.getElem_cons_succ, List.getElem_cons_zero, Act.put, List.setIfInBounds_toArray, List.set_cons_zero, List.set_cons_succ]
      refine wpAnyY_skipR 4 rfl (by kernel_rfl) (fun _ _ _ h => hPn _ _ _ _ (by rfl) h) rfl ?_
      try simp only [List.getElem_toArray, List.getElem_cons_succ, List.getElem_cons_zero, Act.put, List.setIfInBounds_toArray, List.set_cons_zero, List.set_cons_succ]
      refine wpAnyY_skipR 5 rfl (by kernel_rfl) (fun _ _ _ h => hPn _ _ _ _ (by rfl) h) rfl ?_
      try simp only [List.getElem_toArray, List.getElem_cons_succ, List.getElem_cons_zero, Act.put, List.setIfInBounds_toArray, List.set_cons_zero, List.set_cons_succ]
      refine wpAnyY_skipR 6 rfl (by kernel_rfl) (fun _ _ _ h => hPn _ _ _ _ (by rfl) h) rfl ?_
      try simp only [List.getElem_toArray, List.getElem_cons_succ, List.getElem_cons_zero, Act.put, List.setIfInBounds_toArray, List.set_cons_zero, List.set_cons_succ]
      refine wpAnyY_skipR 7 rfl (by kernel_rfl) (fun _ _ _ h => hPn _ _ _ _ (by rfl) h) rfl ?_
      try simp only [List.getElem_toArray, List.getElem_cons_succ, List.getElem_cons_zero, Act.put, List.setIfInBounds_toArray, List.set_cons_zero, List.set_cons_succ]
      refine wpAnyY_skipR 8 rfl (by kernel_rfl) (fun _ _ _ h => hPn _ _ _ _ (by rfl) h) rfl ?_
      try simp only [List.getElem_toArray, List.getElem_cons_succ, List.getElem_cons_zero, Act.put, List.setIfInBounds_toArray, List.set_cons_zero, List.set_cons_succ]
      refine wpAnyY_skipR 9 rfl (by kernel_rfl) (fun _ _ _ h => hPn _ _ _ _ (by rfl) h) rfl ?_
      try simp only [List.getElem_toArray, List.getElem_cons_succ, List.getElem_cons_zero, Act.put, List.setIfInBounds_toArray, List.set_cons_zero, List.set_cons_succ]
      refine wpAnyY_skipR 10 rfl (by kernel_rfl) (fun _ _ _ h => hPn _ _ _ _ (by rfl) h) rfl ?_
      try simp only [List.getElem_toArray, List.getElem_cons_succ, List.getElem_cons_zero, Act.put, List.setIfInBounds_toArray, List.set_cons_zero, List.set_cons_succ]
      refine wpAnyY_skipR 11 rfl (by kernel_rfl) (fun _ _ _ h => hPn _ _ _ _ (by rfl) h) rfl ?_
      try simp only [List.getElem_toArray, List.getElem_cons_succ, List.getElem_cons_zero, Act.put, List.setIfInBounds_toArray, List.set_cons_zero, List.set_cons_succ]
      refine wpAnyY_skipR 12 rfl (by kernel_rfl) (fun _ _ _ h => hPn _ _ _ _ (by rfl) h) rfl ?_
      try simp only [List.getElem_toArray, List.getElem_cons_succ, List.getElem_cons_zero, Act.put, List.setIfInBounds_toArray, List.set_cons_zero, List.set_cons_succ]
      refine wpAnyY_skipR 13 rfl (by kernel_rfl) (fun _ _ _ h => hPn _ _ _ _ (by rfl) h) rfl ?_
      try simp only [List.getElem_toArray, List.getElem_cons_succ, List.getElem_cons_zero, Act.put, List.setIfInBounds_toArray, List.set_cons_zero, List.set_cons_succ]
      refine wpAnyY_skipR 14 rfl (by kernel_rfl) (fun _ _ _ h => hPn _ _ _ _ (by rfl) h) rfl ?_
      try simp only [List.getElem_toArray, List.getElem_cons_succ, List.getElem_cons_zero, Act.put, List.setIfInBounds_toArray, List.set_cons_zero, List.set_cons_succ]
      refine wpAnyY_skipR 15 rfl (by kernel_rfl) (fun _ _ _ h => hPn _ _ _ _ (by rfl) h) rfl ?_
      try simp only [List.getElem_toArray, List.getElem_cons_succ, List.getElem_cons_zero, Act.put, List.setIfInBounds_toArray, List.set_cons_zero, List.set_cons_succ]
      refine wpAnyY_skipR 16 rfl (by kernel_rfl) (fun _ _ _ h => hPn _ _ _ _ (by rfl) h) rfl ?_
      try simp only [List.getElem_toArray, List.getElem_cons_succ, List.getElem_cons_zero, Act.put, List.setIfInBounds_toArray, List.set_cons_zero, List.set_cons_succ]
      refine wpAnyY_skipR 17 rfl (by kernel_rfl) (fun _ _ _ h => hPn _ _ _ _ (by rfl) h) rfl ?_
      try simp only [List.getElem_toArray, List.getElem_cons_succ, List.getElem_cons_zero, Act.put, List.setIfInBounds_toArray, List.set_cons_zero, List.set_cons_succ]
      refine wpAnyY_takeF 18 (.bool false) rfl (by kernel_rfl) (fun _ _ _ h => hPn _ _ _ _ (by rfl) h) rfl (by intro wz; go_simp; try rfl) ?_
      try simp only [List.getElem_toArray, List.getElem_cons_succ, List.getElem_cons_zero, Act.put, List.setIfInBounds_toArray, List.set_cons_zero, List.set_cons_succ]
      refine wpAnyY_doneB (by kernel_rfl) ?_ _
      refine HK4.out _ _ ?_
      clear HK4
      go_wp2
      have hBl := ins_len A 0 x (by omega)
      have ck : ∃ u, wd.cell? ⟨gx, 0, none⟩ = some u := by
        obtain ⟨u, hu⟩ : ∃ u, ((A.take 0 ++ x :: A.drop 0).map fun (p : Nat) => Value.int .i64 (p : Int))[0]? = some u := ⟨_, List.getElem?_eq_getElem (by rw [List.length_map, hBl]; omega)⟩
        exact ⟨u, hAd.cell 0 u hu⟩
      obtain ⟨uk, ck⟩ := ck
      have fk := hAd.free 0
      have hAs := hAd.set 0 (.int .i64 (i : Int)) rfl
      rw [ins_set A 0 x i (by omega)] at hAs
      have gs := grown_set wd gx 0 (.int .i64 (i : Int))
      have hgx := hAd.new gx rfl
      have hAl2 : (0 : Int) < (A.length : Int) + 1 := by omega
      clear hBl
      refine HK2.out _ _ ?_
      clear HK2
      go_wp2
      have hil := ins_len A 0 i (by omega)
      rw [← hil] at hAs ⊢
      (try simp only [Exit.inBlock, Exit.then])
      exact HQ.out _ _ _ _ _ _ _ _ _ _ _ _ _ _ _ _ _ _ _ _ _ _ _ _ _ _ _ _ _ _ _ _ _ _ _ _ _ _ _ _ (A.take 0 ++ i :: A.drop 0) _ _ _ hAs hil (sum_ins F A 0 i) (fun p hp => by
        rcases List.mem_append.1 hp with h | h
        · exact hAm p (List.mem_of_mem_take h)
        · rcases List.mem_cons.1 h with h | h
          · rw [h]; exact hi
          · exact hAm p (List.mem_of_mem_drop h)) (grown_far GRd gs (fun z e => by cases e; exact hgx))
    | succ k0 =>
      obtain ⟨p, hp⟩ : ∃ p, A[k0]? = some p := ⟨A[k0]'(by omega), List.getElem?_eq_getElem _⟩
      obtain ⟨q1, q2⟩ := ins_prev A k0 x p hp
      have hpl := hAm p (List.mem_of_getElem? hp)
      have cp := hA.cell k0 (.int .i64 (p : Int)) (by rw [List.getElem?_map, q1]; rfl)
      have rp := range_kp (HPR.out p hpl) GR
      have ri := range_kp (HPR.out i hi) GR
      have lpi : (p : Int) < (ln : Int) := by omega
      have lki : (k0 : Int) < (A.length : Int) + 1 := by omega
      have lki1 : (k0 : Int) + 1 < (A.length : Int) + 1 := by omega
      have lkn : ¬ (k0 : Int) + 1 < 0 := by omega
      have lkz : (0 : Int) < (k0 : Int) + 1 := by omega
      have HQ2 : Hid _ := q2
      clear q1 q2 hp
      by_cases hfr : (F i).fr < (F p).fr
      ·
        refine wp_seq_k fun K3 hK3 => ?_
        have HK3 : Hid _ := hK3
        clear hK3
        refine wp_seq_k fun K4 hK4 => ?_
        have HK4 : Hid _ := hK4
        clear hK4
        have Gd := grown_drew wr none
        have SS : wr.drew.cell? ⟨gx, k0, none⟩ = some (.int .i64 (p : Int)) ∧ wr.drew.rangeAt lb (lf + p * 4) (F p).cells ∧ wr.drew.rangeAt lb (lf + i * 4) (F i).cells := ⟨cell_grR cp Gd, range_kp rp Gd, range_kp ri Gd⟩
        refine wp_regionM (fun wz => wz.cell? ⟨gx, k0, none⟩ = some (.int .i64 (p : Int)) ∧ wz.rangeAt lb (lf + p * 4) (F p).cells ∧ wz.rangeAt lb (lf + i * 4) (F i).cells) [] #[false, false, false, false, false, false, false, false, false, false, false, false, false, false, false, false, false, false, false] rfl (by kernel_rfl) ?_
        have hAd := hA.keep Gd
        have GRd := grown_trans GR Gd
        generalize wr.drew = wd at *
        refine wpAnyY_takeF 0 (.int .i64 ((k0 : Int) + 1)) rfl (by kernel_rfl) (fun _ _ _ h => hPn _ _ _ _ (by rfl) h) rfl (by intro wz; go_simp; try rfl) ?_
        try simp only [List.getElem_toArray, List.getElem_cons_succ, List.getElem_cons_zero, Act.put, List.setIfInBounds_toArray, List.set_cons_zero, List.set_cons_succ]
        refine wpAnyY_takeF 1 (.bool true) rfl (by kernel_rfl) (fun _ _ _ h => hPn _ _ _ _ (by rfl) h) rfl (by intro wz; go_simp; try rfl) ?_
        try simp only [List.getElem_toArray, List.getElem_cons_succ, List.getElem_cons_zero, Act.put, List.setIfInBounds_toArray, List.set_cons_zero, List.set_cons_succ]
        refine wpAnyY_takeF 2 (.bool true) rfl (by kernel_rfl) (fun _ _ _ h => hPn _ _ _ _ (by rfl) h) rfl (by intro wz; go_simp; try rfl) ?_
        try simp only [List.getElem_toArray, List.getElem_cons_succ, List.getElem_cons_zero, Act.put, List.setIfInBounds_toArray, List.set_cons_zero, List.set_cons_succ]
        refine wpAnyY_takeF 3 (.slice (some ⟨lb, lf, none⟩) ln lc) rfl (by kernel_rfl) (fun _ _ _ h => hPn _ _ _ _ (by rfl) h) rfl (by intro wz; go_simp; try rfl) ?_
        try simp only [List.getElem_toArray, List.getElem_cons_succ, List.getElem_cons_zero, Act.put, List.setIfInBounds_toArray, List.set_cons_zero, List.set_cons_succ]
        refine wpAnyY_takeF 4 (.slice (some ⟨gx, 0, none⟩) (A.length + 1) cx) rfl (by kernel_rfl) (fun _ _ _ h => hPn _ _ _ _ (by rfl) h) rfl (by intro wz; go_simp; try rfl) ?_
        try simp only [List.getElem_toArray, List.getElem_cons_succ, List.getElem_cons_zero, Act.put, List.setIfInBounds_toArray, List.set_cons_zero, List.set_cons_succ]
        refine wpAnyY_takeF 5 (.int .i64 ((k0 : Int) + 1)) rfl (by kernel_rfl) (fun _ _ _ h => hPn _ _ _ _ (by rfl) h) rfl (by intro wz; go_simp; try rfl) ?_
        try simp only [List.getElem_toArray, List.getElem_cons_succ, List.getElem_cons_zero, Act.put, List.setIfInBounds_toArray, List.set_cons_zero, List.set_cons_succ]
        refine wpAnyY_takeF 6 (.int .i64 (k0 : Int)) rfl (by kernel_rfl) (fun _ _ _ h => hPn _ _ _ _ (by rfl) h) rfl (by intro wz; go_simp; rw [IntKind.wrap_i64]; omega) ?_
        try simp only [List.getElem_toArray, List.getElem_cons_succ, List.getElem_cons_zero, Act.put, List.setIfInBounds_toArray, List.set_cons_zero, List.set_cons_succ]
        refine wpAnyY_takeF 7 (.pointer (some ⟨gx, k0, none⟩)) rfl (by kernel_rfl) (fun _ _ _ h => hPn _ _ _ _ (by rfl) h) rfl (by intro wz; go_simp; try rfl) ?_
        try simp only [List.getElem_toArray, List.getElem_cons_succ, List.getElem_cons_zero, Act.put, List.setIfInBounds_toArray, List.set_cons_zero, List.set_cons_succ]
        refine wpAnyY_take [] 8 (.int .i64 (p : Int)) rfl (by kernel_rfl) (fun _ _ _ h => hPn _ _ _ _ (by rfl) h) SS rfl (by rintro wz ⟨z1, z2, z3⟩; go_simp) ?_
        try simp only [List.getElem_toArray, List.getElem_cons_succ, List.getElem_cons_zero, Act.put, List.setIfInBounds_toArray, List.set_cons_zero, List.set_cons_succ]
        refine wpAnyY_takeF 9 (.pointer (some ⟨lb, lf + p * 4, none⟩)) rfl (by kernel_rfl) (fun _ _ _ h => hPn _ _ _ _ (by rfl) h) rfl (by intro wz; go_simp; try rfl) ?_
        try simp only [List.getElem_toArray, List.getElem_cons_succ, List.getElem_cons_zero, Act.put, List.setIfInBounds_toArray, List.set_cons_zero, List.set_cons_succ]
        refine wpAnyY_takeF 10 (.pointer (some ⟨lb, lf + p * 4 + 1, none⟩)) rfl (by kernel_rfl) (fun _ _ _ h => hPn _ _ _ _ (by rfl) h) rfl (by intro wz; go_simp; try rfl) ?_
        try simp only [List.getElem_toArray, List.getElem_cons_succ, List.getElem_cons_zero, Act.put, List.setIfInBounds_toArray, List.set_cons_zero, List.set_cons_succ]
        refine wpAnyY_take [] 11 (.int .i64 (F p).fr) rfl (by kernel_rfl) (fun _ _ _ h => hPn _ _ _ _ (by rfl) h) SS rfl (by rintro wz ⟨z1, z2, z3⟩; have z : wz.cell? ⟨lb, lf + p * 4 + 1, none⟩ = some (.int .i64 (F p).fr) := z2 1 _ rfl; go_simp) ?_
        try simp only [List.getElem_toArray, List.getElem_cons_succ, List.getElem_cons_zero, Act.put, List.setIfInBounds_toArray, List.set_cons_zero, List.set_cons_succ]
        refine wpAnyY_takeF 12 (.slice (some ⟨lb, lf, none⟩) ln lc) rfl (by kernel_rfl) (fun _ _ _ h => hPn _ _ _ _ (by rfl) h) rfl (by intro wz; go_simp; try rfl) ?_
        try simp only [List.getElem_toArray, List.getElem_cons_succ, List.getElem_cons_zero, Act.put, List.setIfInBounds_toArray, List.set_cons_zero, List.set_cons_succ]
        refine wpAnyY_takeF 13 (.int .i64 (i : Int)) rfl (by kernel_rfl) (fun _ _ _ h => hPn _ _ _ _ (by rfl) h) rfl (by intro wz; go_simp; try rfl) ?_
        try simp only [List.getElem_toArray, List.getElem_cons_succ, List.getElem_cons_zero, Act.put, List.setIfInBounds_toArray, List.set_cons_zero, List.set_cons_succ]
        refine wpAnyY_takeF 14 (.pointer (some ⟨lb, lf + i * 4, none⟩)) rfl (by kernel_rfl) (fun _ _ _ h => hPn _ _ _ _ (by rfl) h) rfl (by intro wz; go_simp; try rfl) ?_
        try simp only [List.getElem_toArray, List.getElem_cons_succ, List.getElem_cons_zero, Act.put, List.setIfInBounds_toArray, List.set_cons_zero, List.set_cons_succ]
        refine wpAnyY_takeF 15 (.pointer (some ⟨lb, lf + i * 4 + 1, none⟩)) rfl (by kernel_rfl) (fun _ _ _ h => hPn _ _ _ _ (by rfl) h) rfl (by intro wz; go_simp; try rfl) ?_
        try simp only [List.getElem_toArray, List.getElem_cons_succ, List.getElem_cons_zero, Act.put, List.setIfInBounds_toArray, List.set_cons_zero, List.set_cons_succ]
        refine wpAnyY_take [] 16 (.int .i64 (F i).fr) rfl (by kernel_rfl) (fun _ _ _ h => hPn _ _ _ _ (by rfl) h) SS rfl (by rintro wz ⟨z1, z2, z3⟩; have z : wz.cell? ⟨lb, lf + i * 4 + 1, none⟩ = some (.int .i64 (F i).fr) := z3 1 _ rfl; go_simp) ?_
        try simp only [List.getElem_toArray, List.getElem_cons_succ, List.getElem_cons_zero, Act.put, List.setIfInBounds_toArray, List.set_cons_zero, List.set_cons_succ]
        refine wpAnyY_takeF 17 (.bool true) rfl (by kernel_rfl) (fun _ _ _ h => hPn _ _ _ _ (by rfl) h) rfl (by intro wz; go_simp; try rfl) ?_
        try simp only [List.getElem_toArray, List.getElem_cons_succ, List.getElem_cons_zero, Act.put, List.setIfInBounds_toArray, List.set_cons_zero, List.set_cons_succ]
        refine wpAnyY_takeF 18 (.bool true) rfl (by kernel_rfl) (fun _ _ _ h => hPn _ _ _ _ (by rfl) h) rfl (by intro wz; go_simp; try rfl) ?_
        try simp only [List.getElem_toArray, List.getElem_cons_succ, List.getElem_cons_zero, Act.put, List.setIfInBounds_toArray, List.set_cons_zero, List.set_cons_succ]
        refine wpAnyY_doneB (by kernel_rfl) ?_ _
        refine HK4.out _ _ ?_
        clear HK4
        go_wp2
        refine HK3.out _ _ ?_
        clear HK3
        have hBl := ins_len A (k0 + 1) x (by omega)
        have ck : ∃ u, wd.cell? ⟨gx, k0 + 1, none⟩ = some u := by
          obtain ⟨u, hu⟩ : ∃ u, ((A.take (k0 + 1) ++ x :: A.drop (k0 + 1)).map fun (p : Nat) => Value.int .i64 (p : Int))[k0 + 1]? = some u := ⟨_, List.getElem?_eq_getElem (by rw [List.length_map, hBl]; omega)⟩
          exact ⟨u, hAd.cell (k0 + 1) u hu⟩
        obtain ⟨uk, ck⟩ := ck
        have cpd := SS.1
        have fk := hAd.free (k0 + 1)
        have hAs := hAd.set (k0 + 1) (.int .i64 (p : Int)) rfl
        rw [ins_set A (k0 + 1) x p (by omega), HQ2.out] at hAs
        have gs := grown_set wd gx (k0 + 1) (.int .i64 (p : Int))
        have hgx := hAd.new gx rfl
        clear hBl SS
        go_wp2
        go_roundw
        case rel => exact ⟨k0, p, by omega, rfl, hAs, grown_far GRd gs (fun z e => by cases e; exact hgx)⟩
        case measure => simp [intOf] <;> omega
      ·
        refine wp_seq_k fun K3 hK3 => ?_
        have HK3 : Hid _ := hK3
        clear hK3
        refine wp_seq_k fun K4 hK4 => ?_
        have HK4 : Hid _ := hK4
        clear hK4
        have Gd := grown_drew wr none
        have SS : wr.drew.cell? ⟨gx, k0, none⟩ = some (.int .i64 (p : Int)) ∧ wr.drew.rangeAt lb (lf + p * 4) (F p).cells ∧ wr.drew.rangeAt lb (lf + i * 4) (F i).cells := ⟨cell_grR cp Gd, range_kp rp Gd, range_kp ri Gd⟩
        refine wp_regionM (fun wz => wz.cell? ⟨gx, k0, none⟩ = some (.int .i64 (p : Int)) ∧ wz.rangeAt lb (lf + p * 4) (F p).cells ∧ wz.rangeAt lb (lf + i * 4) (F i).cells) [] #[false, false, false, false, false, false, false, false, false, false, false, false, false, false, false, false, false, false, false] rfl (by kernel_rfl) ?_
        have hAd := hA.keep Gd
        have GRd := grown_trans GR Gd
        generalize wr.drew = wd at *
        refine wpAnyY_takeF 0 (.int .i64 ((k0 : Int) + 1)) rfl (by kernel_rfl) (fun _ _ _ h => hPn _ _ _ _ (by rfl) h) rfl (by intro wz; go_simp; try rfl) ?_
        try simp only [List.getElem_toArray, List.getElem_cons_succ, List.getElem_cons_zero, Act.put, List.setIfInBounds_toArray, List.set_cons_zero, List.set_cons_succ]
        refine wpAnyY_takeF 1 (.bool true) rfl (by kernel_rfl) (fun _ _ _ h => hPn _ _ _ _ (by rfl) h) rfl (by intro wz; go_simp; try rfl) ?_
        try simp only [List.getElem_toArray, List.getElem_cons_succ, List.getElem_cons_zero, Act.put, List.setIfInBounds_toArray, List.set_cons_zero, List.set_cons_succ]
        refine wpAnyY_takeF 2 (.bool true) rfl (by kernel_rfl) (fun _ _ _ h => hPn _ _ _ _ (by rfl) h) rfl (by intro wz; go_simp; try rfl) ?_
        try simp only [List.getElem_toArray, List.getElem_cons_succ, List.getElem_cons_zero, Act.put, List.setIfInBounds_toArray, List.set_cons_zero, List.set_cons_succ]
        refine wpAnyY_takeF 3 (.slice (some ⟨lb, lf, none⟩) ln lc) rfl (by kernel_rfl) (fun _ _ _ h => hPn _ _ _ _ (by rfl) h) rfl (by intro wz; go_simp; try rfl) ?_
        try simp only [List.getElem_toArray, List.getElem_cons_succ, List.getElem_cons_zero, Act.put, List.setIfInBounds_toArray, List.set_cons_zero, List.set_cons_succ]
        refine wpAnyY_takeF 4 (.slice (some ⟨gx, 0, none⟩) (A.length + 1) cx) rfl (by kernel_rfl) (fun _ _ _ h => hPn _ _ _ _ (by rfl) h) rfl (by intro wz; go_simp; try rfl) ?_
        try simp only [List.getElem_toArray, List.getElem_cons_succ, List.getElem_cons_zero, Act.put, List.setIfInBounds_toArray, List.set_cons_zero, List.set_cons_succ]
        refine wpAnyY_takeF 5 (.int .i64 ((k0 : Int) + 1)) rfl (by kernel_rfl) (fun _ _ _ h => hPn _ _ _ _ (by rfl) h) rfl (by intro wz; go_simp; try rfl) ?_
        try simp only [List.getElem_toArray, List.getElem_cons_succ, List.getElem_cons_zero, Act.put, List.setIfInBounds_toArray, List.set_cons_zero, List.set_cons_succ]
        refine wpAnyY_takeF 6 (.int .i64 (k0 : Int)) rfl (by kernel_rfl) (fun _ _ _ h => hPn _ _ _ _ (by rfl) h) rfl (by intro wz; go_simp; rw [IntKind.wrap_i64]; omega) ?_
        try simp only [List.getElem_toArray, List.getElem_cons_succ, List.getElem_cons_zero, Act.put, List.setIfInBounds_toArray, List.set_cons_zero, List.set_cons_succ]
        refine wpAnyY_takeF 7 (.pointer (some ⟨gx, k0, none⟩)) rfl (by kernel_rfl) (fun _ _ _ h => hPn _ _ _ _ (by rfl) h) rfl (by intro wz; go_simp; try rfl) ?_
        try simp only [List.getElem_toArray, List.getElem_cons_succ, List.getElem_cons_zero, Act.put, List.setIfInBounds_toArray, List.set_cons_zero, List.set_cons_succ]
        refine wpAnyY_take [] 8 (.int .i64 (p : Int)) rfl (by kernel_rfl) (fun _ _ _ h => hPn _ _ _ _ (by rfl) h) SS rfl (by rintro wz ⟨z1, z2, z3⟩; go_simp) ?_
        try simp only [List.getElem_toArray, List.getElem_cons_succ, List.getElem_cons_zero, Act.put, List.setIfInBounds_toArray, List.set_cons_zero, List.set_cons_succ]
        refine wpAnyY_takeF 9 (.pointer (some ⟨lb, lf + p * 4, none⟩)) rfl (by kernel_rfl) (fun _ _ _ h => hPn _ _ _ _ (by rfl) h) rfl (by intro wz; go_simp; try rfl) ?_
        try simp only [List.getElem_toArray, List.getElem_cons_succ, List.getElem_cons_zero, Act.put, List.setIfInBounds_toArray, List.set_cons_zero, List.set_cons_succ]
        refine wpAnyY_takeF 10 (.pointer (some ⟨lb, lf + p * 4 + 1, none⟩)) rfl (by kernel_rfl) (fun _ _ _ h => hPn _ _ _ _ (by rfl) h) rfl (by intro wz; go_simp; try rfl) ?_
        try simp only [List.getElem_toArray, List.getElem_cons_succ, List.getElem_cons_zero, Act.put, List.setIfInBounds_toArray, List.set_cons_zero, List.set_cons_succ]
        refine wpAnyY_take [] 11 (.int .i64 (F p).fr) rfl (by kernel_rfl) (fun _ _ _ h => hPn _ _ _ _ (by rfl) h) SS rfl (by rintro wz ⟨z1, z2, z3⟩; have z : wz.cell? ⟨lb, lf + p * 4 + 1, none⟩ = some (.int .i64 (F p).fr) := z2 1 _ rfl; go_simp) ?_
        try simp only [List.getElem_toArray, List.getElem_cons_succ, List.getElem_cons_zero, Act.put, List.setIfInBounds_toArray, List.set_cons_zero, List.set_cons_succ]
        refine wpAnyY_takeF 12 (.slice (some ⟨lb, lf, none⟩) ln lc) rfl (by kernel_rfl) (fun _ _ _ h => hPn _ _ _ _ (by rfl) h) rfl (by intro wz; go_simp; try rfl) ?_
        try simp only [List.getElem_toArray, List.getElem_cons_succ, List.getElem_cons_zero, Act.put, List.setIfInBounds_toArray, List.set_cons_zero, List.set_cons_succ]
        refine wpAnyY_takeF 13 (.int .i64 (i : Int)) rfl (by kernel_rfl) (fun _ _ _ h => hPn _ _ _ _ (by rfl) h) rfl (by intro wz; go_simp; try rfl) ?_
        try simp only [List.getElem_toArray, List.getElem_cons_succ, List.getElem_cons_zero, Act.put, List.setIfInBounds_toArray, List.set_cons_zero, List.set_cons_succ]
        refine wpAnyY_takeF 14 (.pointer (some ⟨lb, lf + i * 4, none⟩)) rfl (by kernel_rfl) (fun _ _ _ h => hPn _ _ _ _ (by rfl) h) rfl (by intro wz; go_simp; try rfl) ?_
        try simp only [List.getElem_toArray, List.getElem_cons_succ, List.getElem_cons_zero, Act.put, List.setIfInBounds_toArray, List.set_cons_zero, List.set_cons_succ]
        refine wpAnyY_takeF 15 (.pointer (some ⟨lb, lf + i * 4 + 1, none⟩)) rfl (by kernel_rfl) (fun _ _ _ h => hPn _ _ _ _ (by rfl) h) rfl (by intro wz; go_simp; try rfl) ?_
        try simp only [List.getElem_toArray, List.getElem_cons_succ, List.getElem_cons_zero, Act.put, List.setIfInBounds_toArray, List.set_cons_zero, List.set_cons_succ]
        refine wpAnyY_take [] 16 (.int .i64 (F i).fr) rfl (by kernel_rfl) (fun _ _ _ h => hPn _ _ _ _ (by rfl) h) SS rfl (by rintro wz ⟨z1, z2, z3⟩; have z : wz.cell? ⟨lb, lf + i * 4 + 1, none⟩ = some (.int .i64 (F i).fr) := z3 1 _ rfl; go_simp) ?_
        try simp only [List.getElem_toArray, List.getElem_cons_succ, List.getElem_cons_zero, Act.put, List.setIfInBounds_toArray, List.set_cons_zero, List.set_cons_succ]
        refine wpAnyY_takeF 17 (.bool false) rfl (by kernel_rfl) (fun _ _ _ h => hPn _ _ _ _ (by rfl) h) rfl (by intro wz; go_simp; try rfl) ?_
        try simp only [List.getElem_toArray, List.getElem_cons_succ, List.getElem_cons_zero, Act.put, List.setIfInBounds_toArray, List.set_cons_zero, List.set_cons_succ]
        refine wpAnyY_takeF 18 (.bool false) rfl (by kernel_rfl) (fun _ _ _ h => hPn _ _ _ _ (by rfl) h) rfl (by intro wz; go_simp; try rfl) ?_
        try simp only [List.getElem_toArray, List.getElem_cons_succ, List.getElem_cons_zero, Act.put, List.setIfInBounds_toArray, List.set_cons_zero, List.set_cons_succ]
        refine wpAnyY_doneB (by kernel_rfl) ?_ _
        refine HK4.out _ _ ?_
        clear HK4
        go_wp2
        have hBl := ins_len A (k0 + 1) x (by omega)
        have ck : ∃ u, wd.cell? ⟨gx, (k0 + 1), none⟩ = some u := by
          obtain ⟨u, hu⟩ : ∃ u, ((A.take (k0 + 1) ++ x :: A.drop (k0 + 1)).map fun (p : Nat) => Value.int .i64 (p : Int))[(k0 + 1)]? = some u := ⟨_, List.getElem?_eq_getElem (by rw [List.length_map, hBl]; omega)⟩
          exact ⟨u, hAd.cell (k0 + 1) u hu⟩
        obtain ⟨uk, ck⟩ := ck
        have fk := hAd.free (k0 + 1)
        have hAs := hAd.set (k0 + 1) (.int .i64 (i : Int)) rfl
        rw [ins_set A (k0 + 1) x i (by omega)] at hAs
        have gs := grown_set wd gx (k0 + 1) (.int .i64 (i : Int))
        have hgx := hAd.new gx rfl
        have hAl2 : ((k0 + 1) : Int) < (A.length : Int) + 1 := by omega
        clear hBl
        refine HK2.out _ _ ?_
        clear HK2
        go_wp2
        have hil := ins_len A (k0 + 1) i (by omega)
        rw [← hil] at hAs ⊢
        (try simp only [Exit.inBlock, Exit.then])
        exact HQ.out _ _ _ _ _ _ _ _ _ _ _ _ _ _ _ _ _ _ _ _ _ _ _ _ _ _ _ _ _ _ _ _ _ _ _ _ _ _ _ _ (A.take (k0 + 1) ++ i :: A.drop (k0 + 1)) _ _ _ hAs hil (sum_ins F A (k0 + 1) i) (fun p hp => by
          rcases List.mem_append.1 hp with h | h
          · exact hAm p (List.mem_of_mem_take h)
          · rcases List.mem_cons.1 h with h | h
            · rw [h]; exact hi
            · exact hAm p (List.mem_of_mem_drop h)) (grown_far GRd gs (fun z e => by cases e; exact hgx))
end
end Go.Proofs.Ytpcejajijaphbaa
