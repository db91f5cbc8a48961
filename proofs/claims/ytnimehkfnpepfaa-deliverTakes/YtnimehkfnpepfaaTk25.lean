import Derived.Test.YtnimehkfnpepfaaTk24
import Derived.Test.YtnimehkfnpepfaaTk19
import Derived.Test.YtnimehkfnpepfaaTk4
import Derived.Test.YtnimehkfnpepfaaTk7
import Derived.Test.YtnimehkfnpepfaaTk9
import Derived.Test.YtnimehkfnpepfaaTk6
namespace Go.Proofs.Ytnimehkfnpepfaa
open Go.RowKit
set_option maxRecDepth 100000
set_option linter.unusedVariables false
set_option linter.unusedSimpArgs false

section
/-- append one note -/
theorem wpList_psNx {w : World} {ops : Array Oper} {rest : List Oper} {o : Oper} {a : Act} {Q : Exit → Act → World → Prop} (hg : o.guard = none) (s x : Operand)
    (hop : o.op = Op.call { callee := .builtin .append, args := #[s, x], argTypes := #[54, 54] }) (na : Option Addr) (nn nc lo : Nat) (xs : List Nx) (hs : a.eval s = .slice na nn nc)
    (hN : OwN w lo na nn nc xs) (hlo : lo ≤ w.heap.size) (gA : Nat) (xx : Nx) (hx : a.eval x = .slice (some ⟨gA, 0, none⟩) 1 1) (bA : BxS w gA 27 xx.arr) (hm : nn ≤ 100000) (hxA : Ans w lo xx.a xx.da.length xx.c xx.da) (hxO : OwGi w lo xx.q xx.ga.length xx.d xx.ga) (hsep : ∀ z, ((Value.slice xx.a xx.da.length xx.c).ownBlock = some z ∨ (Value.slice xx.q xx.ga.length xx.d).ownBlock = some z) → ¬ Nbl na nn nc xs z)
    (hK : ∀ na' nc' w', OwN w' lo na' (nn + 1) nc' (xs ++ [xx]) → w.grownBy w' (Value.slice na nn nc).ownBlock → wpList Try.prog ops Q rest (a.put o.dst (.slice na' (nn + 1) nc')) w') :
    wpList Try.prog ops Q (o :: rest) a w := by
  obtain ⟨i0, hi, hz0, hz1, hz2⟩ := info_parts Try.info_nt3
  refine wpList_apS w hg s x 54 27 i0 _ 10 120 Try.underlying54 hi hz0 hz1 hz2 rfl (by decide) hop (.slice na nn nc) nn (flN xs) hs hN.own ⟨gA, 0, none⟩ 1 1 xx.cells hx rfl bA.newsA (by intro u hu; simp only [Nx.cells, Nx.arr, List.mem_cons, List.not_mem_nil, or_false] at hu; rcases hu with rfl | rfl | rfl | rfl | rfl | rfl | rfl | rfl | rfl | rfl <;> rfl) (by decide) (by unfold maxLen; omega) (by omega) ?_
  intro gx cx w8 hor u8 hO8
  exact hK _ _ w8 (hN.push hxA hxO hsep hlo hor u8 hO8) u8
theorem DTk.row {wB w w' : World} {g2 g5 : Nat} {V : Tv} {a : Option Addr} {c : Nat} {q : Option Addr} {d : Nat} (h : DTk wB w g2 g5 V a c q d) {na : Option Addr} {nn nc : Nat} {xs : List Nx} (hN : OwN w wB.heap.size na nn nc xs) (u : w.grownBy w' (Value.slice na nn nc).ownBlock) : DTk wB w' g2 g5 V a c q d := by
  have t1 : ∀ z, (Value.slice na nn nc).ownBlock = some z → ∃ cs, BxS w z 27 cs := fun z e => own_bxS hN.own e
  refine ⟨h.b5.keep u (fun e => own_ty hN.own h.b5 (by decide) e.symm), h.b2.keep u (fun e => own_ty hN.own h.b2 (by decide) e.symm), h.A.kRR u (fun z e e2 => ?_), h.O.kR u (fun z e => ?_), h.l2, h.l5, h.ne, grown_far h.g u hN.new⟩
  · obtain ⟨cs, hb⟩ := t1 z e
    exact own_ty h.A.own hb (by decide) e2
  · obtain ⟨cs, hb⟩ := t1 z e
    exact h.O.neB hb (by decide)

set_option maxHeartbeats 32000000 in
theorem to_t46 {u0 u1 u2 u3 u5 u6 u8 u10 u11 u12 u13 u14 u15 u16 u17 u18 u19 u20 u21 u22 u23 u24 u25 u26 u27 u28 u29 u30 u31 u32 u33 u34 u35 u36 u37 u38 u39 u40 u41 u42 u43 u44 u45 u46 u47 u48 u49 u50 u51 u52 u53 u54 u55 u56 u57 u58 u59 u60 u61 u62 u63 u64 u65 u66 u67 u68 u69 u70 u71 u72 u73 u74 u75 u76 u77 u78 u79 u80 u81 u82 u83 u84 u85 u86 u87 u88 u89 u90 u91 u92 u93 u94 u95 u96 u97 u98 u99 u100 u101 u102 u103 u104 u105 u106 u107 u108 u109 u110 u111 u112 u113 u114 u115 u116 u117 u118 u119 u120 u121 u122 u123 u124 u125 u126 u127 u128 u129 u130 u131 u132 u133 u134 u135 u136 u137 u138 u139 u140 u141 u142 u143 u144 u145 u146 u147 u148 u149 u150 u151 u152 u153 u154 u155 u156 u157 u158 u159 u160 u161 u162 u163 u164 u165 u166 u167 u168 u169 u170 u171 u172 u173 u174 u175 u176 u177 u178 u179 u180 u181 u182 : Value} (P : Ending → World → Prop) (wB w : World) (g4 g7 : Nat) (V : Tv) (a : Option Addr) (c : Nat) (q : Option Addr) (d : Nat) (na : Option Addr) (nc : Nat) (xs : List Nx) (T : List Nt) (h : DTk wB w g4 g7 V a c q d) (hT : xs.map Nx.dt = T) (hN : OwN w wB.heap.size na T.length nc xs)
    (hP : ∀ e w', RDk wB V T 0 e w' → P e w') :
    Code.wp Try.prog (tailR 46 (Try.f36.body.getD .skip)) (bodyPost Try.prog Try.f36 P) (Act.mk (List.toArray (u0 :: u1 :: u2 :: u3 :: (.pointer (some ⟨g4, 0, none⟩)) :: u5 :: u6 :: (.pointer (some ⟨g7, 0, none⟩)) :: u8 :: (.slice na T.length nc) :: u10 :: u11 :: u12 :: u13 :: u14 :: u15 :: u16 :: u17 :: u18 :: u19 :: u20 :: u21 :: u22 :: u23 :: u24 :: u25 :: u26 :: u27 :: u28 :: u29 :: u30 :: u31 :: u32 :: u33 :: u34 :: u35 :: u36 :: u37 :: u38 :: u39 :: u40 :: u41 :: u42 :: u43 :: u44 :: u45 :: u46 :: u47 :: u48 :: u49 :: u50 :: u51 :: u52 :: u53 :: u54 :: u55 :: u56 :: u57 :: u58 :: u59 :: u60 :: u61 :: u62 :: u63 :: u64 :: u65 :: u66 :: u67 :: u68 :: u69 :: u70 :: u71 :: u72 :: u73 :: u74 :: u75 :: u76 :: u77 :: u78 :: u79 :: u80 :: u81 :: u82 :: u83 :: u84 :: u85 :: u86 :: u87 :: u88 :: u89 :: u90 :: u91 :: u92 :: u93 :: u94 :: u95 :: u96 :: u97 :: u98 :: u99 :: u100 :: u101 :: u102 :: u103 :: u104 :: u105 :: u106 :: u107 :: u108 :: u109 :: u110 :: u111 :: u112 :: u113 :: u114 :: u115 :: u116 :: u117 :: u118 :: u119 :: u120 :: u121 :: u122 :: u123 :: u124 :: u125 :: u126 :: u127 :: u128 :: u129 :: u130 :: u131 :: u132 :: u133 :: u134 :: u135 :: u136 :: u137 :: u138 :: u139 :: u140 :: u141 :: u142 :: u143 :: u144 :: u145 :: u146 :: u147 :: u148 :: u149 :: u150 :: u151 :: u152 :: u153 :: u154 :: u155 :: u156 :: u157 :: u158 :: u159 :: u160 :: u161 :: u162 :: u163 :: u164 :: u165 :: u166 :: u167 :: u168 :: u169 :: u170 :: u171 :: u172 :: u173 :: u174 :: u175 :: u176 :: u177 :: u178 :: u179 :: u180 :: u181 :: u182 :: [])) []) w := by
  conv => enter [2]; whnf
  have HP : Hid _ := hP
  clear hP
  have i14 := Try.info_tk
  have i10 := Try.info_nt
  refine wp_seq_k fun K1 hK1 => ?_
  have HK1 : Hid _ := hK1
  clear hK1
  have b5 := h.b5
  have s0 : True := trivial
  go_wp2_with (first
    | (have _t := s0; clear s0; refine wpList_ldX _ rfl _ (.tmp 7) rfl g7 _ rfl b5 Try.underlying48 i14 ?_; have s1 : True := trivial)
    | (have _t := s1; clear s1; refine wpList_stX _ rfl _ (.tmp 4) (.tmp 181) rfl g4 _ _ rfl rfl h.b2 i14 rfl (by simp [Value.oneCell']) ?_; intro w3 b3 u3))
  refine HK1.out _ _ ?_
  clear HK1
  refine wp_ret ?_
  try simp only [Exit.then]
  refine bodyPost_ret (results_c1t2 rfl _ _ _ ⟨g4, 0, none⟩ _ _ _ rfl (BxS.load (t := 48) b3 Try.underlying48 Try.info_tk) rfl rfl) rfl ?_
  exact HP.out _ _ (h.fin u3 hT hN)

set_option maxHeartbeats 32000000 in
theorem to_t37 {u0 u1 u2 u3 u5 u6 u8 u10 u11 u12 u13 u14 u15 u16 u17 u18 u19 u20 u21 u22 u23 u24 u25 u26 u27 u28 u29 u30 u31 u32 u33 u34 u35 u36 u37 u38 u39 u40 u41 u42 u43 u44 u45 u46 u47 u48 u49 u50 u51 u52 u53 u54 u55 u56 u57 u58 u59 u60 u61 u62 u63 u64 u65 u66 u67 u68 u69 u70 u71 u72 u73 u74 u75 u76 u77 u78 u79 u80 u81 u82 u83 u84 u85 u86 u87 u88 u89 u90 u91 u92 u93 u94 u95 u96 u97 u98 u99 u100 u101 u102 u103 u104 u105 u106 u107 u108 u109 u110 u111 u112 u113 u114 u115 u116 u117 u118 u119 u120 u121 u122 u123 u124 u125 u126 u127 u128 u129 u130 u131 u132 u133 u134 u135 u136 u137 u138 u139 u140 u141 u142 u143 u144 u145 u146 u147 u148 u149 u150 u151 u152 u153 u154 u155 u156 u157 u158 u159 u160 u161 u162 u163 u164 u165 u166 u167 u168 u169 u170 u171 u172 u173 u174 u175 u176 u177 u178 u179 u180 u181 u182 : Value} (P : Ending → World → Prop) (wB w : World) (g4 g7 : Nat) (V : Tv) (a : Option Addr) (c : Nat) (q : Option Addr) (d : Nat) (na : Option Addr) (nc : Nat) (xs : List Nx) (T : List Nt) (h : DTk wB w g4 g7 V a c q d) (hT : xs.map Nx.dt = T) (hN : OwN w wB.heap.size na T.length nc xs) (hl : T.length ≤ 100) (Q : Exit → Act → World → Prop) (hPn : ∀ c a a' wz, a.defers = a'.defers → Q (.panic c) a wz → Q (.panic c) a' wz) (hQr : ∀ a wz, bodyPost Try.prog Try.f36 P .ret a wz → Q .ret a wz)
    (hP : ∀ e w', RDk wB V (T ++ [ntDone V.id 9]) 0 e w' → P e w') :
    Code.wp Try.prog (tailR 37 (Try.f36.body.getD .skip)) Q (Act.mk (List.toArray (u0 :: u1 :: u2 :: u3 :: (.pointer (some ⟨g4, 0, none⟩)) :: u5 :: u6 :: (.pointer (some ⟨g7, 0, none⟩)) :: u8 :: (.slice na T.length nc) :: u10 :: u11 :: u12 :: u13 :: u14 :: u15 :: u16 :: u17 :: u18 :: u19 :: u20 :: u21 :: u22 :: u23 :: u24 :: u25 :: u26 :: u27 :: u28 :: u29 :: u30 :: u31 :: u32 :: u33 :: u34 :: u35 :: u36 :: u37 :: u38 :: u39 :: u40 :: u41 :: u42 :: u43 :: u44 :: u45 :: u46 :: u47 :: u48 :: u49 :: u50 :: u51 :: u52 :: u53 :: u54 :: u55 :: u56 :: u57 :: u58 :: u59 :: u60 :: u61 :: u62 :: u63 :: u64 :: u65 :: u66 :: u67 :: u68 :: u69 :: u70 :: u71 :: u72 :: u73 :: u74 :: u75 :: u76 :: u77 :: u78 :: u79 :: u80 :: u81 :: u82 :: u83 :: u84 :: u85 :: u86 :: u87 :: u88 :: u89 :: u90 :: u91 :: u92 :: u93 :: u94 :: u95 :: u96 :: u97 :: u98 :: u99 :: u100 :: u101 :: u102 :: u103 :: u104 :: u105 :: u106 :: u107 :: u108 :: u109 :: u110 :: u111 :: u112 :: u113 :: u114 :: u115 :: u116 :: u117 :: u118 :: u119 :: u120 :: u121 :: u122 :: u123 :: u124 :: u125 :: u126 :: u127 :: u128 :: u129 :: u130 :: u131 :: u132 :: u133 :: u134 :: u135 :: u136 :: u137 :: u138 :: u139 :: u140 :: u141 :: u142 :: u143 :: u144 :: u145 :: u146 :: u147 :: u148 :: u149 :: u150 :: u151 :: u152 :: u153 :: u154 :: u155 :: u156 :: u157 :: u158 :: u159 :: u160 :: u161 :: u162 :: u163 :: u164 :: u165 :: u166 :: u167 :: u168 :: u169 :: u170 :: u171 :: u172 :: u173 :: u174 :: u175 :: u176 :: u177 :: u178 :: u179 :: u180 :: u181 :: u182 :: [])) []) w := by
  conv => enter [2]; whnf
  have HP : Hid _ := hP
  clear hP
  have i14 := Try.info_tk
  have i10 := Try.info_nt
  refine wp_seq_k fun K1 hK1 => ?_
  have HK1 : Hid _ := hK1
  clear hK1
  have Gd := grown_drew w none
  have hd := h.keepN Gd
  have hNd := hN.keep Gd
  have SS : BxS w.drew g7 48 #[.int .i64 V.id, .bool V.kn, .string V.nm, .int .i64 V.si, .bool V.en, .int .i64 V.la, .int .i64 V.su, .slice q V.G.length d, .slice a V.L.length c, .int .i64 V.st, .int .i64 V.ti, .int .i64 V.pa, .int .i64 V.tr, .int .i64 V.li] := hd.b5
  refine wp_regionL (fun wz => BxS wz g7 48 #[.int .i64 V.id, .bool V.kn, .string V.nm, .int .i64 V.si, .bool V.en, .int .i64 V.la, .int .i64 V.su, .slice q V.G.length d, .slice a V.L.length c, .int .i64 V.st, .int .i64 V.ti, .int .i64 V.pa, .int .i64 V.tr, .int .i64 V.li]) [] #[false, false, false, false, false, false, false, false, false] rfl (by kernel_rfl) ?_
  generalize w.drew = w2 at *
  refine wpAnyZ_take [] 0 (.agg #[.int .i64 V.id, .bool V.kn, .string V.nm, .int .i64 V.si, .bool V.en, .int .i64 V.la, .int .i64 V.su, .slice q V.G.length d, .slice a V.L.length c, .int .i64 V.st, .int .i64 V.ti, .int .i64 V.pa, .int .i64 V.tr, .int .i64 V.li]) rfl (by kernel_rfl) (fun _ _ _ h => hPn _ _ _ _ (by rfl) h) SS rfl (by intro wz hz; exact ld_execD rfl rfl hz Try.underlying48 i14) ?_
  try simp only [List.getElem_toArray, List.getElem_cons_succ, List.getElem_cons_zero, Act.put, List.setIfInBounds_toArray, List.set_cons_zero, List.set_cons_succ]
  refine wpAnyZ_take [] 1 (.slice na T.length nc) rfl (by kernel_rfl) (fun _ _ _ h => hPn _ _ _ _ (by rfl) h) SS rfl (by intro wz hz; go_simp) ?_
  try simp only [List.getElem_toArray, List.getElem_cons_succ, List.getElem_cons_zero, Act.put, List.setIfInBounds_toArray, List.set_cons_zero, List.set_cons_succ]
  refine wpAnyZ_take [] 2 (.agg #[.int .i64 V.id, .bool V.kn, .string V.nm, .int .i64 V.si, .bool V.en, .int .i64 V.la, .int .i64 V.su, .slice q V.G.length d, .slice a V.L.length c, .int .i64 V.st, .int .i64 V.ti, .int .i64 V.pa, .int .i64 V.tr, .int .i64 V.li]) rfl (by kernel_rfl) (fun _ _ _ h => hPn _ _ _ _ (by rfl) h) SS rfl (by intro wz hz; exact ld_execD rfl rfl hz Try.underlying48 i14) ?_
  try simp only [List.getElem_toArray, List.getElem_cons_succ, List.getElem_cons_zero, Act.put, List.setIfInBounds_toArray, List.set_cons_zero, List.set_cons_succ]
  refine wpAnyZ_oneB 3 rfl (by kernel_rfl) (fun KK hKK => ?_)
  go_simp
  go_at_call 72
  refine (rdone_any V.id V.kn V.nm V.si V.en V.la V.su q V.G.length d a V.L.length c V.st V.ti V.pa V.tr V.li 9 w2).mono ?_
  rintro e w3 ⟨rfl, y3⟩
  dsimp only
  have S3 := SS.keep y3 (by simp)
  have h3 := hd.keepN y3
  have hN3 := hNd.keep y3
  refine hKK _ _ (fun _ => S3) ?_
  try simp only [List.getElem_toArray, List.getElem_cons_succ, List.getElem_cons_zero, Act.put, List.setIfInBounds_toArray, List.set_cons_zero, List.set_cons_succ]
  have bA := BxS.new w3 27 (xDone V.id 9).arr
  have yA := World.grownBy_alloc w3 (.cells (xDone V.id 9).arr 27) none
  refine wpAnyZ_oneB 4 rfl (by kernel_rfl) (fun KK hKK => ?_)
  have harr : (xDone V.id 9).arr = #[.int .i64 5, .int .i64 V.id, .string ⟨#[]⟩, .int .i64 0, .int .i64 0, .int .i64 0, .slice none 0 0, .slice none 0 0, .int .i64 0, .int .i64 9] := rfl
  try rw [harr]
  go_simp
  rw [← harr]
  have S4 := S3.keep yA (by simp)
  have h4 := h3.keepN yA
  have hN4 := hN3.keep yA
  refine hKK _ _ (fun _ => S4) ?_
  try simp only [List.getElem_toArray, List.getElem_cons_succ, List.getElem_cons_zero, Act.put, List.setIfInBounds_toArray, List.set_cons_zero, List.set_cons_succ]
  have l4 := h4.g.size
  generalize w3.alloc (.cells (xDone V.id 9).arr 27) = w4 at *
  refine wpAnyZ_oneB 5 rfl (by kernel_rfl) (fun KK hKK => ?_)
  refine step_of_listV rfl ?_
  refine wpList_psNx rfl _ _ rfl na T.length nc wB.heap.size xs rfl hN4 l4 w3.heap.size (xDone V.id 9) rfl bA (by omega) (Ans.nil _ _) (OwGi.nil _ _) (fun z e => by rcases e with e | e <;> cases e) ?_
  intro na5 nc5 w5 hN5 u5
  have h5 := h4.row hN4 u5
  have S5 := h5.b5
  show KK _ w5
  refine hKK _ _ (fun _ => S5) ?_
  try simp only [List.getElem_toArray, List.getElem_cons_succ, List.getElem_cons_zero, Act.put, List.setIfInBounds_toArray, List.set_cons_zero, List.set_cons_succ]
  refine wpAnyZ_oneB 6 rfl (by kernel_rfl) (fun KK hKK => ?_)
  refine step_stX _ rfl _ _ _ rfl g4 _ _ rfl rfl h5.b2 i14 rfl (by simp [Value.oneCell']) ?_
  intro w7 b7 u7
  have S7 := S5.keep u7 (fun e => h5.ne (Option.some.inj e).symm)
  refine hKK _ _ (fun _ => S7) ?_
  try simp only [List.getElem_toArray, List.getElem_cons_succ, List.getElem_cons_zero, Act.put, List.setIfInBounds_toArray, List.set_cons_zero, List.set_cons_succ]
  refine wpAnyZ_take [] 7 (.slice na5 (T.length + 1) nc5) rfl (by kernel_rfl) (fun _ _ _ h => hPn _ _ _ _ (by rfl) h) S7 rfl (by intro wz hz; go_simp) ?_
  try simp only [List.getElem_toArray, List.getElem_cons_succ, List.getElem_cons_zero, Act.put, List.setIfInBounds_toArray, List.set_cons_zero, List.set_cons_succ]
  refine wpAnyZ_take [] 8 (.int .i64 0) rfl (by kernel_rfl) (fun _ _ _ h => hPn _ _ _ _ (by rfl) h) S7 rfl (by intro wz hz; go_simp) ?_
  try simp only [List.getElem_toArray, List.getElem_cons_succ, List.getElem_cons_zero, Act.put, List.setIfInBounds_toArray, List.set_cons_zero, List.set_cons_succ]
  refine wpAnyZ_doneB (by kernel_rfl) ?_ _
  refine HK1.out _ _ ?_
  clear HK1
  refine wp_ret ?_
  try simp only [Exit.then]
  refine hQr _ _ ?_
  refine bodyPost_ret (results_c1t2 rfl _ _ _ ⟨g4, 0, none⟩ _ _ _ rfl (BxS.load (t := 48) b7 Try.underlying48 Try.info_tk) rfl rfl) rfl ?_
  have hl9 : (T ++ [ntDone V.id 9]).length = T.length + 1 := by rw [List.length_append]; rfl
  have h9 := h5.fin (T := T ++ [ntDone V.id 9]) u7 (map_one hT (xDone V.id 9) _ rfl) (by rw [hl9]; exact hN5)
  rw [hl9] at h9
  exact HP.out _ _ h9

set_option maxHeartbeats 32000000 in
theorem to_t41 {u0 u1 u2 u3 u5 u6 u8 u10 u11 u12 u13 u14 u15 u16 u17 u18 u19 u20 u21 u22 u23 u24 u25 u26 u27 u28 u29 u30 u31 u32 u33 u34 u35 u36 u37 u38 u39 u40 u41 u42 u43 u44 u45 u46 u47 u48 u49 u50 u51 u52 u53 u54 u55 u56 u57 u58 u59 u60 u61 u62 u63 u64 u65 u66 u67 u68 u69 u70 u71 u72 u73 u74 u75 u76 u77 u78 u79 u80 u81 u82 u83 u84 u85 u86 u87 u88 u89 u90 u91 u92 u93 u94 u95 u96 u97 u98 u99 u100 u101 u102 u103 u104 u105 u106 u107 u108 u109 u110 u111 u112 u113 u114 u115 u116 u117 u118 u119 u120 u121 u122 u123 u124 u125 u126 u127 u128 u129 u130 u131 u132 u133 u134 u135 u136 u137 u138 u139 u140 u141 u142 u143 u144 u145 u146 u147 u148 u149 u150 u151 u152 u153 u154 u155 u156 u157 u158 u159 u160 u161 u162 u163 u164 u165 u166 u167 u168 u169 u170 u171 u172 u173 u174 u175 u176 u177 u178 u179 u180 u181 u182 : Value} (P : Ending → World → Prop) (wB w : World) (g4 g7 : Nat) (V : Tv) (a : Option Addr) (c : Nat) (q : Option Addr) (d : Nat) (na : Option Addr) (nc : Nat) (xs : List Nx) (T : List Nt) (h : DTk wB w g4 g7 V a c q d) (hT : xs.map Nx.dt = T) (hN : OwN w wB.heap.size na T.length nc xs) (hl : T.length ≤ 100) (Q : Exit → Act → World → Prop) (hPn : ∀ c a a' wz, a.defers = a'.defers → Q (.panic c) a wz → Q (.panic c) a' wz) (hQr : ∀ a wz, bodyPost Try.prog Try.f36 P .ret a wz → Q .ret a wz)
    (hP : ∀ e w', RDk wB V (T ++ [ntDone V.id 0]) 0 e w' → P e w') :
    Code.wp Try.prog (tailR 41 (Try.f36.body.getD .skip)) Q (Act.mk (List.toArray (u0 :: u1 :: u2 :: u3 :: (.pointer (some ⟨g4, 0, none⟩)) :: u5 :: u6 :: (.pointer (some ⟨g7, 0, none⟩)) :: u8 :: (.slice na T.length nc) :: u10 :: u11 :: u12 :: u13 :: u14 :: u15 :: u16 :: u17 :: u18 :: u19 :: u20 :: u21 :: u22 :: u23 :: u24 :: u25 :: u26 :: u27 :: u28 :: u29 :: u30 :: u31 :: u32 :: u33 :: u34 :: u35 :: u36 :: u37 :: u38 :: u39 :: u40 :: u41 :: u42 :: u43 :: u44 :: u45 :: u46 :: u47 :: u48 :: u49 :: u50 :: u51 :: u52 :: u53 :: u54 :: u55 :: u56 :: u57 :: u58 :: u59 :: u60 :: u61 :: u62 :: u63 :: u64 :: u65 :: u66 :: u67 :: u68 :: u69 :: u70 :: u71 :: u72 :: u73 :: u74 :: u75 :: u76 :: u77 :: u78 :: u79 :: u80 :: u81 :: u82 :: u83 :: u84 :: u85 :: u86 :: u87 :: u88 :: u89 :: u90 :: u91 :: u92 :: u93 :: u94 :: u95 :: u96 :: u97 :: u98 :: u99 :: u100 :: u101 :: u102 :: u103 :: u104 :: u105 :: u106 :: u107 :: u108 :: u109 :: u110 :: u111 :: u112 :: u113 :: u114 :: u115 :: u116 :: u117 :: u118 :: u119 :: u120 :: u121 :: u122 :: u123 :: u124 :: u125 :: u126 :: u127 :: u128 :: u129 :: u130 :: u131 :: u132 :: u133 :: u134 :: u135 :: u136 :: u137 :: u138 :: u139 :: u140 :: u141 :: u142 :: u143 :: u144 :: u145 :: u146 :: u147 :: u148 :: u149 :: u150 :: u151 :: u152 :: u153 :: u154 :: u155 :: u156 :: u157 :: u158 :: u159 :: u160 :: u161 :: u162 :: u163 :: u164 :: u165 :: u166 :: u167 :: u168 :: u169 :: u170 :: u171 :: u172 :: u173 :: u174 :: u175 :: u176 :: u177 :: u178 :: u179 :: u180 :: u181 :: u182 :: [])) []) w := by
  conv => enter [2]; whnf
  have HP : Hid _ := hP
  clear hP
  have i14 := Try.info_tk
  have i10 := Try.info_nt
  refine wp_seq_k fun K1 hK1 => ?_
  have HK1 : Hid _ := hK1
  clear hK1
  have Gd := grown_drew w none
  have hd := h.keepN Gd
  have hNd := hN.keep Gd
  have SS : BxS w.drew g7 48 #[.int .i64 V.id, .bool V.kn, .string V.nm, .int .i64 V.si, .bool V.en, .int .i64 V.la, .int .i64 V.su, .slice q V.G.length d, .slice a V.L.length c, .int .i64 V.st, .int .i64 V.ti, .int .i64 V.pa, .int .i64 V.tr, .int .i64 V.li] := hd.b5
  refine wp_regionL (fun wz => BxS wz g7 48 #[.int .i64 V.id, .bool V.kn, .string V.nm, .int .i64 V.si, .bool V.en, .int .i64 V.la, .int .i64 V.su, .slice q V.G.length d, .slice a V.L.length c, .int .i64 V.st, .int .i64 V.ti, .int .i64 V.pa, .int .i64 V.tr, .int .i64 V.li]) [] #[false, false, false, false, false, false, false, false, false] rfl (by kernel_rfl) ?_
  generalize w.drew = w2 at *
  refine wpAnyZ_take [] 0 (.agg #[.int .i64 V.id, .bool V.kn, .string V.nm, .int .i64 V.si, .bool V.en, .int .i64 V.la, .int .i64 V.su, .slice q V.G.length d, .slice a V.L.length c, .int .i64 V.st, .int .i64 V.ti, .int .i64 V.pa, .int .i64 V.tr, .int .i64 V.li]) rfl (by kernel_rfl) (fun _ _ _ h => hPn _ _ _ _ (by rfl) h) SS rfl (by intro wz hz; exact ld_execD rfl rfl hz Try.underlying48 i14) ?_
  try simp only [List.getElem_toArray, List.getElem_cons_succ, List.getElem_cons_zero, Act.put, List.setIfInBounds_toArray, List.set_cons_zero, List.set_cons_succ]
  refine wpAnyZ_take [] 1 (.slice na T.length nc) rfl (by kernel_rfl) (fun _ _ _ h => hPn _ _ _ _ (by rfl) h) SS rfl (by intro wz hz; go_simp) ?_
  try simp only [List.getElem_toArray, List.getElem_cons_succ, List.getElem_cons_zero, Act.put, List.setIfInBounds_toArray, List.set_cons_zero, List.set_cons_succ]
  refine wpAnyZ_take [] 2 (.agg #[.int .i64 V.id, .bool V.kn, .string V.nm, .int .i64 V.si, .bool V.en, .int .i64 V.la, .int .i64 V.su, .slice q V.G.length d, .slice a V.L.length c, .int .i64 V.st, .int .i64 V.ti, .int .i64 V.pa, .int .i64 V.tr, .int .i64 V.li]) rfl (by kernel_rfl) (fun _ _ _ h => hPn _ _ _ _ (by rfl) h) SS rfl (by intro wz hz; exact ld_execD rfl rfl hz Try.underlying48 i14) ?_
  try simp only [List.getElem_toArray, List.getElem_cons_succ, List.getElem_cons_zero, Act.put, List.setIfInBounds_toArray, List.set_cons_zero, List.set_cons_succ]
  refine wpAnyZ_oneB 3 rfl (by kernel_rfl) (fun KK hKK => ?_)
  go_simp
  go_at_call 72
  refine (rdone_any V.id V.kn V.nm V.si V.en V.la V.su q V.G.length d a V.L.length c V.st V.ti V.pa V.tr V.li 0 w2).mono ?_
  rintro e w3 ⟨rfl, y3⟩
  dsimp only
  have S3 := SS.keep y3 (by simp)
  have h3 := hd.keepN y3
  have hN3 := hNd.keep y3
  refine hKK _ _ (fun _ => S3) ?_
  try simp only [List.getElem_toArray, List.getElem_cons_succ, List.getElem_cons_zero, Act.put, List.setIfInBounds_toArray, List.set_cons_zero, List.set_cons_succ]
  have bA := BxS.new w3 27 (xDone V.id 0).arr
  have yA := World.grownBy_alloc w3 (.cells (xDone V.id 0).arr 27) none
  refine wpAnyZ_oneB 4 rfl (by kernel_rfl) (fun KK hKK => ?_)
  have harr : (xDone V.id 0).arr = #[.int .i64 5, .int .i64 V.id, .string ⟨#[]⟩, .int .i64 0, .int .i64 0, .int .i64 0, .slice none 0 0, .slice none 0 0, .int .i64 0, .int .i64 0] := rfl
  try rw [harr]
  go_simp
  rw [← harr]
  have S4 := S3.keep yA (by simp)
  have h4 := h3.keepN yA
  have hN4 := hN3.keep yA
  refine hKK _ _ (fun _ => S4) ?_
  try simp only [List.getElem_toArray, List.getElem_cons_succ, List.getElem_cons_zero, Act.put, List.setIfInBounds_toArray, List.set_cons_zero, List.set_cons_succ]
  have l4 := h4.g.size
  generalize w3.alloc (.cells (xDone V.id 0).arr 27) = w4 at *
  refine wpAnyZ_oneB 5 rfl (by kernel_rfl) (fun KK hKK => ?_)
  refine step_of_listV rfl ?_
  refine wpList_psNx rfl _ _ rfl na T.length nc wB.heap.size xs rfl hN4 l4 w3.heap.size (xDone V.id 0) rfl bA (by omega) (Ans.nil _ _) (OwGi.nil _ _) (fun z e => by rcases e with e | e <;> cases e) ?_
  intro na5 nc5 w5 hN5 u5
  have h5 := h4.row hN4 u5
  have S5 := h5.b5
  show KK _ w5
  refine hKK _ _ (fun _ => S5) ?_
  try simp only [List.getElem_toArray, List.getElem_cons_succ, List.getElem_cons_zero, Act.put, List.setIfInBounds_toArray, List.set_cons_zero, List.set_cons_succ]
  refine wpAnyZ_oneB 6 rfl (by kernel_rfl) (fun KK hKK => ?_)
  refine step_stX _ rfl _ _ _ rfl g4 _ _ rfl rfl h5.b2 i14 rfl (by simp [Value.oneCell']) ?_
  intro w7 b7 u7
  have S7 := S5.keep u7 (fun e => h5.ne (Option.some.inj e).symm)
  refine hKK _ _ (fun _ => S7) ?_
  try simp only [List.getElem_toArray, List.getElem_cons_succ, List.getElem_cons_zero, Act.put, List.setIfInBounds_toArray, List.set_cons_zero, List.set_cons_succ]
  refine wpAnyZ_take [] 7 (.slice na5 (T.length + 1) nc5) rfl (by kernel_rfl) (fun _ _ _ h => hPn _ _ _ _ (by rfl) h) S7 rfl (by intro wz hz; go_simp) ?_
  try simp only [List.getElem_toArray, List.getElem_cons_succ, List.getElem_cons_zero, Act.put, List.setIfInBounds_toArray, List.set_cons_zero, List.set_cons_succ]
  refine wpAnyZ_take [] 8 (.int .i64 0) rfl (by kernel_rfl) (fun _ _ _ h => hPn _ _ _ _ (by rfl) h) S7 rfl (by intro wz hz; go_simp) ?_
  try simp only [List.getElem_toArray, List.getElem_cons_succ, List.getElem_cons_zero, Act.put, List.setIfInBounds_toArray, List.set_cons_zero, List.set_cons_succ]
  refine wpAnyZ_doneB (by kernel_rfl) ?_ _
  refine HK1.out _ _ ?_
  clear HK1
  refine wp_ret ?_
  try simp only [Exit.then]
  refine hQr _ _ ?_
  refine bodyPost_ret (results_c1t2 rfl _ _ _ ⟨g4, 0, none⟩ _ _ _ rfl (BxS.load (t := 48) b7 Try.underlying48 Try.info_tk) rfl rfl) rfl ?_
  have hl9 : (T ++ [ntDone V.id 0]).length = T.length + 1 := by rw [List.length_append]; rfl
  have h9 := h5.fin (T := T ++ [ntDone V.id 0]) u7 (map_one hT (xDone V.id 0) _ rfl) (by rw [hl9]; exact hN5)
  rw [hl9] at h9
  exact HP.out _ _ h9

set_option maxHeartbeats 32000000 in
theorem to_t43 {u0 u1 u2 u3 u5 u6 u8 u10 u11 u12 u13 u14 u15 u16 u17 u18 u19 u20 u21 u22 u23 u24 u25 u26 u27 u28 u29 u30 u31 u32 u33 u34 u35 u36 u37 u38 u39 u40 u41 u42 u43 u44 u45 u46 u47 u48 u49 u50 u51 u52 u53 u54 u55 u56 u57 u58 u59 u60 u61 u62 u63 u64 u65 u66 u67 u68 u69 u70 u71 u72 u73 u74 u75 u76 u77 u78 u79 u80 u81 u82 u83 u84 u85 u86 u87 u88 u89 u90 u91 u92 u93 u94 u95 u96 u97 u98 u99 u100 u101 u102 u103 u104 u105 u106 u107 u108 u109 u110 u111 u112 u113 u114 u115 u116 u117 u118 u119 u120 u121 u122 u123 u124 u125 u126 u127 u128 u129 u130 u131 u132 u133 u134 u135 u136 u137 u138 u139 u140 u141 u142 u143 u144 u145 u146 u147 u148 u149 u150 u151 u152 u153 u154 u155 u156 u157 u158 u159 u160 u161 u162 u163 u164 u165 u166 u167 u168 u169 u170 u171 u172 u173 u174 u175 u176 u177 u178 u179 u180 u181 u182 : Value} (P : Ending → World → Prop) (wB w : World) (g4 g7 : Nat) (V : Tv) (a : Option Addr) (c : Nat) (q : Option Addr) (d : Nat) (na : Option Addr) (nc : Nat) (xs : List Nx) (T : List Nt) (h : DTk wB w g4 g7 V a c q d) (hT : xs.map Nx.dt = T) (hN : OwN w wB.heap.size na T.length nc xs) (hl : T.length ≤ 100) (Q : Exit → Act → World → Prop) (hPn : ∀ c a a' wz, a.defers = a'.defers → Q (.panic c) a wz → Q (.panic c) a' wz) (hQr : ∀ a wz, bodyPost Try.prog Try.f36 P .ret a wz → Q .ret a wz)
    (hP : ∀ e w', RDk wB V (T ++ [ntDone V.id 9]) 0 e w' → P e w') :
    Code.wp Try.prog (tailR 43 (Try.f36.body.getD .skip)) Q (Act.mk (List.toArray (u0 :: u1 :: u2 :: u3 :: (.pointer (some ⟨g4, 0, none⟩)) :: u5 :: u6 :: (.pointer (some ⟨g7, 0, none⟩)) :: u8 :: (.slice na T.length nc) :: u10 :: u11 :: u12 :: u13 :: u14 :: u15 :: u16 :: u17 :: u18 :: u19 :: u20 :: u21 :: u22 :: u23 :: u24 :: u25 :: u26 :: u27 :: u28 :: u29 :: u30 :: u31 :: u32 :: u33 :: u34 :: u35 :: u36 :: u37 :: u38 :: u39 :: u40 :: u41 :: u42 :: u43 :: u44 :: u45 :: u46 :: u47 :: u48 :: u49 :: u50 :: u51 :: u52 :: u53 :: u54 :: u55 :: u56 :: u57 :: u58 :: u59 :: u60 :: u61 :: u62 :: u63 :: u64 :: u65 :: u66 :: u67 :: u68 :: u69 :: u70 :: u71 :: u72 :: u73 :: u74 :: u75 :: u76 :: u77 :: u78 :: u79 :: u80 :: u81 :: u82 :: u83 :: u84 :: u85 :: u86 :: u87 :: u88 :: u89 :: u90 :: u91 :: u92 :: u93 :: u94 :: u95 :: u96 :: u97 :: u98 :: u99 :: u100 :: u101 :: u102 :: u103 :: u104 :: u105 :: u106 :: u107 :: u108 :: u109 :: u110 :: u111 :: u112 :: u113 :: u114 :: u115 :: u116 :: u117 :: u118 :: u119 :: u120 :: u121 :: u122 :: u123 :: u124 :: u125 :: u126 :: u127 :: u128 :: u129 :: u130 :: u131 :: u132 :: u133 :: u134 :: u135 :: u136 :: u137 :: u138 :: u139 :: u140 :: u141 :: u142 :: u143 :: u144 :: u145 :: u146 :: u147 :: u148 :: u149 :: u150 :: u151 :: u152 :: u153 :: u154 :: u155 :: u156 :: u157 :: u158 :: u159 :: u160 :: u161 :: u162 :: u163 :: u164 :: u165 :: u166 :: u167 :: u168 :: u169 :: u170 :: u171 :: u172 :: u173 :: u174 :: u175 :: u176 :: u177 :: u178 :: u179 :: u180 :: u181 :: u182 :: [])) []) w := by
  conv => enter [2]; whnf
  have HP : Hid _ := hP
  clear hP
  have i14 := Try.info_tk
  have i10 := Try.info_nt
  refine wp_seq_k fun K1 hK1 => ?_
  have HK1 : Hid _ := hK1
  clear hK1
  have Gd := grown_drew w none
  have hd := h.keepN Gd
  have hNd := hN.keep Gd
  have SS : BxS w.drew g7 48 #[.int .i64 V.id, .bool V.kn, .string V.nm, .int .i64 V.si, .bool V.en, .int .i64 V.la, .int .i64 V.su, .slice q V.G.length d, .slice a V.L.length c, .int .i64 V.st, .int .i64 V.ti, .int .i64 V.pa, .int .i64 V.tr, .int .i64 V.li] := hd.b5
  refine wp_regionL (fun wz => BxS wz g7 48 #[.int .i64 V.id, .bool V.kn, .string V.nm, .int .i64 V.si, .bool V.en, .int .i64 V.la, .int .i64 V.su, .slice q V.G.length d, .slice a V.L.length c, .int .i64 V.st, .int .i64 V.ti, .int .i64 V.pa, .int .i64 V.tr, .int .i64 V.li]) [] #[false, false, false, false, false, false, false, false, false] rfl (by kernel_rfl) ?_
  generalize w.drew = w2 at *
  refine wpAnyZ_take [] 0 (.agg #[.int .i64 V.id, .bool V.kn, .string V.nm, .int .i64 V.si, .bool V.en, .int .i64 V.la, .int .i64 V.su, .slice q V.G.length d, .slice a V.L.length c, .int .i64 V.st, .int .i64 V.ti, .int .i64 V.pa, .int .i64 V.tr, .int .i64 V.li]) rfl (by kernel_rfl) (fun _ _ _ h => hPn _ _ _ _ (by rfl) h) SS rfl (by intro wz hz; exact ld_execD rfl rfl hz Try.underlying48 i14) ?_
  try simp only [List.getElem_toArray, List.getElem_cons_succ, List.getElem_cons_zero, Act.put, List.setIfInBounds_toArray, List.set_cons_zero, List.set_cons_succ]
  refine wpAnyZ_take [] 1 (.slice na T.length nc) rfl (by kernel_rfl) (fun _ _ _ h => hPn _ _ _ _ (by rfl) h) SS rfl (by intro wz hz; go_simp) ?_
  try simp only [List.getElem_toArray, List.getElem_cons_succ, List.getElem_cons_zero, Act.put, List.setIfInBounds_toArray, List.set_cons_zero, List.set_cons_succ]
  refine wpAnyZ_take [] 2 (.agg #[.int .i64 V.id, .bool V.kn, .string V.nm, .int .i64 V.si, .bool V.en, .int .i64 V.la, .int .i64 V.su, .slice q V.G.length d, .slice a V.L.length c, .int .i64 V.st, .int .i64 V.ti, .int .i64 V.pa, .int .i64 V.tr, .int .i64 V.li]) rfl (by kernel_rfl) (fun _ _ _ h => hPn _ _ _ _ (by rfl) h) SS rfl (by intro wz hz; exact ld_execD rfl rfl hz Try.underlying48 i14) ?_
  try simp only [List.getElem_toArray, List.getElem_cons_succ, List.getElem_cons_zero, Act.put, List.setIfInBounds_toArray, List.set_cons_zero, List.set_cons_succ]
  refine wpAnyZ_oneB 3 rfl (by kernel_rfl) (fun KK hKK => ?_)
  go_simp
  go_at_call 72
  refine (rdone_any V.id V.kn V.nm V.si V.en V.la V.su q V.G.length d a V.L.length c V.st V.ti V.pa V.tr V.li 9 w2).mono ?_
  rintro e w3 ⟨rfl, y3⟩
  dsimp only
  have S3 := SS.keep y3 (by simp)
  have h3 := hd.keepN y3
  have hN3 := hNd.keep y3
  refine hKK _ _ (fun _ => S3) ?_
  try simp only [List.getElem_toArray, List.getElem_cons_succ, List.getElem_cons_zero, Act.put, List.setIfInBounds_toArray, List.set_cons_zero, List.set_cons_succ]
  have bA := BxS.new w3 27 (xDone V.id 9).arr
  have yA := World.grownBy_alloc w3 (.cells (xDone V.id 9).arr 27) none
  refine wpAnyZ_oneB 4 rfl (by kernel_rfl) (fun KK hKK => ?_)
  have harr : (xDone V.id 9).arr = #[.int .i64 5, .int .i64 V.id, .string ⟨#[]⟩, .int .i64 0, .int .i64 0, .int .i64 0, .slice none 0 0, .slice none 0 0, .int .i64 0, .int .i64 9] := rfl
  try rw [harr]
  go_simp
  rw [← harr]
  have S4 := S3.keep yA (by simp)
  have h4 := h3.keepN yA
  have hN4 := hN3.keep yA
  refine hKK _ _ (fun _ => S4) ?_
  try simp only [List.getElem_toArray, List.getElem_cons_succ, List.getElem_cons_zero, Act.put, List.setIfInBounds_toArray, List.set_cons_zero, List.set_cons_succ]
  have l4 := h4.g.size
  generalize w3.alloc (.cells (xDone V.id 9).arr 27) = w4 at *
  refine wpAnyZ_oneB 5 rfl (by kernel_rfl) (fun KK hKK => ?_)
  refine step_of_listV rfl ?_
  refine wpList_psNx rfl _ _ rfl na T.length nc wB.heap.size xs rfl hN4 l4 w3.heap.size (xDone V.id 9) rfl bA (by omega) (Ans.nil _ _) (OwGi.nil _ _) (fun z e => by rcases e with e | e <;> cases e) ?_
  intro na5 nc5 w5 hN5 u5
  have h5 := h4.row hN4 u5
  have S5 := h5.b5
  show KK _ w5
  refine hKK _ _ (fun _ => S5) ?_
  try simp only [List.getElem_toArray, List.getElem_cons_succ, List.getElem_cons_zero, Act.put, List.setIfInBounds_toArray, List.set_cons_zero, List.set_cons_succ]
  refine wpAnyZ_oneB 6 rfl (by kernel_rfl) (fun KK hKK => ?_)
  refine step_stX _ rfl _ _ _ rfl g4 _ _ rfl rfl h5.b2 i14 rfl (by simp [Value.oneCell']) ?_
  intro w7 b7 u7
  have S7 := S5.keep u7 (fun e => h5.ne (Option.some.inj e).symm)
  refine hKK _ _ (fun _ => S7) ?_
  try simp only [List.getElem_toArray, List.getElem_cons_succ, List.getElem_cons_zero, Act.put, List.setIfInBounds_toArray, List.set_cons_zero, List.set_cons_succ]
  refine wpAnyZ_take [] 7 (.slice na5 (T.length + 1) nc5) rfl (by kernel_rfl) (fun _ _ _ h => hPn _ _ _ _ (by rfl) h) S7 rfl (by intro wz hz; go_simp) ?_
  try simp only [List.getElem_toArray, List.getElem_cons_succ, List.getElem_cons_zero, Act.put, List.setIfInBounds_toArray, List.set_cons_zero, List.set_cons_succ]
  refine wpAnyZ_take [] 8 (.int .i64 0) rfl (by kernel_rfl) (fun _ _ _ h => hPn _ _ _ _ (by rfl) h) S7 rfl (by intro wz hz; go_simp) ?_
  try simp only [List.getElem_toArray, List.getElem_cons_succ, List.getElem_cons_zero, Act.put, List.setIfInBounds_toArray, List.set_cons_zero, List.set_cons_succ]
  refine wpAnyZ_doneB (by kernel_rfl) ?_ _
  refine HK1.out _ _ ?_
  clear HK1
  refine wp_ret ?_
  try simp only [Exit.then]
  refine hQr _ _ ?_
  refine bodyPost_ret (results_c1t2 rfl _ _ _ ⟨g4, 0, none⟩ _ _ _ rfl (BxS.load (t := 48) b7 Try.underlying48 Try.info_tk) rfl rfl) rfl ?_
  have hl9 : (T ++ [ntDone V.id 9]).length = T.length + 1 := by rw [List.length_append]; rfl
  have h9 := h5.fin (T := T ++ [ntDone V.id 9]) u7 (map_one hT (xDone V.id 9) _ rfl) (by rw [hl9]; exact hN5)
  rw [hl9] at h9
  exact HP.out _ _ h9

set_option maxHeartbeats 32000000 in
theorem to_t44 {u0 u1 u2 u5 u6 u8 u10 u11 u12 u13 u14 u15 u16 u17 u18 u19 u20 u21 u22 u23 u24 u25 u26 u27 u28 u29 u30 u31 u32 u33 u34 u35 u36 u37 u38 u39 u40 u41 u42 u43 u44 u45 u46 u47 u48 u49 u50 u51 u52 u53 u54 u55 u56 u57 u58 u59 u60 u61 u62 u63 u64 u65 u66 u67 u68 u69 u70 u71 u72 u73 u74 u75 u76 u77 u78 u79 u80 u81 u82 u83 u84 u85 u86 u87 u88 u89 u90 u91 u92 u93 u94 u95 u96 u97 u98 u99 u100 u101 u102 u103 u104 u105 u106 u107 u108 u109 u110 u111 u112 u113 u114 u115 u116 u117 u118 u119 u120 u121 u122 u123 u124 u125 u126 u127 u128 u129 u130 u131 u132 u133 u134 u135 u136 u137 u138 u139 u140 u141 u142 u143 u144 u145 u146 u147 u148 u149 u150 u151 u152 u153 u154 u155 u156 u157 u158 u159 u160 u161 u162 u163 u164 u165 u166 u167 u168 u169 u170 u171 u172 u173 u174 u175 u176 u177 u178 u179 u180 u181 u182 : Value} (P : Ending → World → Prop) (wB w : World) (g4 g7 : Nat) (V : Tv) (a : Option Addr) (c : Nat) (q : Option Addr) (d : Nat) (na : Option Addr) (nc : Nat) (xs : List Nx) (T : List Nt) (h : DTk wB w g4 g7 V a c q d) (hT : xs.map Nx.dt = T) (hN : OwN w wB.heap.size na T.length nc xs) (hl : T.length ≤ 100) (g3 : Nat) (kd nid : Int) (nm2 : ByteArray) (si2 su2 at2 : Int) (pa2 : Option Addr) (pn pc : Nat) (ga : Option Addr) (gm gd : Nat) (o co : Int) (b3 : BxS w g3 27 #[.int .i64 kd, .int .i64 nid, .string nm2, .int .i64 si2, .int .i64 su2, .int .i64 at2, .slice pa2 pn pc, .slice ga gm gd, .int .i64 o, .int .i64 co]) (ho : TvQ V) (hM : kd = 3 → (misL V.kn V.la V.G).length ≠ 0)
    (hP : ∀ e w', RDk wB V (T ++ (if kd = 3 then sgL V.id (misL V.kn V.la V.G) else [])) 0 e w' → P e w') :
    Code.wp Try.prog (tailR 44 (Try.f36.body.getD .skip)) (bodyPost Try.prog Try.f36 P) (Act.mk (List.toArray (u0 :: u1 :: u2 :: (.pointer (some ⟨g3, 0, none⟩)) :: (.pointer (some ⟨g4, 0, none⟩)) :: u5 :: u6 :: (.pointer (some ⟨g7, 0, none⟩)) :: u8 :: (.slice na T.length nc) :: u10 :: u11 :: u12 :: u13 :: u14 :: u15 :: u16 :: u17 :: u18 :: u19 :: u20 :: u21 :: u22 :: u23 :: u24 :: u25 :: u26 :: u27 :: u28 :: u29 :: u30 :: u31 :: u32 :: u33 :: u34 :: u35 :: u36 :: u37 :: u38 :: u39 :: u40 :: u41 :: u42 :: u43 :: u44 :: u45 :: u46 :: u47 :: u48 :: u49 :: u50 :: u51 :: u52 :: u53 :: u54 :: u55 :: u56 :: u57 :: u58 :: u59 :: u60 :: u61 :: u62 :: u63 :: u64 :: u65 :: u66 :: u67 :: u68 :: u69 :: u70 :: u71 :: u72 :: u73 :: u74 :: u75 :: u76 :: u77 :: u78 :: u79 :: u80 :: u81 :: u82 :: u83 :: u84 :: u85 :: u86 :: u87 :: u88 :: u89 :: u90 :: u91 :: u92 :: u93 :: u94 :: u95 :: u96 :: u97 :: u98 :: u99 :: u100 :: u101 :: u102 :: u103 :: u104 :: u105 :: u106 :: u107 :: u108 :: u109 :: u110 :: u111 :: u112 :: u113 :: u114 :: u115 :: u116 :: u117 :: u118 :: u119 :: u120 :: u121 :: u122 :: u123 :: u124 :: u125 :: u126 :: u127 :: u128 :: u129 :: u130 :: u131 :: u132 :: u133 :: u134 :: u135 :: u136 :: u137 :: u138 :: u139 :: u140 :: u141 :: u142 :: u143 :: u144 :: u145 :: u146 :: u147 :: u148 :: u149 :: u150 :: u151 :: u152 :: u153 :: u154 :: u155 :: u156 :: u157 :: u158 :: u159 :: u160 :: u161 :: u162 :: u163 :: u164 :: u165 :: u166 :: u167 :: u168 :: u169 :: u170 :: u171 :: u172 :: u173 :: u174 :: u175 :: u176 :: u177 :: u178 :: u179 :: u180 :: u181 :: u182 :: [])) []) w := by
  conv => enter [2]; whnf
  have HP : Hid _ := hP
  clear hP
  have i14 := Try.info_tk
  have i10 := Try.info_nt
  have y0 : w.cell? ⟨g3, 0, none⟩ = some (.int .i64 kd) := b3.cell 0 (by show 0 < 10; decide)
  have HO : Hid _ := ho
  have HM : Hid _ := hM
  clear ho hM
  refine wp_seq_k fun K1 hK1 => ?_
  have HK1 : Hid _ := hK1
  clear hK1
  by_cases hk : kd = 3
  · rw [if_pos hk] at HP
    have hsg : sgL V.id (misL V.kn V.la V.G) = [ntGaps V.id (misL V.kn V.la V.G)] := if_neg (HM.out hk)
    rw [hsg] at HP
    clear hsg HM
    rw [hk] at y0
    clear hk
    have kM := fun wz (k : RdG wz q V.G.length d (giF V.G)) => rmissing_any V.id V.kn V.nm V.si V.en V.la V.su q V.G.length d a V.L.length c V.st V.ti V.pa V.tr V.li V.G rfl wz k HO.out.ri HO.out.la HO.out.gl
    unfold tkA at kM
    generalize misL V.kn V.la V.G = M at kM HP
    refine wp_seq_k fun K2 hK2 => ?_
    have HK2 : Hid _ := hK2
    clear hK2
    go_wp2
    refine HK2.out _ _ ?_
    clear HK2
    refine wp_cond_true rfl ?_
    clear y0
    have Gd := grown_drew w none
    have hd := h.keepN Gd
    have hNd := hN.keep Gd
    have SS : BxS w.drew g7 48 #[.int .i64 V.id, .bool V.kn, .string V.nm, .int .i64 V.si, .bool V.en, .int .i64 V.la, .int .i64 V.su, .slice q V.G.length d, .slice a V.L.length c, .int .i64 V.st, .int .i64 V.ti, .int .i64 V.pa, .int .i64 V.tr, .int .i64 V.li] := hd.b5
    refine wp_regionL (fun wz => BxS wz g7 48 #[.int .i64 V.id, .bool V.kn, .string V.nm, .int .i64 V.si, .bool V.en, .int .i64 V.la, .int .i64 V.su, .slice q V.G.length d, .slice a V.L.length c, .int .i64 V.st, .int .i64 V.ti, .int .i64 V.pa, .int .i64 V.tr, .int .i64 V.li]) [] #[false, false, false, false, false, false, false, false, false] rfl (by kernel_rfl) ?_
    generalize w.drew = w2 at *
    refine wpAnyZ_take [] 0 (.slice na T.length nc) rfl (by kernel_rfl) (fun _ _ _ h => h) SS rfl (by intro wz hz; go_simp) ?_
    try simp only [List.getElem_toArray, List.getElem_cons_succ, List.getElem_cons_zero, Act.put, List.setIfInBounds_toArray, List.set_cons_zero, List.set_cons_succ]
    refine wpAnyZ_take [] 1 (.pointer (some ⟨g7, 0, none⟩)) rfl (by kernel_rfl) (fun _ _ _ h => h) SS rfl (by intro wz hz; go_simp) ?_
    try simp only [List.getElem_toArray, List.getElem_cons_succ, List.getElem_cons_zero, Act.put, List.setIfInBounds_toArray, List.set_cons_zero, List.set_cons_succ]
    refine wpAnyZ_take [] 2 (.int .i64 V.id) rfl (by kernel_rfl) (fun _ _ _ h => h) SS rfl (by intro wz hz; have z : wz.cell? ⟨g7, 0, none⟩ = some (.int .i64 V.id) := hz.cell 0 (by show 0 < 14; decide); go_simp) ?_
    try simp only [List.getElem_toArray, List.getElem_cons_succ, List.getElem_cons_zero, Act.put, List.setIfInBounds_toArray, List.set_cons_zero, List.set_cons_succ]
    refine wpAnyZ_take [] 3 (.agg #[.int .i64 V.id, .bool V.kn, .string V.nm, .int .i64 V.si, .bool V.en, .int .i64 V.la, .int .i64 V.su, .slice q V.G.length d, .slice a V.L.length c, .int .i64 V.st, .int .i64 V.ti, .int .i64 V.pa, .int .i64 V.tr, .int .i64 V.li]) rfl (by kernel_rfl) (fun _ _ _ h => h) SS rfl (by intro wz hz; exact ld_execD rfl rfl hz Try.underlying48 i14) ?_
    try simp only [List.getElem_toArray, List.getElem_cons_succ, List.getElem_cons_zero, Act.put, List.setIfInBounds_toArray, List.set_cons_zero, List.set_cons_succ]
    refine wpAnyZ_oneB 4 rfl (by kernel_rfl) (fun KK hKK => ?_)
    go_simp
    go_at_call 76
    refine (kM w2 hd.O.rd).mono ?_
    rintro e w3 ⟨q6, d6, rfl, hO6, y3⟩
    dsimp only
    have S3 := SS.keep y3 (by simp)
    have h3 := hd.keepN y3
    have hN3 := hNd.keep y3
    have z2 := hd.g.size
    have sp : ∀ z, (Value.slice q6 M.length d6).ownBlock = some z → ¬ Nbl na T.length nc xs z := fun z e e2 => by have h1 := hO6.new z e; have h2 := hNd.lt e2; omega
    refine hKK _ _ (fun _ => S3) ?_
    try simp only [List.getElem_toArray, List.getElem_cons_succ, List.getElem_cons_zero, Act.put, List.setIfInBounds_toArray, List.set_cons_zero, List.set_cons_succ]
    refine wpAnyZ_take [] 5 (.agg #[.int .i64 4, .int .i64 V.id, .string ⟨#[]⟩, .int .i64 0, .int .i64 0, .int .i64 0, .slice none 0 0, .slice q6 M.length d6, .int .i64 0, .int .i64 0]) rfl (by kernel_rfl) (fun _ _ _ h => h) S3 rfl (by intro wz hz; go_simp) ?_
    try simp only [List.getElem_toArray, List.getElem_cons_succ, List.getElem_cons_zero, Act.put, List.setIfInBounds_toArray, List.set_cons_zero, List.set_cons_succ]
    have bA := BxS.new w3 27 (xGaps V.id M q6 d6).arr
    have yA := World.grownBy_alloc w3 (.cells (xGaps V.id M q6 d6).arr 27) none
    refine wpAnyZ_oneB 6 rfl (by kernel_rfl) (fun KK hKK => ?_)
    have harr : (xGaps V.id M q6 d6).arr = #[.int .i64 4, .int .i64 V.id, .string ⟨#[]⟩, .int .i64 0, .int .i64 0, .int .i64 0, .slice none 0 0, .slice q6 M.length d6, .int .i64 0, .int .i64 0] := rfl
    try rw [harr]
    go_simp
    rw [← harr]
    have S4 := S3.keep yA (by simp)
    have h4 := h3.keepN yA
    have hN4 := hN3.keep yA
    have hO4 := (hO6.keep yA).wide z2
    refine hKK _ _ (fun _ => S4) ?_
    try simp only [List.getElem_toArray, List.getElem_cons_succ, List.getElem_cons_zero, Act.put, List.setIfInBounds_toArray, List.set_cons_zero, List.set_cons_succ]
    have l4 := h4.g.size
    generalize w3.alloc (.cells (xGaps V.id M q6 d6).arr 27) = w4 at *
    refine wpAnyZ_oneB 7 rfl (by kernel_rfl) (fun KK hKK => ?_)
    refine step_of_listV rfl ?_
    refine wpList_psNx rfl _ _ rfl na T.length nc wB.heap.size xs rfl hN4 l4 w3.heap.size (xGaps V.id M q6 d6) rfl bA (by omega) (Ans.nil _ _) hO4 (fun z e => by rcases e with e | e; cases e; exact sp z e) ?_
    intro na5 nc5 w5 hN5 u5
    have h5 := h4.row hN4 u5
    have S5 := h5.b5
    show KK _ w5
    refine hKK _ _ (fun _ => S5) ?_
    try simp only [List.getElem_toArray, List.getElem_cons_succ, List.getElem_cons_zero, Act.put, List.setIfInBounds_toArray, List.set_cons_zero, List.set_cons_succ]
    refine wpAnyZ_take [] 8 (.slice na5 (T.length + 1) nc5) rfl (by kernel_rfl) (fun _ _ _ h => h) S5 rfl (by intro wz hz; go_simp) ?_
    try simp only [List.getElem_toArray, List.getElem_cons_succ, List.getElem_cons_zero, Act.put, List.setIfInBounds_toArray, List.set_cons_zero, List.set_cons_succ]
    refine wpAnyZ_doneB (by kernel_rfl) ?_ _
    try simp only [Exit.then]
    refine HK1.out _ _ ?_
    clear HK1
    have hl9 : (T ++ [ntGaps V.id M]).length = T.length + 1 := by rw [List.length_append]; rfl
    have hN9 : OwN w5 wB.heap.size na5 (T ++ [ntGaps V.id M]).length nc5 (xs ++ [xGaps V.id M q6 d6]) := by rw [hl9]; exact hN5
    rw [← hl9]
    exact to_t46 P wB w5 g4 g7 V a c q d na5 nc5 (xs ++ [xGaps V.id M q6 d6]) (T ++ [ntGaps V.id M]) h5 (map_one hT (xGaps V.id M q6 d6) _ rfl) hN9 (fun e w' k => HP.out e w' k)
  · have hk2 : (kd == 3) = false := beq_eq_false_iff_ne.2 hk
    rw [if_neg hk, List.append_nil] at HP
    clear hk
    go_wp2
    try simp only [Exit.then]
    refine HK1.out _ _ ?_
    clear HK1
    exact to_t46 P wB w g4 g7 V a c q d na nc xs T h hT hN (fun e w' k => HP.out e w' k)
end
end Go.Proofs.Ytnimehkfnpepfaa
