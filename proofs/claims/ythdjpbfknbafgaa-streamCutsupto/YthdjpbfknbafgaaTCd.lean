import Derived.Test.YthdjpbfknbafgaaTCc
namespace Go.Proofs.Ythdjpbfknbafgaa
open Go.RowKit Go.Shelf
set_option maxRecDepth 100000
set_option linter.unusedVariables false
set_option linter.unusedSimpArgs false
attribute [local go_sem] Oper.semAt_some

set_option maxHeartbeats 16000000 in
theorem cu_17 {u0 u1 u2 u3 u4 u5 u8 u9 u10 u12 u14 u16 u18 u19 u20 u21 u22 u23 u24 u25 u26 u27 u28 u29 u30 u31 u32 u33 u34 u35 u36 u37 u38 u39 u40 u41 u42 u43 u44 u45 u46 u47 u48 u49 u50 u51 u52 u53 u54 u55 u56 u57 u58 u59 u60 u61 u62 u63 u64 u65 u66 u67 u68 u69 u70 u71 u72 u73 u74 u75 u76 u77 u78 u79 u80 u81 u82 u83 u84 u85 u86 u87 u88 u89 u90 u91 u92 u93 u94 u95 u96 u97 u98 u99 u100 u101 u102 u103 u104 u105 u106 u107 u108 u109 u110 u111 u112 u113 u114 u115 u116 u117 u118 u119 u120 u121 u122 u123 u124 u125 u126 u127 u128 u129 u130 u131 u132 u133 u134 u135 u136 u137 u138 u139 u140 u141 u142 u143 u144 u145 u146 u147 u148 u149 u150 u151 u152 u153 u154 u155 u156 u157 u158 u159 u160 u161 u162 u163 u164 u165 u166 u167 u168 u169 u170 u171 u172 u173 u174 u175 u176 u177 u178 u179 u180 u181 u182 u183 u184 u185 u186 u187 u188 u189 u190 : Value} (w0 W : World) (g7 d7 p4 q4 p6 q6 t4 ct t6 cu K k n cv lo lo2 : Nat) (bm : Bool) (av : Option Addr) (dv : Value) (Vb : List Value) (Ts : List (List Fa)) (ys : List Fy) (hK : K = k + 1) (x0 : W.cell? ⟨p6, 0, none⟩ = some (.bool bm)) (x1 : W.cell? ⟨t6, k, none⟩ = some (.bool bm)) (k4 : W.cell? ⟨p4, 0, none⟩ = some (.slice av n cv)) (hn : n ≤ 1048576) (hK2 : K ≤ 51)
    (hX : AnsX 33 W lo (some ⟨t4, 0, none⟩) K ct Vb) (hO : OnR W lo dv Vb Ts) (hy : W.ownsRow lo2 42 4 (.slice av n cv) n (flY ys)) (hyl : ys.length = n) (hyd : ∀ y, y ∈ ys → Ans W lo2 y.1.a y.1.n y.2 y.1.D) (he : ys.map (fun y => absF y.1) = Ts.flatten) (F0 : Frm (fun _ => False) w0 W) :
    Code.wp Try.prog (tailR 17 (Try.f4.body.getD .skip)) (bodyPost Try.prog Try.f4 (fun e w' => e = .returned (.bool true) ∧ w0.grownBy w' none)) (Act.mk (List.toArray (u0 :: u1 :: u2 :: u3 :: u4 :: u5 :: (.bool false) :: (.slice (some ⟨g7, 0, none⟩) K d7) :: u8 :: u9 :: u10 :: (.slice (some ⟨p4, 0, none⟩) 1 q4) :: u12 :: (.slice (some ⟨p6, 0, none⟩) 1 q6) :: u14 :: (.slice (some ⟨t4, 0, none⟩) K ct) :: u16 :: (.slice (some ⟨t6, 0, none⟩) K cu) :: u18 :: u19 :: u20 :: u21 :: u22 :: u23 :: u24 :: u25 :: u26 :: u27 :: u28 :: u29 :: u30 :: u31 :: u32 :: u33 :: u34 :: u35 :: u36 :: u37 :: u38 :: u39 :: u40 :: u41 :: u42 :: u43 :: u44 :: u45 :: u46 :: u47 :: u48 :: u49 :: u50 :: u51 :: u52 :: u53 :: u54 :: u55 :: u56 :: u57 :: u58 :: u59 :: u60 :: u61 :: u62 :: u63 :: u64 :: u65 :: u66 :: u67 :: u68 :: u69 :: u70 :: u71 :: u72 :: u73 :: u74 :: u75 :: u76 :: u77 :: u78 :: u79 :: u80 :: u81 :: u82 :: u83 :: u84 :: u85 :: u86 :: u87 :: u88 :: u89 :: u90 :: u91 :: u92 :: u93 :: u94 :: u95 :: u96 :: u97 :: u98 :: u99 :: u100 :: u101 :: u102 :: u103 :: u104 :: u105 :: u106 :: u107 :: u108 :: u109 :: u110 :: u111 :: u112 :: u113 :: u114 :: u115 :: u116 :: u117 :: u118 :: u119 :: u120 :: u121 :: u122 :: u123 :: u124 :: u125 :: u126 :: u127 :: u128 :: u129 :: u130 :: u131 :: u132 :: u133 :: u134 :: u135 :: u136 :: u137 :: u138 :: u139 :: u140 :: u141 :: u142 :: u143 :: u144 :: u145 :: u146 :: u147 :: u148 :: u149 :: u150 :: u151 :: u152 :: u153 :: u154 :: u155 :: u156 :: u157 :: u158 :: u159 :: u160 :: u161 :: u162 :: u163 :: u164 :: u165 :: u166 :: u167 :: u168 :: u169 :: u170 :: u171 :: u172 :: u173 :: u174 :: u175 :: u176 :: u177 :: u178 :: u179 :: u180 :: u181 :: u182 :: u183 :: u184 :: u185 :: u186 :: u187 :: u188 :: u189 :: u190 :: [])) []) W := by
  conv => enter [2]; whnf
  have hKk : (K : Int) - 1 = (k : Int) := by omega
  have hkK : (k : Int) < (K : Int) := by omega
  have Fd : Frm (fun _ => False) W W.drew := Frm.of (grown_drew _ none) (fun k e _ => by cases e)
  have HX : Hid _ := hX.frm Fd (fun _ _ h => h)
  have HO : Hid _ := hO.frm Fd (fun k hk _ => hk.elim)
  have HY : Hid _ := row_frm hy Fd (fun _ _ h => h)
  have HYD : Hid (∀ y, y ∈ ys → Ans W.drew lo2 y.1.a y.1.n y.2 y.1.D) := fun y h => (hyd y h).frm Fd (fun _ _ h => h)
  have HK4 : Hid _ := cell_frm k4 Fd (fun h => h)
  have HYL : Hid _ := hyl
  have HE : Hid _ := he
  have HK : Hid _ := hK
  have HF0 : Hid _ := F0.trans Fd (fun _ _ h => h)
  replace x0 := cell_frm x0 Fd (fun h => h)
  replace x1 := cell_frm x1 Fd (fun h => h)
  clear hX hO hy hyd k4 hyl he F0 Fd hK
  refine wp_seq_k fun K17 hK17 => ?_
  have HK17 : Hid _ := hK17
  clear hK17
  refine wp_seq_k fun K40 hK40 => ?_
  have HK40 : Hid _ := hK40
  clear hK40
  have SS : W.drew.grownBy W.drew none := World.grownBy.refl _ _
  refine wp_regionM (fun wz => W.drew.grownBy wz none) [] #[false, false, false, false, false, false, false, false, false, false, false, false, false, false, false, false, false, false, false, false, false, false, false, false, false, false, false, false, false, false, false, false, false, false] rfl (by kernel_rfl) ?_
  generalize W.drew = wd at *
  refine wpAnyY_takeF 0 (.slice (some ⟨p4, 0, none⟩) 1 q4) rfl (by kernel_rfl) (fun _ _ _ h => h) rfl (by intro wz; go_simp; try rfl) ?_
  try simp only [List.getElem_toArray, List.getElem_cons_succ, List.getElem_cons_zero, Act.put, List.setIfInBounds_toArray, List.set_cons_zero, List.set_cons_succ]
  refine wpAnyY_takeF 1 (.int .i64 1) rfl (by kernel_rfl) (fun _ _ _ h => h) rfl (by intro wz; go_simp; try rfl) ?_
  try simp only [List.getElem_toArray, List.getElem_cons_succ, List.getElem_cons_zero, Act.put, List.setIfInBounds_toArray, List.set_cons_zero, List.set_cons_succ]
  refine wpAnyY_takeF 2 (.bool false) rfl (by kernel_rfl) (fun _ _ _ h => h) rfl (by intro wz; go_simp) ?_
  try simp only [List.getElem_toArray, List.getElem_cons_succ, List.getElem_cons_zero, Act.put, List.setIfInBounds_toArray, List.set_cons_zero, List.set_cons_succ]
  refine wpAnyY_takeF 3 (.bool false) rfl (by kernel_rfl) (fun _ _ _ h => h) rfl (by intro wz; go_simp; try rfl) ?_
  try simp only [List.getElem_toArray, List.getElem_cons_succ, List.getElem_cons_zero, Act.put, List.setIfInBounds_toArray, List.set_cons_zero, List.set_cons_succ]
  refine wpAnyY_takeF 4 (.slice (some ⟨t4, 0, none⟩) K ct) rfl (by kernel_rfl) (fun _ _ _ h => h) rfl (by intro wz; go_simp; try rfl) ?_
  try simp only [List.getElem_toArray, List.getElem_cons_succ, List.getElem_cons_zero, Act.put, List.setIfInBounds_toArray, List.set_cons_zero, List.set_cons_succ]
  refine wpAnyY_takeF 5 (.int .i64 (K : Nat)) rfl (by kernel_rfl) (fun _ _ _ h => h) rfl (by intro wz; go_simp; try rfl) ?_
  try simp only [List.getElem_toArray, List.getElem_cons_succ, List.getElem_cons_zero, Act.put, List.setIfInBounds_toArray, List.set_cons_zero, List.set_cons_succ]
  refine wpAnyY_takeF 6 (.slice (some ⟨g7, 0, none⟩) K d7) rfl (by kernel_rfl) (fun _ _ _ h => h) rfl (by intro wz; go_simp; try rfl) ?_
  try simp only [List.getElem_toArray, List.getElem_cons_succ, List.getElem_cons_zero, Act.put, List.setIfInBounds_toArray, List.set_cons_zero, List.set_cons_succ]
  refine wpAnyY_takeF 7 (.int .i64 (K : Nat)) rfl (by kernel_rfl) (fun _ _ _ h => h) rfl (by intro wz; go_simp; try rfl) ?_
  try simp only [List.getElem_toArray, List.getElem_cons_succ, List.getElem_cons_zero, Act.put, List.setIfInBounds_toArray, List.set_cons_zero, List.set_cons_succ]
  refine wpAnyY_takeF 8 (.bool false) rfl (by kernel_rfl) (fun _ _ _ h => h) rfl (by intro wz; go_simp) ?_
  try simp only [List.getElem_toArray, List.getElem_cons_succ, List.getElem_cons_zero, Act.put, List.setIfInBounds_toArray, List.set_cons_zero, List.set_cons_succ]
  refine wpAnyY_takeF 9 (.bool false) rfl (by kernel_rfl) (fun _ _ _ h => h) rfl (by intro wz; go_simp; try rfl) ?_
  try simp only [List.getElem_toArray, List.getElem_cons_succ, List.getElem_cons_zero, Act.put, List.setIfInBounds_toArray, List.set_cons_zero, List.set_cons_succ]
  refine wpAnyY_takeF 10 (.bool false) rfl (by kernel_rfl) (fun _ _ _ h => h) rfl (by intro wz; go_simp; try rfl) ?_
  try simp only [List.getElem_toArray, List.getElem_cons_succ, List.getElem_cons_zero, Act.put, List.setIfInBounds_toArray, List.set_cons_zero, List.set_cons_succ]
  refine wpAnyY_takeF 11 (.slice (some ⟨p6, 0, none⟩) 1 q6) rfl (by kernel_rfl) (fun _ _ _ h => h) rfl (by intro wz; go_simp; try rfl) ?_
  try simp only [List.getElem_toArray, List.getElem_cons_succ, List.getElem_cons_zero, Act.put, List.setIfInBounds_toArray, List.set_cons_zero, List.set_cons_succ]
  refine wpAnyY_takeF 12 (.int .i64 1) rfl (by kernel_rfl) (fun _ _ _ h => h) rfl (by intro wz; go_simp; try rfl) ?_
  try simp only [List.getElem_toArray, List.getElem_cons_succ, List.getElem_cons_zero, Act.put, List.setIfInBounds_toArray, List.set_cons_zero, List.set_cons_succ]
  refine wpAnyY_takeF 13 (.bool false) rfl (by kernel_rfl) (fun _ _ _ h => h) rfl (by intro wz; go_simp) ?_
  try simp only [List.getElem_toArray, List.getElem_cons_succ, List.getElem_cons_zero, Act.put, List.setIfInBounds_toArray, List.set_cons_zero, List.set_cons_succ]
  refine wpAnyY_takeF 14 (.bool false) rfl (by kernel_rfl) (fun _ _ _ h => h) rfl (by intro wz; go_simp; try rfl) ?_
  try simp only [List.getElem_toArray, List.getElem_cons_succ, List.getElem_cons_zero, Act.put, List.setIfInBounds_toArray, List.set_cons_zero, List.set_cons_succ]
  refine wpAnyY_takeF 15 (.bool false) rfl (by kernel_rfl) (fun _ _ _ h => h) rfl (by intro wz; go_simp; try rfl) ?_
  try simp only [List.getElem_toArray, List.getElem_cons_succ, List.getElem_cons_zero, Act.put, List.setIfInBounds_toArray, List.set_cons_zero, List.set_cons_succ]
  refine wpAnyY_takeF 16 (.slice (some ⟨t6, 0, none⟩) K cu) rfl (by kernel_rfl) (fun _ _ _ h => h) rfl (by intro wz; go_simp; try rfl) ?_
  try simp only [List.getElem_toArray, List.getElem_cons_succ, List.getElem_cons_zero, Act.put, List.setIfInBounds_toArray, List.set_cons_zero, List.set_cons_succ]
  refine wpAnyY_takeF 17 (.int .i64 (K : Nat)) rfl (by kernel_rfl) (fun _ _ _ h => h) rfl (by intro wz; go_simp; try rfl) ?_
  try simp only [List.getElem_toArray, List.getElem_cons_succ, List.getElem_cons_zero, Act.put, List.setIfInBounds_toArray, List.set_cons_zero, List.set_cons_succ]
  refine wpAnyY_takeF 18 (.slice (some ⟨g7, 0, none⟩) K d7) rfl (by kernel_rfl) (fun _ _ _ h => h) rfl (by intro wz; go_simp; try rfl) ?_
  try simp only [List.getElem_toArray, List.getElem_cons_succ, List.getElem_cons_zero, Act.put, List.setIfInBounds_toArray, List.set_cons_zero, List.set_cons_succ]
  refine wpAnyY_takeF 19 (.int .i64 (K : Nat)) rfl (by kernel_rfl) (fun _ _ _ h => h) rfl (by intro wz; go_simp; try rfl) ?_
  try simp only [List.getElem_toArray, List.getElem_cons_succ, List.getElem_cons_zero, Act.put, List.setIfInBounds_toArray, List.set_cons_zero, List.set_cons_succ]
  refine wpAnyY_takeF 20 (.bool false) rfl (by kernel_rfl) (fun _ _ _ h => h) rfl (by intro wz; go_simp) ?_
  try simp only [List.getElem_toArray, List.getElem_cons_succ, List.getElem_cons_zero, Act.put, List.setIfInBounds_toArray, List.set_cons_zero, List.set_cons_succ]
  refine wpAnyY_takeF 21 (.bool false) rfl (by kernel_rfl) (fun _ _ _ h => h) rfl (by intro wz; go_simp; try rfl) ?_
  try simp only [List.getElem_toArray, List.getElem_cons_succ, List.getElem_cons_zero, Act.put, List.setIfInBounds_toArray, List.set_cons_zero, List.set_cons_succ]
  refine wpAnyY_takeF 22 (.bool false) rfl (by kernel_rfl) (fun _ _ _ h => h) rfl (by intro wz; go_simp; try rfl) ?_
  try simp only [List.getElem_toArray, List.getElem_cons_succ, List.getElem_cons_zero, Act.put, List.setIfInBounds_toArray, List.set_cons_zero, List.set_cons_succ]
  refine wpAnyY_takeF 23 (.slice (some ⟨p6, 0, none⟩) 1 q6) rfl (by kernel_rfl) (fun _ _ _ h => h) rfl (by intro wz; go_simp; try rfl) ?_
  try simp only [List.getElem_toArray, List.getElem_cons_succ, List.getElem_cons_zero, Act.put, List.setIfInBounds_toArray, List.set_cons_zero, List.set_cons_succ]
  refine wpAnyY_takeF 24 (.pointer (some ⟨p6, 0, none⟩)) rfl (by kernel_rfl) (fun _ _ _ h => h) rfl (by intro wz; go_simp; try rfl) ?_
  try simp only [List.getElem_toArray, List.getElem_cons_succ, List.getElem_cons_zero, Act.put, List.setIfInBounds_toArray, List.set_cons_zero, List.set_cons_succ]
  refine wpAnyY_take [] 25 (.bool bm) rfl (by kernel_rfl) (fun _ _ _ h => h) SS rfl (by intro wz hz; have z := cellGC x0 hz; go_simp) ?_
  try simp only [List.getElem_toArray, List.getElem_cons_succ, List.getElem_cons_zero, Act.put, List.setIfInBounds_toArray, List.set_cons_zero, List.set_cons_succ]
  refine wpAnyY_takeF 26 (.slice (some ⟨t6, 0, none⟩) K cu) rfl (by kernel_rfl) (fun _ _ _ h => h) rfl (by intro wz; go_simp; try rfl) ?_
  try simp only [List.getElem_toArray, List.getElem_cons_succ, List.getElem_cons_zero, Act.put, List.setIfInBounds_toArray, List.set_cons_zero, List.set_cons_succ]
  refine wpAnyY_takeF 27 (.slice (some ⟨t6, 0, none⟩) K cu) rfl (by kernel_rfl) (fun _ _ _ h => h) rfl (by intro wz; go_simp; try rfl) ?_
  try simp only [List.getElem_toArray, List.getElem_cons_succ, List.getElem_cons_zero, Act.put, List.setIfInBounds_toArray, List.set_cons_zero, List.set_cons_succ]
  refine wpAnyY_takeF 28 (.int .i64 (K : Nat)) rfl (by kernel_rfl) (fun _ _ _ h => h) rfl (by intro wz; go_simp; try rfl) ?_
  try simp only [List.getElem_toArray, List.getElem_cons_succ, List.getElem_cons_zero, Act.put, List.setIfInBounds_toArray, List.set_cons_zero, List.set_cons_succ]
  refine wpAnyY_takeF 29 (.int .i64 (k : Nat)) rfl (by kernel_rfl) (fun _ _ _ h => h) rfl (by intro wz; go_simp; rw [IntKind.wrap_i64] <;> omega) ?_
  try simp only [List.getElem_toArray, List.getElem_cons_succ, List.getElem_cons_zero, Act.put, List.setIfInBounds_toArray, List.set_cons_zero, List.set_cons_succ]
  refine wpAnyY_takeF 30 (.pointer (some ⟨t6, k, none⟩)) rfl (by kernel_rfl) (fun _ _ _ h => h) rfl (by intro wz; go_simp; try rfl) ?_
  try simp only [List.getElem_toArray, List.getElem_cons_succ, List.getElem_cons_zero, Act.put, List.setIfInBounds_toArray, List.set_cons_zero, List.set_cons_succ]
  refine wpAnyY_take [] 31 (.bool bm) rfl (by kernel_rfl) (fun _ _ _ h => h) SS rfl (by intro wz hz; have z := cellGC x1 hz; go_simp) ?_
  try simp only [List.getElem_toArray, List.getElem_cons_succ, List.getElem_cons_zero, Act.put, List.setIfInBounds_toArray, List.set_cons_zero, List.set_cons_succ]
  refine wpAnyY_takeF 32 (.bool false) rfl (by kernel_rfl) (fun _ _ _ h => h) rfl (by intro wz; go_simp) ?_
  try simp only [List.getElem_toArray, List.getElem_cons_succ, List.getElem_cons_zero, Act.put, List.setIfInBounds_toArray, List.set_cons_zero, List.set_cons_succ]
  refine wpAnyY_takeF 33 (.bool false) rfl (by kernel_rfl) (fun _ _ _ h => h) rfl (by intro wz; go_simp; try rfl) ?_
  try simp only [List.getElem_toArray, List.getElem_cons_succ, List.getElem_cons_zero, Act.put, List.setIfInBounds_toArray, List.set_cons_zero, List.set_cons_succ]
  refine wpAnyY_doneB (by kernel_rfl) ?_ _
  (try simp only [Exit.inBlock, Exit.then])
  refine HK40.out _ _ ?_
  clear HK40
  go_wp2
  (try simp only [Exit.inBlock, Exit.then])
  refine HK17.out _ _ ?_
  clear HK17
  exact cu_19 w0 wd p4 q4 t4 ct K n cv lo lo2 av dv Vb Ts ys HK4.out hn hK2 HX.out HO.out HY.out HYL.out HYD.out HE.out HF0.out

set_option maxHeartbeats 16000000 in
theorem cu_9ok {u0 u2 u4 u5 u9 u10 u11 u12 u13 u14 u15 u16 u17 u18 u19 u20 u21 u22 u23 u24 u25 u26 u27 u28 u29 u30 u31 u32 u33 u34 u35 u36 u37 u38 u39 u40 u41 u42 u43 u44 u45 u46 u47 u48 u49 u50 u51 u52 u53 u54 u55 u56 u57 u58 u59 u60 u61 u62 u63 u64 u65 u66 u67 u68 u69 u70 u71 u72 u73 u74 u75 u76 u77 u78 u79 u80 u81 u82 u83 u84 u85 u86 u87 u88 u89 u90 u91 u92 u93 u94 u95 u96 u97 u98 u99 u100 u101 u102 u103 u104 u105 u106 u107 u108 u109 u110 u111 u112 u113 u114 u115 u116 u117 u118 u119 u120 u121 u122 u123 u124 u125 u126 u127 u128 u129 u130 u131 u132 u133 u134 u135 u136 u137 u138 u139 u140 u141 u142 u143 u144 u145 u146 u147 u148 u149 u150 u151 u152 u153 u154 u155 u156 u157 u158 u159 u160 u161 u162 u163 u164 u165 u166 u167 u168 u169 u170 u171 u172 u173 u174 u175 u176 u177 u178 u179 u180 u181 u182 u183 u184 u185 u186 u187 u188 u189 u190 : Value} (r : Rx) (w0 W : World) (g k n1 c1 c7 nr cr gc : Nat) (L0 F0 H0 M0 : Int) (a1 a7 ar : Option Addr) (V : List Value) (Ps : List (List Nat)) (B R : List Nat) (hk : k ≤ 50) (hB : B.length ≤ 1048576) (hfl : Ps.flatten ++ R = B)
    (b : BxS W g 23 #[.int .i64 L0, .int .i64 F0, .int .i64 H0, .int .i64 M0]) (hR1 : Rd w0 a1 n1 c1 B) (hX : AnsX 25 W w0.heap.size a7 k c7 V) (hP : CuP W gc V Ps) (hr : RdB W gc ar nr cr R) (h7 : ∀ x, (Value.slice a7 k c7).ownBlock = some x → x ≠ gc) (Fr : Frm (fun _ => False) w0 W) (eL : L0 = (r.L : Nat)) (eF : F0 = (r.F : Nat)) (eH : H0 = (r.H : Nat)) (eM : M0 = (r.M : Nat)) (hL1 : 1 ≤ r.L) (hL2 : r.L ≤ 2048) (hF8 : r.F ≤ 8) (hH12 : r.H ≤ 12) (hM8 : r.M ≤ 8) :
    Code.wp Try.prog (tailR 9 (Try.f4.body.getD .skip)) (bodyPost Try.prog Try.f4 (fun e w' => e = .returned (.bool true) ∧ w0.grownBy w' none)) (Act.mk (List.toArray (u0 :: (.slice a1 n1 c1) :: u2 :: (.pointer (some ⟨g, 0, none⟩)) :: u4 :: u5 :: (.bool false) :: (.slice a7 k c7) :: (.slice ar nr cr) :: u9 :: u10 :: u11 :: u12 :: u13 :: u14 :: u15 :: u16 :: u17 :: u18 :: u19 :: u20 :: u21 :: u22 :: u23 :: u24 :: u25 :: u26 :: u27 :: u28 :: u29 :: u30 :: u31 :: u32 :: u33 :: u34 :: u35 :: u36 :: u37 :: u38 :: u39 :: u40 :: u41 :: u42 :: u43 :: u44 :: u45 :: u46 :: u47 :: u48 :: u49 :: u50 :: u51 :: u52 :: u53 :: u54 :: u55 :: u56 :: u57 :: u58 :: u59 :: u60 :: u61 :: u62 :: u63 :: u64 :: u65 :: u66 :: u67 :: u68 :: u69 :: u70 :: u71 :: u72 :: u73 :: u74 :: u75 :: u76 :: u77 :: u78 :: u79 :: u80 :: u81 :: u82 :: u83 :: u84 :: u85 :: u86 :: u87 :: u88 :: u89 :: u90 :: u91 :: u92 :: u93 :: u94 :: u95 :: u96 :: u97 :: u98 :: u99 :: u100 :: u101 :: u102 :: u103 :: u104 :: u105 :: u106 :: u107 :: u108 :: u109 :: u110 :: u111 :: u112 :: u113 :: u114 :: u115 :: u116 :: u117 :: u118 :: u119 :: u120 :: u121 :: u122 :: u123 :: u124 :: u125 :: u126 :: u127 :: u128 :: u129 :: u130 :: u131 :: u132 :: u133 :: u134 :: u135 :: u136 :: u137 :: u138 :: u139 :: u140 :: u141 :: u142 :: u143 :: u144 :: u145 :: u146 :: u147 :: u148 :: u149 :: u150 :: u151 :: u152 :: u153 :: u154 :: u155 :: u156 :: u157 :: u158 :: u159 :: u160 :: u161 :: u162 :: u163 :: u164 :: u165 :: u166 :: u167 :: u168 :: u169 :: u170 :: u171 :: u172 :: u173 :: u174 :: u175 :: u176 :: u177 :: u178 :: u179 :: u180 :: u181 :: u182 :: u183 :: u184 :: u185 :: u186 :: u187 :: u188 :: u189 :: u190 :: [])) []) W := by
  subst eL eF eH eM
  conv => enter [2]; whnf
  have hc0 : W.cell? ⟨g, 0, none⟩ = some (.int .i64 (r.L : Nat)) := b.cell 0 (by show 0 < 4; decide)
  have hc1 : W.cell? ⟨g, 1, none⟩ = some (.int .i64 (r.F : Nat)) := b.cell 1 (by show 1 < 4; decide)
  have hc2 : W.cell? ⟨g, 2, none⟩ = some (.int .i64 (r.H : Nat)) := b.cell 2 (by show 2 < 4; decide)
  have hc3 : W.cell? ⟨g, 3, none⟩ = some (.int .i64 (r.M : Nat)) := b.cell 3 (by show 3 < 4; decide)
  have OB := heap_alloc_new W (.cells #[.slice ar nr cr] 25)
  have Fa : Frm (fun _ => False) W (W.alloc (.cells #[.slice ar nr cr] 25)) := Frm.of (World.grownBy_alloc W _ none) (fun k e _ => by cases e)
  have hXa := hX.frm Fa (fun _ _ h => h)
  have hza := Fa.size
  have hz0 := Fr.size
  have hgc : ∀ x, (Value.slice a7 k c7).ownBlock = some x → ∃ cs, (W.alloc (.cells #[.slice ar nr cr] 25)).heap[x]? = some (.cells cs 25) := fun x hx => (row_lt hXa.own hx).2
  refine wp_seq_k fun K9 hK9 => ?_
  have HK9 : Hid _ := hK9
  clear hK9
  go_wp2_with (refine wpList_psR _ Try.underlying24 Try.inf_sb rfl (by decide) (.slice ar nr cr) rfl rfl _ _ rfl a7 k c7 w0.heap.size V rfl hXa (by omega) W.heap.size rfl (cell_of_row _ _ 0 _ _ _ OB) (by omega) ?_; intro g7 d7 w9 hX9 g9 hx9)
  (try simp only [Exit.inBlock, Exit.then])
  refine HK9.out _ _ ?_
  clear HK9
  have F9 : Frm (fun k' => (Value.slice a7 k c7).ownBlock = some k') (W.alloc (.cells #[.slice ar nr cr] 25)) w9 := Frm.of g9 (fun k e _ => e)
  have F09 : Frm (fun k' => (Value.slice a7 k c7).ownBlock = some k') W w9 := (Fa.weak (q := fun k' => (Value.slice a7 k c7).ownBlock = some k') (fun _ _ h => h.elim)).trans F9 (fun _ _ h => h)
  have b9 : BxS w9 g 23 #[.int .i64 (r.L : Nat), .int .i64 (r.F : Nat), .int .i64 (r.H : Nat), .int .i64 (r.M : Nat)] := (F09.block _ b.lt (fun h => by
    obtain ⟨cs, e⟩ := hgc g h
    have e2 := (Fa.block g b.lt (fun h => h)).trans b
    exact cells_ne e e2 (by decide))).trans b
  have hP9 := (hP.add hr).frm F09 (fun h => h7 gc h rfl)
  have hps := hP9.rdps hX9
  have hfl9 : (Ps ++ [R]).flatten = B := by rw [List.flatten_append, ← hfl]; simp
  have hk9 : (Ps ++ [R]).length = k + 1 := hps.len
  have Fr9 : Frm (fun _ => False) w0 w9 := Fr.trans F09 (fun k' hk' h => by have := hX.new k' h; omega)
  have hL3 := fun w => listen_bad 0 0 0 0 none 0 0 w (by decide)
  have e1 : ruE 0 0 0 0 = 1 := by decide
  rw [e1] at hL3
  clear e1
  unfold ruZ at hL3
  have hcl := cut_all r (Ps ++ [R]) s0X
  rw [hfl9] at hcl
  have hlol := lo_last r R Ps s0X
  rw [hcl.2] at hlol
  have gA := World.grownBy_alloc w9 (.cells #[.slice a1 n1 c1] 25) none
  have OA := heap_alloc_new w9 (.cells #[.slice a1 n1 c1] 25)
  have FA : Frm (fun _ => False) w9 (w9.alloc (.cells #[.slice a1 n1 c1] 25)) := Frm.of gA (fun k e _ => by cases e)
  have hRB := Rd.keepF (p := fun _ => False) hR1 Fr9
  have hP1 : RdPs (w9.alloc (.cells #[.slice a1 n1 c1] 25)) (some ⟨w9.heap.size, 0, none⟩) 1 1 [B] := ⟨rfl, fun _ => ⟨w9.heap.size, 0, rfl, fun i Bi hi => by
    cases i with
    | zero =>
      have e : B = Bi := Option.some.inj hi
      subst e
      exact ⟨a1, n1, c1, cell_of_row _ _ 0 _ _ _ OA, Rd.keepF (p := fun _ => False) hRB FA⟩
    | succ i => cases hi⟩⟩
  have hLi1 := listen_any r (some ⟨w9.heap.size, 0, none⟩) 1 1 [B] (w9.alloc (.cells #[.slice a1 n1 c1] 25)) hP1 (by decide) (fun Bi h => by rw [List.mem_singleton.1 h]; omega) (by show B.length + 0 ≤ _; omega) hL1 hL2 hF8 hH12 hM8
  unfold ruV at hLi1
  have d0 : w9.cell? ⟨g, 0, none⟩ = some (.int .i64 (r.L : Nat)) := b9.cell 0 (by show 0 < 4; decide)
  have d1 : w9.cell? ⟨g, 1, none⟩ = some (.int .i64 (r.F : Nat)) := b9.cell 1 (by show 1 < 4; decide)
  have d2 : w9.cell? ⟨g, 2, none⟩ = some (.int .i64 (r.H : Nat)) := b9.cell 2 (by show 2 < 4; decide)
  have d3 : w9.cell? ⟨g, 3, none⟩ = some (.int .i64 (r.M : Nat)) := b9.cell 3 (by show 3 < 4; decide)
  have HCL : Hid _ := hcl
  have HLO : Hid _ := hlol
  have HFL : Hid _ := hfl9
  have HK9 : Hid _ := hk9
  have HPS : Hid _ := hps
  have HF9 : Hid _ := Fr9
  clear hcl hlol hfl9 hk9 hps Fr9 hP9 hX9 hP1 OA OB hR1 hRB hr hP hX hXa hx9 hgc h7 hfl b b9 Fa F9 F09 g9 hc0 hc1 hc2 hc3
  refine wp_seq_k fun K10 hK10 => ?_
  have HK10 : Hid _ := hK10
  clear hK10
  go_wp2_with (go_at_call 8; refine hLi1.mono ?_; rintro e w10 ⟨a4, a5, a6, c4, c5, c6, rfl, hLs1, g10⟩; have HL1 : Hid _ := hLs1; clear hLs1)
  (try simp only [Exit.inBlock, Exit.then])
  refine HK10.out _ _ ?_
  clear HK10
  have F10 : Frm (fun _ => False) w9 w10 := FA.trans (Frm.of (p := fun _ => False) g10 (fun k e _ => by cases e)) (fun _ _ h => h)
  replace d0 := cell_frm d0 F10 (fun h => h)
  replace d1 := cell_frm d1 F10 (fun h => h)
  replace d2 := cell_frm d2 F10 (fun h => h)
  replace d3 := cell_frm d3 F10 (fun h => h)
  have hLi2 := listen_any r (some ⟨g7, 0, none⟩) (k + 1) d7 (Ps ++ [R]) w10 (HPS.out.keepF F10) (by omega) (fun Bi h => by have := len_flat _ h; rw [HFL.out] at this; omega) (by rw [sumX_flat, HFL.out]; omega) hL1 hL2 hF8 hH12 hM8
  unfold ruV at hLi2
  clear gA FA g10 hLi1
  refine wp_seq_k fun K11 hK11 => ?_
  have HK11 : Hid _ := hK11
  clear hK11
  go_wp2_with (go_at_call 8; refine hLi2.mono ?_; rintro e w11 ⟨t4, t5, t6, ct, cu', cu, rfl, hLs2, g11⟩; have HL2 : Hid _ := hLs2; clear hLs2)
  (try simp only [Exit.inBlock, Exit.then])
  refine HK11.out _ _ ?_
  clear HK11
  have F11 : Frm (fun _ => False) w10 w11 := Frm.of g11 (fun k e _ => by cases e)
  refine wp_seq_k fun K12 hK12 => ?_
  have HK12 : Hid _ := hK12
  clear hK12
  go_wp2_with (go_at_call 8; refine (hL3 _).mono ?_; rintro e w12 ⟨rfl, g12⟩)
  (try simp only [Exit.inBlock, Exit.then])
  refine HK12.out _ _ ?_
  clear HK12
  have F12 : Frm (fun _ => False) w11 w12 := Frm.of g12 (fun k e _ => by cases e)
  have F1012 := F11.trans F12 (fun _ _ h => h)
  have F012 := (HF9.out.trans F10 (fun _ _ h => h)).trans F1012 (fun _ _ h => h)
  clear hLi2 hL3 g11 g12 d0 d1 d2 d3
  refine wp_seq_k fun K13 hK13 => ?_
  have HK13 : Hid _ := hK13
  clear hK13
  go_wp2
  (try simp only [Exit.inBlock, Exit.then])
  refine HK13.out _ _ ?_
  clear HK13
  refine wp_seq_k fun K15 hK15 => ?_
  have HK15 : Hid _ := hK15
  clear hK15
  go_wp2
  (try simp only [Exit.inBlock, Exit.then])
  refine HK15.out _ _ ?_
  clear HK15
  obtain ⟨V4, hX4, dv4, hO4⟩ := HL1.out.o
  obtain ⟨v4, hv4⟩ : ∃ v, V4 = [v] := List.length_eq_one_iff.1 hO4.1
  subst hv4
  obtain ⟨ys, av, cv, rfl, hown, hdat, hys⟩ := (hO4.2 0 _ _ rfl rfl).ex
  obtain ⟨p4, rfl⟩ : ∃ p4, a4 = some ⟨p4, 0, none⟩ := by
    rcases hX4.cases with ⟨_, h2, _⟩ | ⟨p4, h1, _⟩
    · omega
    · exact ⟨p4, h1⟩
  obtain ⟨p6, rfl⟩ : ∃ p6, a6 = some ⟨p6, 0, none⟩ := by
    rcases HL1.out.l.cases with ⟨_, h2, _⟩ | ⟨p6, h1, _⟩
    · omega
    · exact ⟨p6, h1⟩
  obtain ⟨Vb, hXb, dvb, hOb⟩ := HL2.out.o
  obtain ⟨q4, rfl⟩ : ∃ q4, t4 = some ⟨q4, 0, none⟩ := by
    rcases hXb.cases with ⟨_, h2, _⟩ | ⟨q4, h1, _⟩
    · omega
    · exact ⟨q4, h1⟩
  obtain ⟨q6, rfl⟩ : ∃ q6, t6 = some ⟨q6, 0, none⟩ := by
    rcases HL2.out.l.cases with ⟨_, h2, _⟩ | ⟨q6, h1, _⟩
    · omega
    · exact ⟨q6, h1⟩
  have hkl : Ps.length = k := by have := HK9.out; rw [List.length_append] at this; exact Nat.succ.inj this
  have hlo := HLO.out
  rw [hkl] at hlo
  have x0 : w10.cell? ⟨p6, 0, none⟩ = some (.bool ((tkX r s0X B B.length).1.mode != 0)) := HL1.out.l.cell 0 _ rfl
  have x1 : w11.cell? ⟨q6, k, none⟩ = some (.bool ((tkX r s0X B B.length).1.mode != 0)) := HL2.out.l.cell k _ (by rw [List.getElem?_map, hlo]; rfl)
  have hyl : ys.length ≤ 1048576 := by
    have h1 := congrArg List.length hys
    have h2 := tkX_len r s0X B B.length
    rw [List.length_map] at h1
    omega
  exact cu_17 w0 w12 g7 d7 p4 c4 p6 c6 q4 ct q6 cu (k + 1) k ys.length cv _ _ _ av dvb Vb (toX r s0X (Ps ++ [R])) ys rfl (cell_frm x0 F1012 (fun h => h)) (cell_frm x1 F12 (fun h => h)) (cell_frm (hX4.cell 0 _ rfl) F1012 (fun h => h)) hyl (by omega) (hXb.frm F12 (fun _ _ h => h)) (hOb.frm F12 (fun k hk _ => hk.elim)) (row_frm hown F1012 (fun _ _ h => h)) rfl (fun y h => (hdat y h).1.frm F1012 (fun _ _ h => h)) (hys.trans HCL.out.1.symm) F012
end Go.Proofs.Ythdjpbfknbafgaa
