import Derived.Test.YtdcfgaibppenaaaDoorSd15
namespace Go.Proofs.YtdcfgaibppenaaaDoor
open Go.RowKit
set_option maxRecDepth 100000
set_option linter.unusedVariables false
set_option linter.unusedSimpArgs false

section
open GF
def ppI (L : List Nat) : List Value := L.map fun (p : Nat) => Value.int .i64 (p : Int)
theorem ppI_at (L : List Nat) {i : Nat} (h : i < L.length) : (ppI L)[i]? = some (.int .i64 (nth L i : Nat)) := by
  unfold ppI nth
  rw [List.getElem?_map, List.getD_eq_getElem?_getD, List.getElem?_eq_getElem h]
  rfl
theorem bys_gl [Add GF] [Mul GF] [OfNat GF 0] [OfNat GF 1] [L : Nonempty GL] {T : List Nat} (h : IsB T) : bys T = gl (gn T) T.length := by
  apply List.ext_getElem?
  intro i
  by_cases hi : i < T.length
  · rw [gl_at _ hi]
    unfold bys
    rw [List.getElem?_map, List.getElem?_eq_getElem hi]
    have e : nth T i = T[i] := by unfold nth; rw [List.getD_eq_getElem?_getD, List.getElem?_eq_getElem hi]; rfl
    rw [gn_v h, e]
    rfl
  · rw [List.getElem?_eq_none (by unfold bys; rw [List.length_map]; omega), List.getElem?_eq_none (by rw [gl_len]; omega)]
theorem gl_congr [Add GF] [Mul GF] [OfNat GF 0] [OfNat GF 1] [L : Nonempty GL] {F G : Nat → GF} {n : Nat} (h : ∀ j, j < n → F j = G j) : gl F n = gl G n := by
  unfold gl
  exact List.map_congr_left fun j hj => by rw [h j (List.mem_range.1 hj)]
theorem gl_set [Add GF] [Mul GF] [OfNat GF 0] [OfNat GF 1] [L : Nonempty GL] (F : Nat → GF) (n k : Nat) (v : GF) : (gl F n).set k (.int .u8 (v.v : Int)) = gl (upd1 F k v) n := by
  apply List.ext_getElem?
  intro i
  by_cases hi : i < n
  · rw [gl_at _ hi, List.getElem?_set]
    unfold upd1
    by_cases e : k = i
    · subst e
      rw [if_pos rfl, if_pos rfl, if_pos (by rw [gl_len]; exact hi)]
    · rw [if_neg e, if_neg (fun e2 => e e2.symm)]
      exact gl_at _ hi
  · rw [List.getElem?_eq_none (by rw [List.length_set, gl_len]; omega), List.getElem?_eq_none (by rw [gl_len]; omega)]
/-- one cell of a row of the call's own is written -/
theorem wpList_stA {w : World} {ops : Array Oper} {rest : List Oper} {o : Oper} {a : Act} {Q : Exit → Act → World → Prop} (hg : o.guard = none) (t : TypeId) (p x : Operand) (hop : o.op = Op.store t p x)
    (g i lo n c : Nat) (e : TypeId) (X : List Value) (v : Value) (hp : a.eval p = .pointer (some ⟨g, i, none⟩)) (hx : a.eval x = v) (hA : AnsX e w lo (some ⟨g, 0, none⟩) n c X) (h1 : v.oneCell' = true)
    (hst : ∀ w' : World, (∃ u, w'.cell? ⟨g, i, none⟩ = some u) → w'.frozen? ⟨g, i, none⟩ = false → (Instr.storeAt t (.pointer (some ⟨g, i, none⟩)) v).run Tryd.prog w' = .ok () (w'.setCell ⟨g, i, none⟩ v)) (hi : i < X.length)
    (hK : ∀ w', AnsX e w' lo (some ⟨g, 0, none⟩) n c (X.set i v) → w.grownBy w' (some g) → wpList Tryd.prog ops Q rest (a.put o.dst undef) w') :
    wpList Tryd.prog ops Q (o :: rest) a w := by
  refine wpList_plain hg fun K hK' => ?_
  have hc : ∃ u, w.cell? ⟨g, i, none⟩ = some u := ⟨X[i], hA.cell i _ (List.getElem?_eq_getElem hi)⟩
  have hf := hA.free i
  unfold Oper.wp
  simp [execOp, hop, hp, hx, hst w hc hf, Result.andThen]
  exact hK' _ _ (hK _ (hA.set i v h1) (grown_set w g i v))
/-- freed of one hole, from the end down to k -/
def frP [Add GF] [Mul GF] [OfNat GF 0] [OfNat GF 1] [L : Nonempty GL] (x : GF) (τ : Nat → GF) (k : Nat) : Nat → GF := fun j => if j ≤ k then τ j else τ j + x * τ (j - 1)
theorem frP_step [Add GF] [Mul GF] [OfNat GF 0] [OfNat GF 1] [L : Nonempty GL] (x : GF) (τ : Nat → GF) (k k' : Nat) (hk : k = k' + 1) : upd1 (frP x τ k) k (τ k + x * τ k') = frP x τ k' := by
  funext j
  unfold upd1 frP
  by_cases h : j = k
  · rw [if_pos h, if_neg (by omega), h, show k - 1 = k' by omega]
  · rw [if_neg h]
    by_cases h2 : j ≤ k
    · rw [if_pos h2, if_pos (by omega)]
    · rw [if_neg h2, if_neg (by omega)]
theorem frP_end [Add GF] [Mul GF] [OfNat GF 0] [OfNat GF 1] [L : Nonempty GL] {T : List Nat} (hT : IsB T) (n h k : Nat) (hk : k < T.length) : frP (wt n h) (gn T) 0 k = gn (frS (pow2 ((n : Int) - 1 - h)) T) k := by
  apply GF.ext
  rw [gn_v (isB_frS (pow2_lt _) hT), nth_frS _ _ _ hk]
  unfold frP
  by_cases h0 : k = 0
  · rw [if_pos (by omega), if_pos h0, gn_v hT, h0]
  · rw [if_neg (by omega), if_neg h0, add_v, mul_v, gn_v hT, gn_v hT]
    rfl
theorem frL_snoc (n : Nat) (t Hs : List Nat) (h : Nat) : frL n t (Hs ++ [h]) = frS (pow2 ((n : Int) - 1 - h)) (frL n t Hs) := by
  unfold frL
  rw [List.foldl_append]
  rfl
set_option maxHeartbeats 16000000 in
theorem wa_t6 [Add GF] [Mul GF] [OfNat GF 0] [OfNat GF 1] [L : Nonempty GL] {u0 u3 u4 u5 u6 u7 u8 u9 u13 u14 u15 u16 u17 u18 u19 u20 u21 u22 u23 u24 u25 u26 u27 u28 u29 u30 u31 u32 u33 u34 u35 u36 u37 u38 u39 u40 u41 u42 u43 u44 u45 u46 u47 u48 u49 u50 u51 u52 u53 u54 u55 u56 u57 u58 u59 u60 u61 u62 u63 u64 u65 u66 u67 u68 u69 u70 u71 u72 u73 u74 u75 u76 u77 u78 u79 u80 u81 u82 u83 u84 u85 u86 u87 u88 u89 u90 u91 u92 u93 u94 u95 u96 u97 u98 u99 u100 u101 u102 u103 u104 u105 u106 u107 u108 u109 u110 u111 u112 u113 u114 u115 u116 u117 u118 u119 u120 u121 u122 u123 u124 u125 u126 u127 u128 u129 u130 u131 u132 u133 u134 u135 u136 u137 u138 u139 u140 u141 u142 u143 u144 u145 u146 u147 u148 u149 u150 u151 u152 u153 u154 u155 u156 u157 u158 u159 u160 u161 u162 u163 u164 u165 u166 u167 u168 u169 u170 : Value} (Q : Exit → Act → World → Prop) (hPn : ∀ c (a1 a2 : Act) w, a1.defers = a2.defers → Q (.panic c) a1 w → Q (.panic c) a2 w) (wB w : World) (GB : wB.grownBy w none) (lo n c gt ct i hb ho f ch : Nat) (hlo : wB.heap.size ≤ lo) (hn : n ≤ 255) (hc1 : 1 ≤ c) (hc : c ≤ 64) (T : List Nat) (hT : IsB T) (hTl : T.length = c) (hA : AnsX 5 w lo (some ⟨gt, 0, none⟩) c ct (gl (gn T) c)) (hi : i < f) (h : Nat) (hh : h < n) (hch : w.cell? ⟨hb, ho + i, none⟩ = some (.int .i64 (h : Int))) (hf : f ≤ 1000000)
    (hQ : ∀ v13 v14 v40 v41 v42 v43 v44 v45 v46 v47 v48 v49 v50 v51 v52 v53 v54 v55 v56 v57 v58 v59 v60 v61 v62 v63 v64 v65 v66 v67 v68 (w' : World), AnsX 5 w' lo (some ⟨gt, 0, none⟩) c ct (gl (gn (frS (pow2 ((n : Int) - 1 - h)) T)) c) → wB.grownBy w' none → Q .normal (Act.mk (List.toArray (u0 :: (.int .i64 (c : Int)) :: (.slice (some ⟨hb, ho, none⟩) f ch) :: u3 :: u4 :: u5 :: u6 :: u7 :: u8 :: u9 :: (.int .i64 (n : Int)) :: (.slice (some ⟨gt, 0, none⟩) c ct) :: (.int .i64 ((i : Int) + 1)) :: v13 :: v14 :: u15 :: u16 :: u17 :: u18 :: u19 :: u20 :: u21 :: u22 :: u23 :: u24 :: u25 :: u26 :: u27 :: u28 :: u29 :: u30 :: u31 :: u32 :: u33 :: u34 :: u35 :: u36 :: u37 :: u38 :: u39 :: v40 :: v41 :: v42 :: v43 :: v44 :: v45 :: v46 :: v47 :: v48 :: v49 :: v50 :: v51 :: v52 :: v53 :: v54 :: v55 :: v56 :: v57 :: v58 :: v59 :: v60 :: v61 :: v62 :: v63 :: v64 :: v65 :: v66 :: v67 :: v68 :: u69 :: u70 :: u71 :: u72 :: u73 :: u74 :: u75 :: u76 :: u77 :: u78 :: u79 :: u80 :: u81 :: u82 :: u83 :: u84 :: u85 :: u86 :: u87 :: u88 :: u89 :: u90 :: u91 :: u92 :: u93 :: u94 :: u95 :: u96 :: u97 :: u98 :: u99 :: u100 :: u101 :: u102 :: u103 :: u104 :: u105 :: u106 :: u107 :: u108 :: u109 :: u110 :: u111 :: u112 :: u113 :: u114 :: u115 :: u116 :: u117 :: u118 :: u119 :: u120 :: u121 :: u122 :: u123 :: u124 :: u125 :: u126 :: u127 :: u128 :: u129 :: u130 :: u131 :: u132 :: u133 :: u134 :: u135 :: u136 :: u137 :: u138 :: u139 :: u140 :: u141 :: u142 :: u143 :: u144 :: u145 :: u146 :: u147 :: u148 :: u149 :: u150 :: u151 :: u152 :: u153 :: u154 :: u155 :: u156 :: u157 :: u158 :: u159 :: u160 :: u161 :: u162 :: u163 :: u164 :: u165 :: u166 :: u167 :: u168 :: u169 :: u170 :: [])) []) w') :
    Code.wp Tryd.prog (tailR 6 (Tryd.f10.body.getD .skip)) Q (Act.mk (List.toArray (u0 :: (.int .i64 (c : Int)) :: (.slice (some ⟨hb, ho, none⟩) f ch) :: u3 :: u4 :: u5 :: u6 :: u7 :: u8 :: u9 :: (.int .i64 (n : Int)) :: (.slice (some ⟨gt, 0, none⟩) c ct) :: (.int .i64 (i : Int)) :: u13 :: u14 :: u15 :: u16 :: u17 :: u18 :: u19 :: u20 :: u21 :: u22 :: u23 :: u24 :: u25 :: u26 :: u27 :: u28 :: u29 :: u30 :: u31 :: u32 :: u33 :: u34 :: u35 :: u36 :: u37 :: u38 :: u39 :: u40 :: u41 :: u42 :: u43 :: u44 :: u45 :: u46 :: u47 :: u48 :: u49 :: u50 :: u51 :: u52 :: u53 :: u54 :: u55 :: u56 :: u57 :: u58 :: u59 :: u60 :: u61 :: u62 :: u63 :: u64 :: u65 :: u66 :: u67 :: u68 :: u69 :: u70 :: u71 :: u72 :: u73 :: u74 :: u75 :: u76 :: u77 :: u78 :: u79 :: u80 :: u81 :: u82 :: u83 :: u84 :: u85 :: u86 :: u87 :: u88 :: u89 :: u90 :: u91 :: u92 :: u93 :: u94 :: u95 :: u96 :: u97 :: u98 :: u99 :: u100 :: u101 :: u102 :: u103 :: u104 :: u105 :: u106 :: u107 :: u108 :: u109 :: u110 :: u111 :: u112 :: u113 :: u114 :: u115 :: u116 :: u117 :: u118 :: u119 :: u120 :: u121 :: u122 :: u123 :: u124 :: u125 :: u126 :: u127 :: u128 :: u129 :: u130 :: u131 :: u132 :: u133 :: u134 :: u135 :: u136 :: u137 :: u138 :: u139 :: u140 :: u141 :: u142 :: u143 :: u144 :: u145 :: u146 :: u147 :: u148 :: u149 :: u150 :: u151 :: u152 :: u153 :: u154 :: u155 :: u156 :: u157 :: u158 :: u159 :: u160 :: u161 :: u162 :: u163 :: u164 :: u165 :: u166 :: u167 :: u168 :: u169 :: u170 :: [])) []) w := by
  conv => enter [2]; whnf
  have HQ : Hid _ := hQ
  have HA0 : Hid _ := hA
  have lif : (i : Int) < (f : Int) := by omega
  have hgt := Nat.le_trans hlo (hA.new gt rfl)
  have HEND : Hid (∀ k, k < c → frP (wt n h) (gn T) 0 k = gn (frS (pow2 ((n : Int) - 1 - h)) T) k) := fun k hk => frP_end hT n h k (by omega)
  have HPW : Hid _ := rpower_any ((n : Int) - 1 - h) w (by omega) (by omega)
  have hpv : pow2 ((n : Int) - 1 - h) = (wt n h).v := rfl
  rw [hpv] at HPW
  have HT0 : Hid _ := frP_step (wt n h) (gn T)
  obtain ⟨τ, hτ⟩ : ∃ τ, gn T = τ := ⟨_, rfl⟩
  rw [hτ] at HA0 HEND HT0
  clear hQ hA hT hTl hpv hτ
  generalize wt n h = x at *
  refine wp_seq_k fun K0 hK0 => ?_
  have HK0 : Hid _ := hK0
  clear hK0
  refine wp_block ?_
  refine wp_seq_k fun K1 hK1 => ?_
  have HK1 : Hid _ := hK1
  clear hK1
  go_wp2_with (go_at_call 25; refine Calls.mono HPW.out ?_; rintro e wx ⟨rfl, hwx⟩; rw [hwx]; clear hwx)
  refine HK1.out _ _ ?_
  clear HK1
  refine wp_seq_k fun K2 hK2 => ?_
  have HK2 : Hid _ := hK2
  clear hK2
  go_wp2
  refine HK2.out _ _ ?_
  clear HK2
  refine wp_block ?_
  go_loopw [14] (fun v14 wr => ∃ k : Nat, k < c ∧ v14 = .int .i64 k ∧ AnsX 5 wr lo (some ⟨gt, 0, none⟩) c ct (gl (frP x τ k) c) ∧ wB.grownBy wr none) (fun v14 _ => (intOf v14).toNat)
  case atStart => exact ⟨c - 1, by omega, by go_num, by rw [gl_congr (G := τ) (fun j hj => by unfold frP; rw [if_pos (by omega)])]; exact HA0.out, GB⟩
  case round =>
    obtain ⟨k, hkc, rfl, hAk, GR⟩ := hrel
    have HA : Hid _ := hAk
    clear hAk
    by_cases hk0 : 0 < k
    · have lk0 : (0 : Int) < (k : Int) := by omega
      have lkc : (k : Int) < (c : Int) := by omega
      obtain ⟨j, hj⟩ : ∃ j, k = j + 1 := ⟨k - 1, by omega⟩
      have HJ : Hid ((k : Int) = (j : Int) + 1) := by show (k : Int) = (j : Int) + 1; omega
      have ljc : (j : Int) < (c : Int) := by omega
      have e1 := HA.out.cell k _ (gl_at _ hkc)
      have e2 := HA.out.cell j _ (gl_at _ (show j < c by omega))
      rw [show frP x τ k k = τ k from if_pos (Nat.le_refl _)] at e1
      rw [show frP x τ k j = τ j from if_pos (by omega)] at e2
      have HST : Hid _ := HT0.out k j hj
      have HJC : Hid (j < c) := by show j < c; omega
      clear hj
      generalize τ k = y at *
      generalize τ j = z at *
      refine wp_seq_k fun K3 hK3 => ?_
      have HK3 : Hid _ := hK3
      clear hK3
      go_wp2
      refine HK3.out _ _ ?_
      clear HK3
      refine wp_seq_k fun K4 hK4 => ?_
      have HK4 : Hid _ := hK4
      clear hK4
      refine wp_block ?_
      have Gd := grown_drew wr none
      have SS : wr.drew.cell? ⟨gt, k, none⟩ = some (.int .u8 (y.v : Int)) ∧ wr.drew.cell? ⟨gt, j, none⟩ = some (.int .u8 (z.v : Int)) := ⟨cell_drew _ e1, cell_drew _ e2⟩
      refine wp_regionM (fun wz => wz.cell? ⟨gt, k, none⟩ = some (.int .u8 (y.v : Int)) ∧ wz.cell? ⟨gt, j, none⟩ = some (.int .u8 (z.v : Int))) [13] #[false, false, false, false, false, false, false, false, false, false, false, false, false, false] rfl (by kernel_rfl) ?_
      generalize wr.drew = wd at *
      refine wpAnyY_takeF 0 (.slice (some ⟨gt, 0, none⟩) c ct) rfl (by kernel_rfl) (fun _ _ _ h => hPn _ _ _ _ (by rfl) h) rfl (by intro wz; go_simp; try rfl) ?_
      try simp only [List.getElem_toArray, List.getElem_cons_succ, List.getElem_cons_zero, Act.put, List.setIfInBounds_toArray, List.set_cons_zero, List.set_cons_succ]
      refine wpAnyY_takeF 1 (.int .i64 (k : Int)) rfl (by kernel_rfl) (fun _ _ _ h => hPn _ _ _ _ (by rfl) h) rfl (by intro wz; go_simp; try rfl) ?_
      try simp only [List.getElem_toArray, List.getElem_cons_succ, List.getElem_cons_zero, Act.put, List.setIfInBounds_toArray, List.set_cons_zero, List.set_cons_succ]
      refine wpAnyY_takeF 2 (.pointer (some ⟨gt, k, none⟩)) rfl (by kernel_rfl) (fun _ _ _ h => hPn _ _ _ _ (by rfl) h) rfl (by intro wz; go_simp; try rfl) ?_
      try simp only [List.getElem_toArray, List.getElem_cons_succ, List.getElem_cons_zero, Act.put, List.setIfInBounds_toArray, List.set_cons_zero, List.set_cons_succ]
      refine wpAnyY_take [13] 3 (.int .u8 (y.v : Int)) rfl (by kernel_rfl) (fun _ _ _ h => hPn _ _ _ _ (by rfl) h) SS rfl (by rintro wz ⟨z1, z2⟩; go_simp) ?_
      try simp only [List.getElem_toArray, List.getElem_cons_succ, List.getElem_cons_zero, Act.put, List.setIfInBounds_toArray, List.set_cons_zero, List.set_cons_succ]
      refine wpAnyY_takeF 4 (.int .u8 (x.v : Int)) rfl (by kernel_rfl) (fun _ _ _ h => hPn _ _ _ _ (by rfl) h) rfl (by intro wz; go_simp; try rfl) ?_
      try simp only [List.getElem_toArray, List.getElem_cons_succ, List.getElem_cons_zero, Act.put, List.setIfInBounds_toArray, List.set_cons_zero, List.set_cons_succ]
      refine wpAnyY_takeF 5 (.slice (some ⟨gt, 0, none⟩) c ct) rfl (by kernel_rfl) (fun _ _ _ h => hPn _ _ _ _ (by rfl) h) rfl (by intro wz; go_simp; try rfl) ?_
      try simp only [List.getElem_toArray, List.getElem_cons_succ, List.getElem_cons_zero, Act.put, List.setIfInBounds_toArray, List.set_cons_zero, List.set_cons_succ]
      refine wpAnyY_takeF 6 (.int .i64 (k : Int)) rfl (by kernel_rfl) (fun _ _ _ h => hPn _ _ _ _ (by rfl) h) rfl (by intro wz; go_simp; try rfl) ?_
      try simp only [List.getElem_toArray, List.getElem_cons_succ, List.getElem_cons_zero, Act.put, List.setIfInBounds_toArray, List.set_cons_zero, List.set_cons_succ]
      refine wpAnyY_takeF 7 (.int .i64 (j : Int)) rfl (by kernel_rfl) (fun _ _ _ h => hPn _ _ _ _ (by rfl) h) rfl (by intro wz; go_simp; first | done | (rw [IntKind.wrap_i64]; have := HJ.out; omega)) ?_
      try simp only [List.getElem_toArray, List.getElem_cons_succ, List.getElem_cons_zero, Act.put, List.setIfInBounds_toArray, List.set_cons_zero, List.set_cons_succ]
      refine wpAnyY_takeF 8 (.pointer (some ⟨gt, j, none⟩)) rfl (by kernel_rfl) (fun _ _ _ h => hPn _ _ _ _ (by rfl) h) rfl (by intro wz; go_simp; try rfl) ?_
      try simp only [List.getElem_toArray, List.getElem_cons_succ, List.getElem_cons_zero, Act.put, List.setIfInBounds_toArray, List.set_cons_zero, List.set_cons_succ]
      refine wpAnyY_take [13] 9 (.int .u8 (z.v : Int)) rfl (by kernel_rfl) (fun _ _ _ h => hPn _ _ _ _ (by rfl) h) SS rfl (by rintro wz ⟨z1, z2⟩; go_simp) ?_
      try simp only [List.getElem_toArray, List.getElem_cons_succ, List.getElem_cons_zero, Act.put, List.setIfInBounds_toArray, List.set_cons_zero, List.set_cons_succ]
      refine wpAnyY_oneB 10 rfl (by kernel_rfl) (fun KK hKK => ?_)
      go_simp
      go_at_call 26
      refine (gmul_any x z _).mono ?_
      rintro e wx ⟨rfl, hwx⟩
      dsimp only
      rw [hwx]
      clear hwx wx
      refine hKK _ _ (fun h _ => h) ?_
      try simp only [List.getElem_toArray, List.getElem_cons_succ, List.getElem_cons_zero, Act.put, List.setIfInBounds_toArray, List.set_cons_zero, List.set_cons_succ]
      refine wpAnyY_takeF 11 (.int .u8 ((y + (x * z) : GF).v : Int)) rfl (by kernel_rfl) (fun _ _ _ h => hPn _ _ _ _ (by rfl) h) rfl (by intro wz; go_simp; first | done | ((rw [u8_xor_nat _ _ (GF.h _) (GF.h _), add_v]) <;> first | done | rfl)) ?_
      try simp only [List.getElem_toArray, List.getElem_cons_succ, List.getElem_cons_zero, Act.put, List.setIfInBounds_toArray, List.set_cons_zero, List.set_cons_succ]
      refine wpAnyY_takeF 12 (.pointer (some ⟨gt, k, none⟩)) rfl (by kernel_rfl) (fun _ _ _ h => hPn _ _ _ _ (by rfl) h) rfl (by intro wz; go_simp; try rfl) ?_
      try simp only [List.getElem_toArray, List.getElem_cons_succ, List.getElem_cons_zero, Act.put, List.setIfInBounds_toArray, List.set_cons_zero, List.set_cons_succ]
      have hAd := HA.out.keep Gd
      refine wpAnyY_oneB 13 rfl (by kernel_rfl) (fun KK hKK => ?_)
      refine step_of_listR rfl ?_
      refine wpList_stA rfl _ _ _ rfl gt k lo c ct 5 _ (.int .u8 ((y + x * z : GF).v : Int)) rfl rfl hAd rfl (fun w' hc hf => stc_u8 _ _ _ w' hc hf) (by rw [gl_len]; exact hkc) ?_
      intro w5 hA5 g5
      show KK _ w5
      refine hKK _ _ (fun _ h => absurd (by decide) h) ?_
      try simp only [List.getElem_toArray, List.getElem_cons_succ, List.getElem_cons_zero, Act.put, List.setIfInBounds_toArray, List.set_cons_zero, List.set_cons_succ]
      refine wpAnyY_doneB (by kernel_rfl) ?_ _
      rw [gl_set, HST.out] at hA5
      have G5 := grown_far (grown_trans GR Gd) g5 (fun z9 e => by have e := Option.some.inj e; subst e; exact hgt)
      have HA5 : Hid _ := hA5
      clear hA5 hAd g5 HST e1 e2
      (try simp only [Exit.inBlock, Exit.then])
      refine HK4.out _ _ ?_
      clear HK4
      go_wp2
      go_roundw
      case rel => exact ⟨j, HJC.out, by have := HJ.out; go_num, HA5.out, G5⟩
      case measure => have := HJ.out; simp [intOf] <;> omega
    · have lk0 : ¬ (0 : Int) < (k : Int) := by omega
      have hA9 : Hid (AnsX 5 wr lo (some ⟨gt, 0, none⟩) c ct (gl (gn (frS (pow2 ((n : Int) - 1 - h)) T)) c)) := by
        show AnsX 5 wr lo (some ⟨gt, 0, none⟩) c ct _
        have h9 := HA.out
        rw [show k = 0 by omega, gl_congr HEND.out] at h9
        exact h9
      clear HA hk0
      go_wp2
      (try simp only [Exit.inBlock, Exit.then])
      refine HK0.out _ _ ?_
      clear HK0
      go_wp2
      exact HQ.out _ _ _ _ _ _ _ _ _ _ _ _ _ _ _ _ _ _ _ _ _ _ _ _ _ _ _ _ _ _ _ wr hA9.out GR
end

section
open GF
set_option maxHeartbeats 16000000 in
theorem wa_t17 [Add GF] [Mul GF] [OfNat GF 0] [OfNat GF 1] [L : Nonempty GL] {u0 u1 u2 u4 u5 u6 u7 u8 u9 u10 u12 u13 u14 u19 u20 u21 u22 u23 u24 u25 u26 u27 u28 u29 u30 u31 u32 u33 u34 u35 u36 u37 u38 u39 u40 u41 u42 u43 u44 u45 u46 u47 u48 u49 u50 u51 u52 u53 u54 u55 u56 u57 u58 u59 u60 u61 u62 u63 u64 u65 u66 u67 u68 u69 u70 u71 u72 u73 u74 u75 u76 u77 u78 u79 u80 u81 u82 u83 u84 u85 u86 u87 u88 u89 u90 u91 u92 u93 u94 u95 u96 u97 u98 u99 u100 u101 u102 u103 u104 u105 u106 u107 u108 u109 u110 u111 u112 u113 u114 u115 u116 u117 u118 u119 u120 u121 u122 u123 u124 u125 u126 u127 u128 u129 u130 u131 u132 u133 u134 u135 u136 u137 u138 u139 u140 u141 u142 u143 u144 u145 u146 u147 u148 u149 u150 u151 u152 u153 u154 u155 u156 u157 u158 u159 u160 u161 u162 u163 u164 u165 u166 u167 u168 u169 u170 : Value} (Q : Exit → Act → World → Prop) (hPn : ∀ c (a1 a2 : Act) w, a1.defers = a2.defers → Q (.panic c) a1 w → Q (.panic c) a2 w) (wB w : World) (GB : wB.grownBy w none) (c gt ct e f q : Nat) (hf : f ≤ 64) (hc : c ≤ 64) (hec : 2 * e + f ≤ c) (hq : q < e) (τ : Nat → GF) (hT : ∀ w', wB.grownBy w' none → AnsX 5 w' 0 (some ⟨gt, 0, none⟩) c ct (gl τ c)) (ρ cr : Nat → Nat) (am ab : Option Addr) (cm cb : Nat)
    (hB : Bld w wB.heap.size e q ρ cr (fun a j => τ (f + e + a - 1 - j)) (fun a => τ (f + e + a)) am cm ab cb)
    (hQ : ∀ v19 v20 v80 v81 v82 v83 v84 v85 v86 v87 v88 v89 v90 v91 v92 v93 v94 v95 v96 v97 v98 v99 v100 v101 v102 v103 v104 v105 v106 (ρ' cr' : Nat → Nat) (am' ab' : Option Addr) (cm' cb' : Nat) (w' : World), Bld w' wB.heap.size e (q + 1) ρ' cr' (fun a j => τ (f + e + a - 1 - j)) (fun a => τ (f + e + a)) am' cm' ab' cb' → wB.grownBy w' none → Q .normal (Act.mk (List.toArray (u0 :: u1 :: u2 :: (.int .i64 (e : Int)) :: u4 :: u5 :: u6 :: u7 :: u8 :: u9 :: u10 :: (.slice (some ⟨gt, 0, none⟩) c ct) :: u12 :: u13 :: u14 :: (.int .i64 (f : Int)) :: (.slice am' (q + 1) cm') :: (.slice ab' (q + 1) cb') :: (.int .i64 ((f : Int) + (e : Int) + (q : Int) + 1)) :: v19 :: v20 :: u21 :: u22 :: u23 :: u24 :: u25 :: u26 :: u27 :: u28 :: u29 :: u30 :: u31 :: u32 :: u33 :: u34 :: u35 :: u36 :: u37 :: u38 :: u39 :: u40 :: u41 :: u42 :: u43 :: u44 :: u45 :: u46 :: u47 :: u48 :: u49 :: u50 :: u51 :: u52 :: u53 :: u54 :: u55 :: u56 :: u57 :: u58 :: u59 :: u60 :: u61 :: u62 :: u63 :: u64 :: u65 :: u66 :: u67 :: u68 :: u69 :: u70 :: u71 :: u72 :: u73 :: u74 :: u75 :: u76 :: u77 :: u78 :: u79 :: v80 :: v81 :: v82 :: v83 :: v84 :: v85 :: v86 :: v87 :: v88 :: v89 :: v90 :: v91 :: v92 :: v93 :: v94 :: v95 :: v96 :: v97 :: v98 :: v99 :: v100 :: v101 :: v102 :: v103 :: v104 :: v105 :: v106 :: u107 :: u108 :: u109 :: u110 :: u111 :: u112 :: u113 :: u114 :: u115 :: u116 :: u117 :: u118 :: u119 :: u120 :: u121 :: u122 :: u123 :: u124 :: u125 :: u126 :: u127 :: u128 :: u129 :: u130 :: u131 :: u132 :: u133 :: u134 :: u135 :: u136 :: u137 :: u138 :: u139 :: u140 :: u141 :: u142 :: u143 :: u144 :: u145 :: u146 :: u147 :: u148 :: u149 :: u150 :: u151 :: u152 :: u153 :: u154 :: u155 :: u156 :: u157 :: u158 :: u159 :: u160 :: u161 :: u162 :: u163 :: u164 :: u165 :: u166 :: u167 :: u168 :: u169 :: u170 :: [])) []) w') :
    Code.wp Tryd.prog (tailR 17 (Tryd.f10.body.getD .skip)) Q (Act.mk (List.toArray (u0 :: u1 :: u2 :: (.int .i64 (e : Int)) :: u4 :: u5 :: u6 :: u7 :: u8 :: u9 :: u10 :: (.slice (some ⟨gt, 0, none⟩) c ct) :: u12 :: u13 :: u14 :: (.int .i64 (f : Int)) :: (.slice am q cm) :: (.slice ab q cb) :: (.int .i64 ((f : Int) + (e : Int) + (q : Int))) :: u19 :: u20 :: u21 :: u22 :: u23 :: u24 :: u25 :: u26 :: u27 :: u28 :: u29 :: u30 :: u31 :: u32 :: u33 :: u34 :: u35 :: u36 :: u37 :: u38 :: u39 :: u40 :: u41 :: u42 :: u43 :: u44 :: u45 :: u46 :: u47 :: u48 :: u49 :: u50 :: u51 :: u52 :: u53 :: u54 :: u55 :: u56 :: u57 :: u58 :: u59 :: u60 :: u61 :: u62 :: u63 :: u64 :: u65 :: u66 :: u67 :: u68 :: u69 :: u70 :: u71 :: u72 :: u73 :: u74 :: u75 :: u76 :: u77 :: u78 :: u79 :: u80 :: u81 :: u82 :: u83 :: u84 :: u85 :: u86 :: u87 :: u88 :: u89 :: u90 :: u91 :: u92 :: u93 :: u94 :: u95 :: u96 :: u97 :: u98 :: u99 :: u100 :: u101 :: u102 :: u103 :: u104 :: u105 :: u106 :: u107 :: u108 :: u109 :: u110 :: u111 :: u112 :: u113 :: u114 :: u115 :: u116 :: u117 :: u118 :: u119 :: u120 :: u121 :: u122 :: u123 :: u124 :: u125 :: u126 :: u127 :: u128 :: u129 :: u130 :: u131 :: u132 :: u133 :: u134 :: u135 :: u136 :: u137 :: u138 :: u139 :: u140 :: u141 :: u142 :: u143 :: u144 :: u145 :: u146 :: u147 :: u148 :: u149 :: u150 :: u151 :: u152 :: u153 :: u154 :: u155 :: u156 :: u157 :: u158 :: u159 :: u160 :: u161 :: u162 :: u163 :: u164 :: u165 :: u166 :: u167 :: u168 :: u169 :: u170 :: [])) []) w := by
  conv => enter [2]; whnf
  have HQ : Hid _ := hQ
  have HB : Hid _ := hB
  have HT : Hid _ := hT
  clear hQ hB hT
  refine wp_seq_k fun K0 hK0 => ?_
  have HK0 : Hid _ := hK0
  clear hK0
  refine wp_block ?_
  refine wp_seq_k fun K1 hK1 => ?_
  have HK1 : Hid _ := hK1
  clear hK1
  go_wp2
  refine HK1.out _ _ ?_
  clear HK1
  refine wp_seq_k fun K2 hK2 => ?_
  have HK2 : Hid _ := hK2
  clear hK2
  go_wp2
  go_loopw [19, 20] (fun v19 v20 wr => ∃ (j : Nat) (ar : Option Addr) (ca : Nat), j ≤ e ∧ v20 = .int .i64 ((j : Int) + 1) ∧ v19 = .slice ar j ca ∧ AnsX 5 wr w.heap.size ar j ca (gl (fun j => τ (f + e + q - 1 - j)) j) ∧ w.grownBy wr none) (fun _ v20 _ => e + 1 - (intOf v20).toNat)
  case atStart => exact ⟨0, none, 0, Nat.zero_le _, rfl, rfl, AnsX.nil0 _ _ _, World.grownBy.refl _ _⟩
  case round =>
    obtain ⟨j, ar, ca, hj', rfl, rfl, hA, GR⟩ := hrel
    by_cases hj : j < e
    · have ljj : (j : Int) + 1 ≤ (e : Int) := by omega
      obtain ⟨k, hk⟩ : ∃ k, k = f + e + q - 1 - j := ⟨_, rfl⟩
      have HK : Hid ((f : Int) + (e : Int) + (q : Int) - ((j : Int) + 1) = (k : Int)) := by show _ = _; omega
      have lkc : (k : Int) < (c : Int) := by omega
      have e1 := (HT.out wr (grown_trans GB GR)).cell k _ (gl_at τ (show k < c by omega))
      have HV : Hid (gl (fun j => τ (f + e + q - 1 - j)) j ++ [.int .u8 ((τ k).v : Int)] = gl (fun j => τ (f + e + q - 1 - j)) (j + 1)) := by
        show _ = _
        rw [hk]
        exact gl_succ (fun j => τ (f + e + q - 1 - j)) j
      have HAL : Hid _ := hA
      have hgr := GR.size
      have HKE : Hid ((f : Int) + (e : Int) + (q : Int) - ((j : Int) + 1) = (k : Int)) := HK.out
      have hkk : (f : Int) + (e : Int) + (q : Int) - ((j : Int) + 1) = (k : Int) := HK.out
      clear hA hk HK HKE
      generalize τ k = x at *
      refine wp_seq_k fun K3 hK3 => ?_
      have HK3 : Hid _ := hK3
      clear hK3
      go_wp2
      refine HK3.out _ _ ?_
      clear HK3
      refine wp_seq_k fun K4 hK4 => ?_
      have HK4 : Hid _ := hK4
      clear hK4
      refine wp_block ?_
      go_wp2_with (at_builtin; refine wpList_psX Tryd.elU wr (.int .u8 (x.v : Int)) rfl rfl _ _ rfl ar j ca w.heap.size _ rfl HAL.out hgr rfl (by omega) ?_; intro gx cx w6 hA6 g6 hx6)
      rw [HV.out] at hA6
      have G6 := grown_far GR g6 (fun y e => HAL.out.new y e)
      have HA6 : Hid _ := hA6
      clear hA6 HAL HV e1 g6 hx6 hkk
      (try simp only [Exit.inBlock, Exit.then])
      refine HK4.out _ _ ?_
      clear HK4
      go_wp2
      go_roundw
      case rel => exact ⟨j + 1, _, cx, by omega, by go_num, rfl, HA6.out, G6⟩
      case measure => simp [intOf] <;> omega
    · have ljj : ¬ (j : Int) + 1 ≤ (e : Int) := by omega
      have HA9 : Hid (AnsX 5 wr w.heap.size ar e ca (gl (fun j => τ (f + e + q - 1 - j)) e)) := by
        have : j = e := by omega
        rw [this] at hA
        exact hA
      have HJE : Hid (j = e) := by show j = e; omega
      clear hA hj hj'
      go_wp2
      (try simp only [Exit.inBlock, Exit.then])
      refine HK2.out _ _ ?_
      clear HK2
      rw [HJE.out]
      clear HJE ljj
      rcases HA9.out.cases with ⟨_, h0, _⟩ | ⟨g, hg, _, _⟩
      · omega
      have HROW : Hid _ := HA9.out
      rw [hg] at HROW
      subst hg
      have hm := HB.out.m.keep GR
      have hlo : wB.heap.size ≤ wr.heap.size := (grown_trans GB GR).size
      have HBR : Hid _ := HB.out.b
      refine wp_seq_k fun K3 hK3 => ?_
      have HK3 : Hid _ := hK3
      clear hK3
      go_wp2_with (at_builtin; refine wpList_psL wr (some ⟨g, 0, none⟩) e ca rfl _ _ rfl am q cm wB.heap.size _ rfl hm hlo rfl (by omega) ?_; intro gx cx w6 hA6 g6 hx6)
      refine HK3.out _ _ ?_
      clear HK3
      have G6 : wB.grownBy w6 none := grown_far (grown_trans GB GR) g6 (fun y e => HB.out.m.new y e)
      have hkb : (f : Int) + (e : Int) + (q : Int) < (c : Int) := by omega
      have e1 := (HT.out w6 G6).cell (f + e + q) _ (gl_at τ (show f + e + q < c by omega))
      have e1' : w6.cell? ⟨gt, f + e + q, none⟩ = some (.int .u8 ((τ (f + e + q)).v : Int)) := e1
      clear e1
      have hb6 : AnsX 5 w6 wB.heap.size ab q cb (gl (fun a => τ (f + e + a)) q) := (HBR.out.keep GR).kR g6 (fun y e1 e2 => by
        obtain ⟨t, cs, b1, e3⟩ := hm.tyR y e2
        exact (HBR.out.keep GR).bxR b1 (by rw [e3]; decide) e1)
      have HPU : Hid (∀ (w8 : World) (gb8 c8 : Nat), AnsX 5 w8 wB.heap.size (some ⟨gb8, 0, none⟩) (q + 1) c8 (gl (fun a => τ (f + e + a)) q ++ [.int .u8 ((τ (f + e + q)).v : Int)]) → w6.grownBy w8 (Value.slice ab q cb).ownBlock → ((Value.slice ab q cb).ownBlock = some gb8 ∨ w6.heap.size ≤ gb8) → Bld w8 wB.heap.size e (q + 1) (fun i => if i = q then g else ρ i) (fun i => if i = q then ca else cr i) (fun a j => τ (f + e + a - 1 - j)) (fun a => τ (f + e + a)) (some ⟨gx, 0, none⟩) cx (some ⟨gb8, 0, none⟩) c8) := fun w8 gb8 c8 h1 h2 h3 =>
        HB.out.push GB.size GR HROW.out hA6 g6 h1 h2 h3
      have HKX : Hid (∃ k, k = f + e + q) := ⟨_, rfl⟩
      obtain ⟨k, hk⟩ := HKX.out
      have hk2 : (f : Int) + (e : Int) + (q : Int) = (k : Int) := by omega
      rw [← hk] at e1' HPU
      have HK2 : Hid ((f : Int) + (e : Int) + (q : Int) = (k : Int)) := hk2
      have lkc : (k : Int) < (c : Int) := by omega
      have hlo6 := G6.size
      clear hk HKX hkb hA6 g6 hx6 HROW HA9 HBR
      generalize τ k = x at *
      rw [hk2]
      clear hk2
      go_wp2_with (at_builtin; refine wpList_psX Tryd.elU w6 (.int .u8 (x.v : Int)) rfl rfl _ _ rfl ab q cb wB.heap.size _ rfl hb6 hlo6 rfl (by omega) ?_; intro gb8 c8 w8 hA8 g8 hx8)
      have HB8 : Hid _ := HPU.out w8 gb8 c8 hA8 g8 hx8
      have G8 : wB.grownBy w8 none := grown_far G6 g8 (fun y e => hb6.new y e)
      clear hA8 g8 hx8 HPU hb6 e1' hm
      (try simp only [Exit.inBlock, Exit.then])
      refine HK0.out _ _ ?_
      clear HK0
      go_wp2
      rw [← HK2.out]
      exact HQ.out _ _ _ _ _ _ _ _ _ _ _ _ _ _ _ _ _ _ _ _ _ _ _ _ _ _ _ _ _ _ _ _ _ _ _ w8 HB8.out G8
end

section
open GF
set_option maxHeartbeats 16000000 in
theorem md_t10 [Add GF] [Mul GF] [OfNat GF 0] [OfNat GF 1] [L : Nonempty GL] {u1 u3 u4 u5 u6 u7 u13 u14 u15 u16 u17 u18 u19 u20 u21 u22 u23 u24 u25 u26 u27 u28 u29 u30 u31 u32 u33 u34 u35 u36 u37 u38 u39 u40 u41 u42 u43 u44 u45 u46 u47 u48 u49 u50 u51 u52 u53 u54 u55 u56 u57 u58 u59 u60 u61 u62 u63 u64 u65 u66 u67 u68 u69 u70 u71 u72 u73 u74 u75 u76 u77 u78 u79 u80 u81 u82 u83 u84 u85 u86 u87 u88 u89 u90 u91 u92 u93 u94 u95 u96 u97 u98 u99 u100 u101 u102 u103 u104 u105 u106 : Value} (Q : Exit → Act → World → Prop) (hPn : ∀ c (a1 a2 : Act) w, a1.defers = a2.defers → Q (.panic c) a1 w → Q (.panic c) a2 w) (wB w : World) (GB : wB.grownBy w none) (a : Option Addr) (n cap c gs cs d q : Nat) (hn : n ≤ 255) (hc : c ≤ 64) (hdc : d ≤ c) (hq : q < d) (σ : Nat → GF) (hS : ∀ w', wB.grownBy w' none → AnsX 5 w' 0 (some ⟨gs, 0, none⟩) c cs (gl σ c)) (A : List Nat) (hAl : A.length = d) (hAn : ∀ p, p ∈ A → p < n) (ab_ ao_ cA : Nat) (hA : ∀ w', wB.grownBy w' none → ∀ i, i < d → w'.cell? ⟨ab_, ao_ + i, none⟩ = some (.int .i64 (nth A i : Nat))) (ρ cr : Nat → Nat) (am ab : Option Addr) (cm cb : Nat)
    (hB : Bld w wB.heap.size d q ρ cr (fun j k => pw (wt n (nth A k)) (j + 1)) σ am cm ab cb)
    (hQ : ∀ v13 v14 v32 v33 v34 v35 v36 v37 v38 v39 v40 v41 v42 v43 v44 v45 v46 v47 v48 v49 v50 v51 v52 v53 v54 v55 v56 v57 v58 v59 v60 v61 v62 v63 v64 (ρ' cr' : Nat → Nat) (am' ab' : Option Addr) (cm' cb' : Nat) (w' : World), Bld w' wB.heap.size d (q + 1) ρ' cr' (fun j k => pw (wt n (nth A k)) (j + 1)) σ am' cm' ab' cb' → wB.grownBy w' none → Q .normal (Act.mk (List.toArray ((.slice a n cap) :: u1 :: (.slice (some ⟨ab_, ao_, none⟩) d cA) :: u3 :: u4 :: u5 :: u6 :: u7 :: (.slice (some ⟨gs, 0, none⟩) c cs) :: (.int .i64 (d : Int)) :: (.slice am' (q + 1) cm') :: (.slice ab' (q + 1) cb') :: (.int .i64 ((q : Int) + 1 + 1)) :: v13 :: v14 :: u15 :: u16 :: u17 :: u18 :: u19 :: u20 :: u21 :: u22 :: u23 :: u24 :: u25 :: u26 :: u27 :: u28 :: u29 :: u30 :: u31 :: v32 :: v33 :: v34 :: v35 :: v36 :: v37 :: v38 :: v39 :: v40 :: v41 :: v42 :: v43 :: v44 :: v45 :: v46 :: v47 :: v48 :: v49 :: v50 :: v51 :: v52 :: v53 :: v54 :: v55 :: v56 :: v57 :: v58 :: v59 :: v60 :: v61 :: v62 :: v63 :: v64 :: u65 :: u66 :: u67 :: u68 :: u69 :: u70 :: u71 :: u72 :: u73 :: u74 :: u75 :: u76 :: u77 :: u78 :: u79 :: u80 :: u81 :: u82 :: u83 :: u84 :: u85 :: u86 :: u87 :: u88 :: u89 :: u90 :: u91 :: u92 :: u93 :: u94 :: u95 :: u96 :: u97 :: u98 :: u99 :: u100 :: u101 :: u102 :: u103 :: u104 :: u105 :: u106 :: [])) []) w') :
    Code.wp Tryd.prog (tailR 10 (Tryd.f11.body.getD .skip)) Q (Act.mk (List.toArray ((.slice a n cap) :: u1 :: (.slice (some ⟨ab_, ao_, none⟩) d cA) :: u3 :: u4 :: u5 :: u6 :: u7 :: (.slice (some ⟨gs, 0, none⟩) c cs) :: (.int .i64 (d : Int)) :: (.slice am q cm) :: (.slice ab q cb) :: (.int .i64 ((q : Int) + 1)) :: u13 :: u14 :: u15 :: u16 :: u17 :: u18 :: u19 :: u20 :: u21 :: u22 :: u23 :: u24 :: u25 :: u26 :: u27 :: u28 :: u29 :: u30 :: u31 :: u32 :: u33 :: u34 :: u35 :: u36 :: u37 :: u38 :: u39 :: u40 :: u41 :: u42 :: u43 :: u44 :: u45 :: u46 :: u47 :: u48 :: u49 :: u50 :: u51 :: u52 :: u53 :: u54 :: u55 :: u56 :: u57 :: u58 :: u59 :: u60 :: u61 :: u62 :: u63 :: u64 :: u65 :: u66 :: u67 :: u68 :: u69 :: u70 :: u71 :: u72 :: u73 :: u74 :: u75 :: u76 :: u77 :: u78 :: u79 :: u80 :: u81 :: u82 :: u83 :: u84 :: u85 :: u86 :: u87 :: u88 :: u89 :: u90 :: u91 :: u92 :: u93 :: u94 :: u95 :: u96 :: u97 :: u98 :: u99 :: u100 :: u101 :: u102 :: u103 :: u104 :: u105 :: u106 :: [])) []) w := by
  conv => enter [2]; whnf
  have HQ : Hid _ := hQ
  have HB : Hid _ := hB
  have HS : Hid _ := hS
  have HA : Hid _ := hA
  have HAL : Hid _ := hAl
  have HAN : Hid _ := hAn
  clear hQ hB hS hA hAl hAn
  refine wp_seq_k fun K0 hK0 => ?_
  have HK0 : Hid _ := hK0
  clear hK0
  refine wp_block ?_
  refine wp_seq_k fun K1 hK1 => ?_
  have HK1 : Hid _ := hK1
  clear hK1
  go_wp2
  refine HK1.out _ _ ?_
  clear HK1
  refine wp_seq_k fun K2 hK2 => ?_
  have HK2 : Hid _ := hK2
  clear hK2
  go_wp2
  go_loopw [13, 14] (fun v13 v14 wr => ∃ (j : Nat) (ar : Option Addr) (ca : Nat), j ≤ d ∧ v14 = .int .i64 (j : Int) ∧ v13 = .slice ar j ca ∧ AnsX 5 wr w.heap.size ar j ca (gl (fun k => pw (wt n (nth A k)) (q + 1)) j) ∧ w.grownBy wr none) (fun _ v14 _ => d - (intOf v14).toNat)
  case atStart => exact ⟨0, none, 0, Nat.zero_le _, rfl, rfl, AnsX.nil0 _ _ _, World.grownBy.refl _ _⟩
  case round =>
    obtain ⟨j, ar, ca, hj', rfl, rfl, hAr, GR⟩ := hrel
    by_cases hj : j < d
    · have ljj : (j : Int) < (d : Int) := by omega
      have e1 := HA.out wr (grown_trans GB GR) j hj
      have hpn := HAN.out (nth A j) (nth_mem (by rw [HAL.out]; exact hj))
      have HV : Hid (gl (fun k => pw (wt n (nth A k)) (q + 1)) j ++ [.int .u8 ((pw (wt n (nth A j)) (q + 1)).v : Int)] = gl (fun k => pw (wt n (nth A k)) (q + 1)) (j + 1)) := gl_succ (fun k => pw (wt n (nth A k)) (q + 1)) j
      have HRR : Hid _ := hAr
      have hgr := GR.size
      clear hAr
      obtain ⟨p, hp⟩ : ∃ p, nth A j = p := ⟨_, rfl⟩
      rw [hp] at e1 hpn HV
      clear hp
      have hz0 : 0 ≤ ((q : Int) + 1) * ((n : Int) - 1 - (p : Int)) := Int.mul_nonneg (by omega) (by omega)
      have hz1 : ((q : Int) + 1) * ((n : Int) - 1 - (p : Int)) ≤ 64 * 255 := by
        refine Int.le_trans (Int.mul_le_mul_of_nonneg_right (show (q : Int) + 1 ≤ 64 by omega) (by omega)) (Int.mul_le_mul_of_nonneg_left (by omega) (by decide))
      have hz2 : ((q : Int) + 1) * ((n : Int) - 1 - (p : Int)) ≤ 16320 := by omega
      have HPW : Hid (∀ (z : Int) (wz : World), z = ((q : Int) + 1) * ((n : Int) - 1 - (p : Int)) → Calls Tryd.prog 25 #[.int .i64 z] wz fun e w' => e = .returned (.int .u8 ((pw (wt n p) (q + 1)).v : Int)) ∧ w' = wz) := fun z wz hz => by
        have h := rpower_any z wz (by omega) (by omega)
        have e2 : (pw (wt n p) (q + 1)).v = pow2 z := by
          rw [hz, Int.mul_comm]
          unfold wt
          rw [← al_pw]
          have e3 : (((q + 1 : Nat) : Int)) = (q : Int) + 1 := by omega
          rw [e3]
          rfl
        rw [e2]
        exact h
      obtain ⟨x, hx⟩ : ∃ x, pw (wt n p) (q + 1) = x := ⟨_, rfl⟩
      rw [hx] at HV HPW
      clear hx
      refine wp_seq_k fun K3 hK3 => ?_
      have HK3 : Hid _ := hK3
      clear hK3
      go_wp2
      refine HK3.out _ _ ?_
      clear HK3
      refine wp_seq_k fun K4 hK4 => ?_
      have HK4 : Hid _ := hK4
      clear hK4
      refine wp_block ?_
      have s1 : True := trivial
      go_wp2_with (first
        | (have _t := s1; clear s1; go_at_call 25; refine Calls.mono (HPW.out _ _ (by first | rfl | omega)) ?_; rintro e9 wx ⟨rfl, hwx⟩; rw [hwx]; clear hwx; have s2 : True := trivial)
        | (have _t := s2; clear s2; at_builtin; refine wpList_psX Tryd.elU wr (.int .u8 (x.v : Int)) rfl rfl _ _ rfl ar j ca w.heap.size _ rfl HRR.out hgr rfl (by omega) ?_; intro gx cx w6 hA6 g6 hx6))
      rw [HV.out] at hA6
      have G6 := grown_far GR g6 (fun y e => HRR.out.new y e)
      have HA6 : Hid _ := hA6
      clear hA6 HRR HV e1 g6 hx6 hz0 hz1 hz2 HPW
      (try simp only [Exit.inBlock, Exit.then])
      refine HK4.out _ _ ?_
      clear HK4
      go_wp2
      go_roundw
      case rel => exact ⟨j + 1, _, cx, by omega, by go_num, rfl, HA6.out, G6⟩
      case measure => simp [intOf] <;> omega
    · have ljj : ¬ (j : Int) < (d : Int) := by omega
      have HA9 : Hid (AnsX 5 wr w.heap.size ar d ca (gl (fun k => pw (wt n (nth A k)) (q + 1)) d)) := by
        have : j = d := by omega
        rw [this] at hAr
        exact hAr
      have HJE : Hid (j = d) := by show j = d; omega
      clear hAr hj hj'
      go_wp2
      (try simp only [Exit.inBlock, Exit.then])
      refine HK2.out _ _ ?_
      clear HK2
      rw [HJE.out]
      clear HJE ljj
      rcases HA9.out.cases with ⟨_, h0, _⟩ | ⟨g, hg, _, _⟩
      · omega
      have HROW : Hid _ := HA9.out
      rw [hg] at HROW
      subst hg
      have hm := HB.out.m.keep GR
      have hlo : wB.heap.size ≤ wr.heap.size := (grown_trans GB GR).size
      have HBR : Hid _ := HB.out.b
      refine wp_seq_k fun K3 hK3 => ?_
      have HK3 : Hid _ := hK3
      clear hK3
      go_wp2_with (at_builtin; refine wpList_psL wr (some ⟨g, 0, none⟩) d ca rfl _ _ rfl am q cm wB.heap.size _ rfl hm hlo rfl (by omega) ?_; intro gx cx w6 hA6 g6 hx6)
      refine HK3.out _ _ ?_
      clear HK3
      have G6 : wB.grownBy w6 none := grown_far (grown_trans GB GR) g6 (fun y e => HB.out.m.new y e)
      have e1 := (HS.out w6 G6).cell q _ (gl_at σ (show q < c by omega))
      have hb6 : AnsX 5 w6 wB.heap.size ab q cb (gl σ q) := (HBR.out.keep GR).kR g6 (fun y e1 e2 => by
        obtain ⟨t, cs, b1, e3⟩ := hm.tyR y e2
        exact (HBR.out.keep GR).bxR b1 (by rw [e3]; decide) e1)
      have HPU : Hid (∀ (w8 : World) (gb8 c8 : Nat), AnsX 5 w8 wB.heap.size (some ⟨gb8, 0, none⟩) (q + 1) c8 (gl σ q ++ [.int .u8 ((σ q).v : Int)]) → w6.grownBy w8 (Value.slice ab q cb).ownBlock → ((Value.slice ab q cb).ownBlock = some gb8 ∨ w6.heap.size ≤ gb8) → Bld w8 wB.heap.size d (q + 1) (fun i => if i = q then g else ρ i) (fun i => if i = q then ca else cr i) (fun j k => pw (wt n (nth A k)) (j + 1)) σ (some ⟨gx, 0, none⟩) cx (some ⟨gb8, 0, none⟩) c8) := fun w8 gb8 c8 h1 h2 h3 =>
        HB.out.push GB.size GR HROW.out hA6 g6 h1 h2 h3
      have lkc : (q : Int) < (c : Int) := by omega
      have hlo6 := G6.size
      clear hA6 g6 hx6 HROW HA9 HBR
      generalize σ q = x at *
      go_wp2_with (at_builtin; refine wpList_psX Tryd.elU w6 (.int .u8 (x.v : Int)) rfl rfl _ _ rfl ab q cb wB.heap.size _ rfl hb6 hlo6 rfl (by omega) ?_; intro gb8 c8 w8 hA8 g8 hx8)
      have HB8 : Hid _ := HPU.out w8 gb8 c8 hA8 g8 hx8
      have G8 : wB.grownBy w8 none := grown_far G6 g8 (fun y e => hb6.new y e)
      clear hA8 g8 hx8 HPU hb6 e1 hm
      (try simp only [Exit.inBlock, Exit.then])
      refine HK0.out _ _ ?_
      clear HK0
      go_wp2
      exact HQ.out _ _ _ _ _ _ _ _ _ _ _ _ _ _ _ _ _ _ _ _ _ _ _ _ _ _ _ _ _ _ _ _ _ _ _ _ _ _ _ _ _ w8 HB8.out G8
end
end Go.Proofs.YtdcfgaibppenaaaDoor
