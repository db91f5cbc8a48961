import Derived.Test.YtdcfgaibppenaaaDoorSd10
namespace Go.Proofs.YtdcfgaibppenaaaDoor
open Go.RowKit
set_option maxRecDepth 100000
set_option linter.unusedVariables false
set_option linter.unusedSimpArgs false

section
open GF
/-- row r, and f times row i: the first j columns -/
def rowP [Add GF] [Mul GF] [OfNat GF 0] [OfNat GF 1] [L : Nonempty GL] (M : Nat → Nat → GF) (r i : Nat) (f : GF) (j : Nat) : Nat → Nat → GF := fun r' j' => if r' = r ∧ j' < j then M r j' + f * M i j' else M r' j'
def rowC [Add GF] [Mul GF] [OfNat GF 0] [OfNat GF 1] [L : Nonempty GL] (M : Nat → Nat → GF) (r i : Nat) (f : GF) : Nat → Nat → GF := fun r' j' => if r' = r then M r j' + f * M i j' else M r' j'
theorem rowP_step [Add GF] [Mul GF] [OfNat GF 0] [OfNat GF 1] [L : Nonempty GL] (M : Nat → Nat → GF) {r i : Nat} (hne : r ≠ i) (f : GF) (j : Nat) : upd2 (rowP M r i f j) r j (M r j + f * M i j) = rowP M r i f (j + 1) := by
  funext r' j'
  unfold upd2 rowP
  by_cases h1 : r' = r
  · by_cases h2 : j' = j
    · rw [if_pos ⟨h1, h2⟩, if_pos ⟨h1, by omega⟩, h2]
    · rw [if_neg (fun e => h2 e.2)]
      by_cases h3 : j' < j
      · rw [if_pos ⟨h1, h3⟩, if_pos ⟨h1, by omega⟩]
      · rw [if_neg (fun e => h3 e.2), if_neg (fun e => by omega)]
  · rw [if_neg (fun e => h1 e.1), if_neg (fun e => h1 e.1), if_neg (fun e => h1 e.1)]
theorem rowP_at [Add GF] [Mul GF] [OfNat GF 0] [OfNat GF 1] [L : Nonempty GL] (M : Nat → Nat → GF) {r i : Nat} (hne : r ≠ i) (f : GF) (j : Nat) : rowP M r i f j r j = M r j ∧ rowP M r i f j i j = M i j := by
  unfold rowP
  exact ⟨if_neg (fun e => by omega), if_neg (fun e => hne e.1.symm)⟩
set_option maxHeartbeats 16000000 in
theorem sv_t23 [Add GF] [Mul GF] [OfNat GF 0] [OfNat GF 1] [L : Nonempty GL] {u2 u3 u4 u5 u8 u9 u10 u11 u14 u15 u16 u17 u18 u19 u20 u21 u22 u23 u24 u25 u26 u27 u28 u29 u30 u31 u32 u33 u34 u35 u36 u37 u38 u39 u40 u41 u42 u43 u44 u45 u46 u47 u48 u49 u50 u51 u52 u53 u54 u55 u56 u57 u58 u59 u60 u61 u62 u63 u64 u65 u66 u67 u68 u69 u70 u71 u72 u73 u74 u75 u76 u77 u78 u79 u80 u81 u82 u83 u84 u85 u86 u87 u88 u89 u90 u91 u92 u93 u94 u95 u96 u97 u98 u99 u100 u101 u102 u103 u104 u105 u106 u107 u108 u109 u110 u111 u112 u113 u114 u115 u116 u117 u118 u119 u120 u121 u122 u123 u124 u125 u126 u127 u128 u129 u130 u131 u132 u133 u134 u135 u136 u137 u138 u139 u140 u141 u142 u143 u144 u145 u146 u147 u148 u149 u150 u151 u152 u153 u154 u155 u156 u157 u158 u159 u160 u161 u162 u163 : Value} (Q : Exit → Act → World → Prop) (hPn : ∀ c (a1 a2 : Act) w, a1.defers = a2.defers → Q (.panic c) a1 w → Q (.panic c) a2 w) (wB w : World) (GB : wB.grownBy w none) (lo gm gb n cm cb : Nat) (hlo : wB.heap.size ≤ lo) (hn : n ≤ 1000) (ρ cr : Nat → Nat) (M : Nat → Nat → GF) (b : Nat → GF) (hM : MT w lo gm gb n ρ cr M b) (i r : Nat) (hi : i < n) (hr : r < n) (hne : r ≠ i) (f : GF)
    (hQ : ∀ v14 v128 v129 v130 v131 v132 v133 v134 v135 v136 v137 v138 v139 v140 v141 v142 v143 v144 v145 v146 v147 v148 v149 v150 v151 v152 v153 v154 v155 v156 v157 v158 v159 v160 v161 v162 (w' : World), MT w' lo gm gb n ρ cr (rowC M r i f) (upd1 b r (b r + f * b i)) → wB.grownBy w' none → Q .normal (Act.mk (List.toArray ((.slice (some ⟨gm, 0, none⟩) n cm) :: (.slice (some ⟨gb, 0, none⟩) n cb) :: u2 :: u3 :: u4 :: u5 :: (.int .i64 (n : Int)) :: (.int .i64 (i : Int)) :: u8 :: u9 :: u10 :: u11 :: (.int .i64 (r : Int)) :: (.int .u8 (f.v : Int)) :: v14 :: u15 :: u16 :: u17 :: u18 :: u19 :: u20 :: u21 :: u22 :: u23 :: u24 :: u25 :: u26 :: u27 :: u28 :: u29 :: u30 :: u31 :: u32 :: u33 :: u34 :: u35 :: u36 :: u37 :: u38 :: u39 :: u40 :: u41 :: u42 :: u43 :: u44 :: u45 :: u46 :: u47 :: u48 :: u49 :: u50 :: u51 :: u52 :: u53 :: u54 :: u55 :: u56 :: u57 :: u58 :: u59 :: u60 :: u61 :: u62 :: u63 :: u64 :: u65 :: u66 :: u67 :: u68 :: u69 :: u70 :: u71 :: u72 :: u73 :: u74 :: u75 :: u76 :: u77 :: u78 :: u79 :: u80 :: u81 :: u82 :: u83 :: u84 :: u85 :: u86 :: u87 :: u88 :: u89 :: u90 :: u91 :: u92 :: u93 :: u94 :: u95 :: u96 :: u97 :: u98 :: u99 :: u100 :: u101 :: u102 :: u103 :: u104 :: u105 :: u106 :: u107 :: u108 :: u109 :: u110 :: u111 :: u112 :: u113 :: u114 :: u115 :: u116 :: u117 :: u118 :: u119 :: u120 :: u121 :: u122 :: u123 :: u124 :: u125 :: u126 :: u127 :: v128 :: v129 :: v130 :: v131 :: v132 :: v133 :: v134 :: v135 :: v136 :: v137 :: v138 :: v139 :: v140 :: v141 :: v142 :: v143 :: v144 :: v145 :: v146 :: v147 :: v148 :: v149 :: v150 :: v151 :: v152 :: v153 :: v154 :: v155 :: v156 :: v157 :: v158 :: v159 :: v160 :: v161 :: v162 :: u163 :: [])) []) w') :
    Code.wp Tryd.prog (tailR 23 (Tryd.f27.body.getD .skip)) Q (Act.mk (List.toArray ((.slice (some ⟨gm, 0, none⟩) n cm) :: (.slice (some ⟨gb, 0, none⟩) n cb) :: u2 :: u3 :: u4 :: u5 :: (.int .i64 (n : Int)) :: (.int .i64 (i : Int)) :: u8 :: u9 :: u10 :: u11 :: (.int .i64 (r : Int)) :: (.int .u8 (f.v : Int)) :: u14 :: u15 :: u16 :: u17 :: u18 :: u19 :: u20 :: u21 :: u22 :: u23 :: u24 :: u25 :: u26 :: u27 :: u28 :: u29 :: u30 :: u31 :: u32 :: u33 :: u34 :: u35 :: u36 :: u37 :: u38 :: u39 :: u40 :: u41 :: u42 :: u43 :: u44 :: u45 :: u46 :: u47 :: u48 :: u49 :: u50 :: u51 :: u52 :: u53 :: u54 :: u55 :: u56 :: u57 :: u58 :: u59 :: u60 :: u61 :: u62 :: u63 :: u64 :: u65 :: u66 :: u67 :: u68 :: u69 :: u70 :: u71 :: u72 :: u73 :: u74 :: u75 :: u76 :: u77 :: u78 :: u79 :: u80 :: u81 :: u82 :: u83 :: u84 :: u85 :: u86 :: u87 :: u88 :: u89 :: u90 :: u91 :: u92 :: u93 :: u94 :: u95 :: u96 :: u97 :: u98 :: u99 :: u100 :: u101 :: u102 :: u103 :: u104 :: u105 :: u106 :: u107 :: u108 :: u109 :: u110 :: u111 :: u112 :: u113 :: u114 :: u115 :: u116 :: u117 :: u118 :: u119 :: u120 :: u121 :: u122 :: u123 :: u124 :: u125 :: u126 :: u127 :: u128 :: u129 :: u130 :: u131 :: u132 :: u133 :: u134 :: u135 :: u136 :: u137 :: u138 :: u139 :: u140 :: u141 :: u142 :: u143 :: u144 :: u145 :: u146 :: u147 :: u148 :: u149 :: u150 :: u151 :: u152 :: u153 :: u154 :: u155 :: u156 :: u157 :: u158 :: u159 :: u160 :: u161 :: u162 :: u163 :: [])) []) w := by
  conv => enter [2]; whnf
  have HQ : Hid _ := hQ
  have HM0 : Hid _ := hM
  have lri : (r : Int) < (n : Int) := by omega
  have lii : (i : Int) < (n : Int) := by omega
  have hlb0 := hM.lb
  have hlr0 := hM.lr r hr
  clear hQ hM
  refine wp_seq_k fun K0 hK0 => ?_
  have HK0 : Hid _ := hK0
  clear hK0
  go_wp2
  go_loopw [14] (fun v14 wr => ∃ j : Nat, j ≤ n ∧ v14 = .int .i64 j ∧ MT wr lo gm gb n ρ cr (rowP M r i f j) b ∧ wB.grownBy wr none) (fun v14 _ => n - (intOf v14).toNat)
  case atStart => exact ⟨0, Nat.zero_le _, rfl, HM0.out.congr (fun r' j' _ _ => by unfold rowP; rw [if_neg (fun e => by omega)]) (fun _ _ => rfl), GB⟩
  case round =>
    obtain ⟨j, hj', rfl, hMj, GR⟩ := hrel
    have HM : Hid _ := hMj
    clear hMj
    by_cases hj : j < n
    · have ljj : (j : Int) < (n : Int) := by omega
      have e1 := HM.out.cm hr
      have e2 := HM.out.cm hi
      have e3 := HM.out.cx hr hj
      have e4 := HM.out.cx hi hj
      have hat := rowP_at M hne f j
      rw [hat.1] at e3
      rw [hat.2] at e4
      have HST : Hid _ := rowP_step M hne f j
      clear hat
      generalize M r j = x at *
      generalize M i j = y at *
      refine wp_seq_k fun K1 hK1 => ?_
      have HK1 : Hid _ := hK1
      clear hK1
      go_wp2
      refine HK1.out _ _ ?_
      clear HK1
      refine wp_seq_k fun K2 hK2 => ?_
      have HK2 : Hid _ := hK2
      clear hK2
      refine wp_block ?_
      have Gd := grown_drew wr none
      have SS : wr.drew.cell? ⟨gm, r, none⟩ = some (.slice (some ⟨ρ r, 0, none⟩) n (cr r)) ∧ wr.drew.cell? ⟨gm, i, none⟩ = some (.slice (some ⟨ρ i, 0, none⟩) n (cr i)) ∧ wr.drew.cell? ⟨ρ r, j, none⟩ = some (.int .u8 (x.v : Int)) ∧ wr.drew.cell? ⟨ρ i, j, none⟩ = some (.int .u8 (y.v : Int)) := ⟨cell_drew _ e1, cell_drew _ e2, cell_drew _ e3, cell_drew _ e4⟩
      refine wp_regionM (fun wz => wz.cell? ⟨gm, r, none⟩ = some (.slice (some ⟨ρ r, 0, none⟩) n (cr r)) ∧ wz.cell? ⟨gm, i, none⟩ = some (.slice (some ⟨ρ i, 0, none⟩) n (cr i)) ∧ wz.cell? ⟨ρ r, j, none⟩ = some (.int .u8 (x.v : Int)) ∧ wz.cell? ⟨ρ i, j, none⟩ = some (.int .u8 (y.v : Int))) [18] #[false, false, false, false, false, false, false, false, false, false, false, false, false, false, false, false, false, false, false] rfl (by kernel_rfl) ?_
      generalize wr.drew = wd at *
      refine wpAnyY_takeF 0 (.slice (some ⟨gm, 0, none⟩) n cm) rfl (by kernel_rfl) (fun _ _ _ h => hPn _ _ _ _ (by rfl) h) rfl (by intro wz; go_simp; try rfl) ?_
      try simp only [List.getElem_toArray, List.getElem_cons_succ, List.getElem_cons_zero, Act.put, List.setIfInBounds_toArray, List.set_cons_zero, List.set_cons_succ]
      refine wpAnyY_takeF 1 (.int .i64 (r : Int)) rfl (by kernel_rfl) (fun _ _ _ h => hPn _ _ _ _ (by rfl) h) rfl (by intro wz; go_simp; try rfl) ?_
      try simp only [List.getElem_toArray, List.getElem_cons_succ, List.getElem_cons_zero, Act.put, List.setIfInBounds_toArray, List.set_cons_zero, List.set_cons_succ]
      refine wpAnyY_takeF 2 (.pointer (some ⟨gm, r, none⟩)) rfl (by kernel_rfl) (fun _ _ _ h => hPn _ _ _ _ (by rfl) h) rfl (by intro wz; go_simp; try rfl) ?_
      try simp only [List.getElem_toArray, List.getElem_cons_succ, List.getElem_cons_zero, Act.put, List.setIfInBounds_toArray, List.set_cons_zero, List.set_cons_succ]
      refine wpAnyY_take [18] 3 (.slice (some ⟨ρ r, 0, none⟩) n (cr r)) rfl (by kernel_rfl) (fun _ _ _ h => hPn _ _ _ _ (by rfl) h) SS rfl (by rintro wz ⟨z1, z2, z3, z4⟩; go_simp) ?_
      try simp only [List.getElem_toArray, List.getElem_cons_succ, List.getElem_cons_zero, Act.put, List.setIfInBounds_toArray, List.set_cons_zero, List.set_cons_succ]
      refine wpAnyY_takeF 4 (.int .i64 (j : Int)) rfl (by kernel_rfl) (fun _ _ _ h => hPn _ _ _ _ (by rfl) h) rfl (by intro wz; go_simp; try rfl) ?_
      try simp only [List.getElem_toArray, List.getElem_cons_succ, List.getElem_cons_zero, Act.put, List.setIfInBounds_toArray, List.set_cons_zero, List.set_cons_succ]
      refine wpAnyY_takeF 5 (.pointer (some ⟨ρ r, j, none⟩)) rfl (by kernel_rfl) (fun _ _ _ h => hPn _ _ _ _ (by rfl) h) rfl (by intro wz; go_simp; try rfl) ?_
      try simp only [List.getElem_toArray, List.getElem_cons_succ, List.getElem_cons_zero, Act.put, List.setIfInBounds_toArray, List.set_cons_zero, List.set_cons_succ]
      refine wpAnyY_take [18] 6 (.int .u8 (x.v : Int)) rfl (by kernel_rfl) (fun _ _ _ h => hPn _ _ _ _ (by rfl) h) SS rfl (by rintro wz ⟨z1, z2, z3, z4⟩; go_simp) ?_
      try simp only [List.getElem_toArray, List.getElem_cons_succ, List.getElem_cons_zero, Act.put, List.setIfInBounds_toArray, List.set_cons_zero, List.set_cons_succ]
      refine wpAnyY_takeF 7 (.int .u8 (f.v : Int)) rfl (by kernel_rfl) (fun _ _ _ h => hPn _ _ _ _ (by rfl) h) rfl (by intro wz; go_simp; try rfl) ?_
      try simp only [List.getElem_toArray, List.getElem_cons_succ, List.getElem_cons_zero, Act.put, List.setIfInBounds_toArray, List.set_cons_zero, List.set_cons_succ]
      refine wpAnyY_takeF 8 (.slice (some ⟨gm, 0, none⟩) n cm) rfl (by kernel_rfl) (fun _ _ _ h => hPn _ _ _ _ (by rfl) h) rfl (by intro wz; go_simp; try rfl) ?_
      try simp only [List.getElem_toArray, List.getElem_cons_succ, List.getElem_cons_zero, Act.put, List.setIfInBounds_toArray, List.set_cons_zero, List.set_cons_succ]
      refine wpAnyY_takeF 9 (.int .i64 (i : Int)) rfl (by kernel_rfl) (fun _ _ _ h => hPn _ _ _ _ (by rfl) h) rfl (by intro wz; go_simp; try rfl) ?_
      try simp only [List.getElem_toArray, List.getElem_cons_succ, List.getElem_cons_zero, Act.put, List.setIfInBounds_toArray, List.set_cons_zero, List.set_cons_succ]
      refine wpAnyY_takeF 10 (.pointer (some ⟨gm, i, none⟩)) rfl (by kernel_rfl) (fun _ _ _ h => hPn _ _ _ _ (by rfl) h) rfl (by intro wz; go_simp; try rfl) ?_
      try simp only [List.getElem_toArray, List.getElem_cons_succ, List.getElem_cons_zero, Act.put, List.setIfInBounds_toArray, List.set_cons_zero, List.set_cons_succ]
      refine wpAnyY_take [18] 11 (.slice (some ⟨ρ i, 0, none⟩) n (cr i)) rfl (by kernel_rfl) (fun _ _ _ h => hPn _ _ _ _ (by rfl) h) SS rfl (by rintro wz ⟨z1, z2, z3, z4⟩; go_simp) ?_
      try simp only [List.getElem_toArray, List.getElem_cons_succ, List.getElem_cons_zero, Act.put, List.setIfInBounds_toArray, List.set_cons_zero, List.set_cons_succ]
      refine wpAnyY_takeF 12 (.int .i64 (j : Int)) rfl (by kernel_rfl) (fun _ _ _ h => hPn _ _ _ _ (by rfl) h) rfl (by intro wz; go_simp; try rfl) ?_
      try simp only [List.getElem_toArray, List.getElem_cons_succ, List.getElem_cons_zero, Act.put, List.setIfInBounds_toArray, List.set_cons_zero, List.set_cons_succ]
      refine wpAnyY_takeF 13 (.pointer (some ⟨ρ i, j, none⟩)) rfl (by kernel_rfl) (fun _ _ _ h => hPn _ _ _ _ (by rfl) h) rfl (by intro wz; go_simp; try rfl) ?_
      try simp only [List.getElem_toArray, List.getElem_cons_succ, List.getElem_cons_zero, Act.put, List.setIfInBounds_toArray, List.set_cons_zero, List.set_cons_succ]
      refine wpAnyY_take [18] 14 (.int .u8 (y.v : Int)) rfl (by kernel_rfl) (fun _ _ _ h => hPn _ _ _ _ (by rfl) h) SS rfl (by rintro wz ⟨z1, z2, z3, z4⟩; go_simp) ?_
      try simp only [List.getElem_toArray, List.getElem_cons_succ, List.getElem_cons_zero, Act.put, List.setIfInBounds_toArray, List.set_cons_zero, List.set_cons_succ]
      refine wpAnyY_oneB 15 rfl (by kernel_rfl) (fun KK hKK => ?_)
      go_simp
      go_at_call 26
      refine (gmul_any f y _).mono ?_
      rintro e wx ⟨rfl, hwx⟩
      dsimp only
      rw [hwx]
      clear hwx wx
      refine hKK _ _ (fun h _ => h) ?_
      try simp only [List.getElem_toArray, List.getElem_cons_succ, List.getElem_cons_zero, Act.put, List.setIfInBounds_toArray, List.set_cons_zero, List.set_cons_succ]
      refine wpAnyY_takeF 16 (.int .u8 ((x + (f * y) : GF).v : Int)) rfl (by kernel_rfl) (fun _ _ _ h => hPn _ _ _ _ (by rfl) h) rfl (by intro wz; go_simp; first | done | ((rw [u8_xor_nat _ _ (GF.h _) (GF.h _), add_v]) <;> first | done | rfl)) ?_
      try simp only [List.getElem_toArray, List.getElem_cons_succ, List.getElem_cons_zero, Act.put, List.setIfInBounds_toArray, List.set_cons_zero, List.set_cons_succ]
      refine wpAnyY_takeF 17 (.pointer (some ⟨ρ r, j, none⟩)) rfl (by kernel_rfl) (fun _ _ _ h => hPn _ _ _ _ (by rfl) h) rfl (by intro wz; go_simp; try rfl) ?_
      try simp only [List.getElem_toArray, List.getElem_cons_succ, List.getElem_cons_zero, Act.put, List.setIfInBounds_toArray, List.set_cons_zero, List.set_cons_succ]
      have hMd := HM.out.keep Gd
      obtain ⟨X, bX, hX⟩ := hMd.rr r hr
      refine wpAnyY_oneB 18 rfl (by kernel_rfl) (fun KK hKK => ?_)
      refine step_of_listR rfl ?_
      refine wpList_stC _ rfl _ _ _ rfl (ρ r) j 5 X _ (.int .u8 ((x + f * y : GF).v : Int)) rfl rfl bX (fun w' hc hf => stc_u8 _ _ _ w' hc hf) (Array.getElem?_eq_some_iff.1 (hX j hj)).1 rfl ?_
      intro w5 b5 g5
      show KK _ w5
      refine hKK _ _ (fun _ h => absurd (by decide) h) ?_
      try simp only [List.getElem_toArray, List.getElem_cons_succ, List.getElem_cons_zero, Act.put, List.setIfInBounds_toArray, List.set_cons_zero, List.set_cons_succ]
      refine wpAnyY_doneB (by kernel_rfl) ?_ _
      have hM5 := hMd.setM hr hj _ bX b5 g5
      rw [HST.out] at hM5
      have G5 := (grown_far (grown_trans GR Gd) g5 (fun z e => by have e := Option.some.inj e; subst e; exact Nat.le_trans hlo hlr0))
      have HM5 : Hid _ := hM5
      clear hM5 hMd bX b5 g5 hX HST e1 e2 e3 e4
      (try simp only [Exit.inBlock, Exit.then])
      refine HK2.out _ _ ?_
      clear HK2
      go_wp2
      go_roundw
      case rel => exact ⟨j + 1, by omega, by go_num, HM5.out, G5⟩
      case measure => simp [intOf] <;> omega
    · have ljj : ¬ (j : Int) < (n : Int) := by omega
      go_wp2
      (try simp only [Exit.inBlock, Exit.then])
      refine HK0.out _ _ ?_
      clear HK0
      have HM2 : Hid (MT wr lo gm gb n ρ cr (rowC M r i f) b) := HM.out.congr (fun r' j' _ h2 => by
        unfold rowP rowC
        by_cases h1 : r' = r
        · rw [if_pos ⟨h1, by omega⟩, if_pos h1]
        · rw [if_neg (fun e => h1 e.1), if_neg h1]) (fun _ _ => rfl)
      clear HM
      have HM := HM2
      clear HM2
      have e1 := HM.out.cb hr
      have e2 := HM.out.cb hi
      generalize b r = x at *
      generalize b i = y at *
      have Gd := grown_drew wr none
      have SS : wr.drew.cell? ⟨gb, r, none⟩ = some (.int .u8 (x.v : Int)) ∧ wr.drew.cell? ⟨gb, i, none⟩ = some (.int .u8 (y.v : Int)) := ⟨cell_drew _ e1, cell_drew _ e2⟩
      refine wp_regionM (fun wz => wz.cell? ⟨gb, r, none⟩ = some (.int .u8 (x.v : Int)) ∧ wz.cell? ⟨gb, i, none⟩ = some (.int .u8 (y.v : Int))) [12] #[false, false, false, false, false, false, false, false, false, false, false, false, false] rfl (by kernel_rfl) ?_
      generalize wr.drew = wd at *
      refine wpAnyY_takeF 0 (.slice (some ⟨gb, 0, none⟩) n cb) rfl (by kernel_rfl) (fun _ _ _ h => hPn _ _ _ _ (by rfl) h) rfl (by intro wz; go_simp; try rfl) ?_
      try simp only [List.getElem_toArray, List.getElem_cons_succ, List.getElem_cons_zero, Act.put, List.setIfInBounds_toArray, List.set_cons_zero, List.set_cons_succ]
      refine wpAnyY_takeF 1 (.int .i64 (r : Int)) rfl (by kernel_rfl) (fun _ _ _ h => hPn _ _ _ _ (by rfl) h) rfl (by intro wz; go_simp; try rfl) ?_
      try simp only [List.getElem_toArray, List.getElem_cons_succ, List.getElem_cons_zero, Act.put, List.setIfInBounds_toArray, List.set_cons_zero, List.set_cons_succ]
      refine wpAnyY_takeF 2 (.pointer (some ⟨gb, r, none⟩)) rfl (by kernel_rfl) (fun _ _ _ h => hPn _ _ _ _ (by rfl) h) rfl (by intro wz; go_simp; try rfl) ?_
      try simp only [List.getElem_toArray, List.getElem_cons_succ, List.getElem_cons_zero, Act.put, List.setIfInBounds_toArray, List.set_cons_zero, List.set_cons_succ]
      refine wpAnyY_take [12] 3 (.int .u8 (x.v : Int)) rfl (by kernel_rfl) (fun _ _ _ h => hPn _ _ _ _ (by rfl) h) SS rfl (by rintro wz ⟨z1, z2⟩; go_simp) ?_
      try simp only [List.getElem_toArray, List.getElem_cons_succ, List.getElem_cons_zero, Act.put, List.setIfInBounds_toArray, List.set_cons_zero, List.set_cons_succ]
      refine wpAnyY_takeF 4 (.int .u8 (f.v : Int)) rfl (by kernel_rfl) (fun _ _ _ h => hPn _ _ _ _ (by rfl) h) rfl (by intro wz; go_simp; try rfl) ?_
      try simp only [List.getElem_toArray, List.getElem_cons_succ, List.getElem_cons_zero, Act.put, List.setIfInBounds_toArray, List.set_cons_zero, List.set_cons_succ]
      refine wpAnyY_takeF 5 (.slice (some ⟨gb, 0, none⟩) n cb) rfl (by kernel_rfl) (fun _ _ _ h => hPn _ _ _ _ (by rfl) h) rfl (by intro wz; go_simp; try rfl) ?_
      try simp only [List.getElem_toArray, List.getElem_cons_succ, List.getElem_cons_zero, Act.put, List.setIfInBounds_toArray, List.set_cons_zero, List.set_cons_succ]
      refine wpAnyY_takeF 6 (.int .i64 (i : Int)) rfl (by kernel_rfl) (fun _ _ _ h => hPn _ _ _ _ (by rfl) h) rfl (by intro wz; go_simp; try rfl) ?_
      try simp only [List.getElem_toArray, List.getElem_cons_succ, List.getElem_cons_zero, Act.put, List.setIfInBounds_toArray, List.set_cons_zero, List.set_cons_succ]
      refine wpAnyY_takeF 7 (.pointer (some ⟨gb, i, none⟩)) rfl (by kernel_rfl) (fun _ _ _ h => hPn _ _ _ _ (by rfl) h) rfl (by intro wz; go_simp; try rfl) ?_
      try simp only [List.getElem_toArray, List.getElem_cons_succ, List.getElem_cons_zero, Act.put, List.setIfInBounds_toArray, List.set_cons_zero, List.set_cons_succ]
      refine wpAnyY_take [12] 8 (.int .u8 (y.v : Int)) rfl (by kernel_rfl) (fun _ _ _ h => hPn _ _ _ _ (by rfl) h) SS rfl (by rintro wz ⟨z1, z2⟩; go_simp) ?_
      try simp only [List.getElem_toArray, List.getElem_cons_succ, List.getElem_cons_zero, Act.put, List.setIfInBounds_toArray, List.set_cons_zero, List.set_cons_succ]
      refine wpAnyY_oneB 9 rfl (by kernel_rfl) (fun KK hKK => ?_)
      go_simp
      go_at_call 26
      refine (gmul_any f y _).mono ?_
      rintro e wx ⟨rfl, hwx⟩
      dsimp only
      rw [hwx]
      clear hwx wx
      refine hKK _ _ (fun h _ => h) ?_
      try simp only [List.getElem_toArray, List.getElem_cons_succ, List.getElem_cons_zero, Act.put, List.setIfInBounds_toArray, List.set_cons_zero, List.set_cons_succ]
      refine wpAnyY_takeF 10 (.int .u8 ((x + (f * y) : GF).v : Int)) rfl (by kernel_rfl) (fun _ _ _ h => hPn _ _ _ _ (by rfl) h) rfl (by intro wz; go_simp; first | done | ((rw [u8_xor_nat _ _ (GF.h _) (GF.h _), add_v]) <;> first | done | rfl)) ?_
      try simp only [List.getElem_toArray, List.getElem_cons_succ, List.getElem_cons_zero, Act.put, List.setIfInBounds_toArray, List.set_cons_zero, List.set_cons_succ]
      refine wpAnyY_takeF 11 (.pointer (some ⟨gb, r, none⟩)) rfl (by kernel_rfl) (fun _ _ _ h => hPn _ _ _ _ (by rfl) h) rfl (by intro wz; go_simp; try rfl) ?_
      try simp only [List.getElem_toArray, List.getElem_cons_succ, List.getElem_cons_zero, Act.put, List.setIfInBounds_toArray, List.set_cons_zero, List.set_cons_succ]
      have hMd := HM.out.keep Gd
      obtain ⟨X, bX, hX⟩ := hMd.bb
      refine wpAnyY_oneB 12 rfl (by kernel_rfl) (fun KK hKK => ?_)
      refine step_of_listR rfl ?_
      refine wpList_stC _ rfl _ _ _ rfl gb r 5 X _ (.int .u8 ((x + f * y : GF).v : Int)) rfl rfl bX (fun w' hc hf => stc_u8 _ _ _ w' hc hf) (Array.getElem?_eq_some_iff.1 (hX r hr)).1 rfl ?_
      intro w5 b5 g5
      show KK _ w5
      refine hKK _ _ (fun _ h => absurd (by decide) h) ?_
      try simp only [List.getElem_toArray, List.getElem_cons_succ, List.getElem_cons_zero, Act.put, List.setIfInBounds_toArray, List.set_cons_zero, List.set_cons_succ]
      refine wpAnyY_doneB (by kernel_rfl) ?_ _
      have hM5 := hMd.setB hr _ bX b5 g5
      exact HQ.out _ _ _ _ _ _ _ _ _ _ _ _ _ _ _ _ _ _ _ _ _ _ _ _ _ _ _ _ _ _ _ _ _ _ _ _ w5 hM5 (grown_far (grown_trans GR Gd) g5 (fun z e => by have e := Option.some.inj e; subst e; exact Nat.le_trans hlo hlb0))
end
end Go.Proofs.YtdcfgaibppenaaaDoor
