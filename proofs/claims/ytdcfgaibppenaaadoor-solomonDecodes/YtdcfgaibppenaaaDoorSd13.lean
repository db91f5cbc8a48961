import Derived.Test.YtdcfgaibppenaaaDoorSd12
namespace Go.Proofs.YtdcfgaibppenaaaDoor
open Go.RowKit
set_option maxRecDepth 100000
set_option linter.unusedVariables false
set_option linter.unusedSimpArgs false

section
open GF
set_option maxHeartbeats 16000000 in
theorem sv_t13 [Add GF] [Mul GF] [OfNat GF 0] [OfNat GF 1] [L : Nonempty GL] {u2 u3 u4 u5 u8 u10 u11 u12 u13 u14 u15 u16 u17 u18 u19 u20 u21 u22 u23 u24 u25 u26 u27 u28 u29 u30 u31 u32 u33 u34 u35 u36 u37 u38 u39 u40 u41 u42 u43 u44 u45 u46 u47 u48 u49 u50 u51 u52 u53 u54 u55 u56 u57 u58 u59 u60 u61 u62 u63 u64 u65 u66 u67 u68 u69 u70 u71 u72 u73 u74 u75 u76 u77 u78 u79 u80 u81 u82 u83 u84 u85 u86 u87 u88 u89 u90 u91 u92 u93 u94 u95 u96 u97 u98 u99 u100 u101 u102 u103 u104 u105 u106 u107 u108 u109 u110 u111 u112 u113 u114 u115 u116 u117 u118 u119 u120 u121 u122 u123 u124 u125 u126 u127 u128 u129 u130 u131 u132 u133 u134 u135 u136 u137 u138 u139 u140 u141 u142 u143 u144 u145 u146 u147 u148 u149 u150 u151 u152 u153 u154 u155 u156 u157 u158 u159 u160 u161 u162 u163 : Value} (Q : Exit → Act → World → Prop) (hPn : ∀ c (a1 a2 : Act) w, a1.defers = a2.defers → Q (.panic c) a1 w → Q (.panic c) a2 w) (wB w : World) (GB : wB.grownBy w none) (lo gm gb n cm cb : Nat) (hlo : wB.heap.size ≤ lo) (hn : n ≤ 1000) (ρ cr : Nat → Nat) (M : Nat → Nat → GF) (b : Nat → GF) (hM : MT w lo gm gb n ρ cr M b) (i : Nat) (hi : i < n) (c : GF)
    (hQ : ∀ v11 v12 v13 v14 v80 v81 v82 v83 v84 v85 v86 v87 v88 v89 v90 v91 v92 v93 v94 v95 v96 v97 v98 v99 v100 v101 v102 v103 v104 v105 v106 v107 v108 v109 v110 v111 v112 v113 v114 v115 v116 v117 v118 v119 v120 v121 v122 v123 v124 v125 v126 v127 v128 v129 v130 v131 v132 v133 v134 v135 v136 v137 v138 v139 v140 v141 v142 v143 v144 v145 v146 v147 v148 v149 v150 v151 v152 v153 v154 v155 v156 v157 v158 v159 v160 v161 v162 (w' : World), MT w' lo gm gb n ρ cr (clr (scl M c i) i) (clrb (scl M c i) (sclb b c i) i) → wB.grownBy w' none → Q .normal (Act.mk (List.toArray ((.slice (some ⟨gm, 0, none⟩) n cm) :: (.slice (some ⟨gb, 0, none⟩) n cb) :: u2 :: u3 :: u4 :: u5 :: (.int .i64 (n : Int)) :: (.int .i64 (i : Int)) :: u8 :: (.int .u8 (c.v : Int)) :: u10 :: v11 :: v12 :: v13 :: v14 :: u15 :: u16 :: u17 :: u18 :: u19 :: u20 :: u21 :: u22 :: u23 :: u24 :: u25 :: u26 :: u27 :: u28 :: u29 :: u30 :: u31 :: u32 :: u33 :: u34 :: u35 :: u36 :: u37 :: u38 :: u39 :: u40 :: u41 :: u42 :: u43 :: u44 :: u45 :: u46 :: u47 :: u48 :: u49 :: u50 :: u51 :: u52 :: u53 :: u54 :: u55 :: u56 :: u57 :: u58 :: u59 :: u60 :: u61 :: u62 :: u63 :: u64 :: u65 :: u66 :: u67 :: u68 :: u69 :: u70 :: u71 :: u72 :: u73 :: u74 :: u75 :: u76 :: u77 :: u78 :: u79 :: v80 :: v81 :: v82 :: v83 :: v84 :: v85 :: v86 :: v87 :: v88 :: v89 :: v90 :: v91 :: v92 :: v93 :: v94 :: v95 :: v96 :: v97 :: v98 :: v99 :: v100 :: v101 :: v102 :: v103 :: v104 :: v105 :: v106 :: v107 :: v108 :: v109 :: v110 :: v111 :: v112 :: v113 :: v114 :: v115 :: v116 :: v117 :: v118 :: v119 :: v120 :: v121 :: v122 :: v123 :: v124 :: v125 :: v126 :: v127 :: v128 :: v129 :: v130 :: v131 :: v132 :: v133 :: v134 :: v135 :: v136 :: v137 :: v138 :: v139 :: v140 :: v141 :: v142 :: v143 :: v144 :: v145 :: v146 :: v147 :: v148 :: v149 :: v150 :: v151 :: v152 :: v153 :: v154 :: v155 :: v156 :: v157 :: v158 :: v159 :: v160 :: v161 :: v162 :: u163 :: [])) []) w') :
    Code.wp Tryd.prog (tailR 13 (Tryd.f27.body.getD .skip)) Q (Act.mk (List.toArray ((.slice (some ⟨gm, 0, none⟩) n cm) :: (.slice (some ⟨gb, 0, none⟩) n cb) :: u2 :: u3 :: u4 :: u5 :: (.int .i64 (n : Int)) :: (.int .i64 (i : Int)) :: u8 :: (.int .u8 (c.v : Int)) :: u10 :: u11 :: u12 :: u13 :: u14 :: u15 :: u16 :: u17 :: u18 :: u19 :: u20 :: u21 :: u22 :: u23 :: u24 :: u25 :: u26 :: u27 :: u28 :: u29 :: u30 :: u31 :: u32 :: u33 :: u34 :: u35 :: u36 :: u37 :: u38 :: u39 :: u40 :: u41 :: u42 :: u43 :: u44 :: u45 :: u46 :: u47 :: u48 :: u49 :: u50 :: u51 :: u52 :: u53 :: u54 :: u55 :: u56 :: u57 :: u58 :: u59 :: u60 :: u61 :: u62 :: u63 :: u64 :: u65 :: u66 :: u67 :: u68 :: u69 :: u70 :: u71 :: u72 :: u73 :: u74 :: u75 :: u76 :: u77 :: u78 :: u79 :: u80 :: u81 :: u82 :: u83 :: u84 :: u85 :: u86 :: u87 :: u88 :: u89 :: u90 :: u91 :: u92 :: u93 :: u94 :: u95 :: u96 :: u97 :: u98 :: u99 :: u100 :: u101 :: u102 :: u103 :: u104 :: u105 :: u106 :: u107 :: u108 :: u109 :: u110 :: u111 :: u112 :: u113 :: u114 :: u115 :: u116 :: u117 :: u118 :: u119 :: u120 :: u121 :: u122 :: u123 :: u124 :: u125 :: u126 :: u127 :: u128 :: u129 :: u130 :: u131 :: u132 :: u133 :: u134 :: u135 :: u136 :: u137 :: u138 :: u139 :: u140 :: u141 :: u142 :: u143 :: u144 :: u145 :: u146 :: u147 :: u148 :: u149 :: u150 :: u151 :: u152 :: u153 :: u154 :: u155 :: u156 :: u157 :: u158 :: u159 :: u160 :: u161 :: u162 :: u163 :: [])) []) w := by
  conv => enter [2]; whnf
  have HQ : Hid _ := hQ
  have HM0 : Hid _ := hM
  have lii : (i : Int) < (n : Int) := by omega
  have hlb0 := hM.lb
  have hlr0 := hM.lr i hi
  clear hQ hM
  refine wp_seq_k fun K0 hK0 => ?_
  have HK0 : Hid _ := hK0
  clear hK0
  go_wp2
  go_loopw [11] (fun v11 wr => ∃ j : Nat, j ≤ n ∧ v11 = .int .i64 j ∧ MT wr lo gm gb n ρ cr (sclP M c i j) b ∧ wB.grownBy wr none) (fun v11 _ => n - (intOf v11).toNat)
  case atStart => exact ⟨0, Nat.zero_le _, rfl, HM0.out.congr (fun r' j' _ _ => by unfold sclP; rw [if_neg (fun e => by omega)]) (fun _ _ => rfl), GB⟩
  case round =>
    obtain ⟨j, hj', rfl, hMj, GR⟩ := hrel
    have HM : Hid _ := hMj
    clear hMj
    by_cases hj : j < n
    · have ljj : (j : Int) < (n : Int) := by omega
      have e1 := HM.out.cm hi
      have e2 := HM.out.cx hi hj
      rw [show sclP M c i j i j = M i j from if_neg (fun e => by omega)] at e2
      have HST : Hid _ := sclP_step M c i j
      generalize M i j = x at *
      refine wp_seq_k fun K1 hK1 => ?_
      have HK1 : Hid _ := hK1
      clear hK1
      go_wp2
      refine HK1.out _ _ ?_
      clear HK1
      refine wp_seq_k fun K2 hK2 => ?_
      have HK2 : Hid _ := hK2
      clear hK2
      refine wp_block ?_
      have Gd := grown_drew wr none
      have SS : wr.drew.cell? ⟨gm, i, none⟩ = some (.slice (some ⟨ρ i, 0, none⟩) n (cr i)) ∧ wr.drew.cell? ⟨ρ i, j, none⟩ = some (.int .u8 (x.v : Int)) := ⟨cell_drew _ e1, cell_drew _ e2⟩
      refine wp_regionM (fun wz => wz.cell? ⟨gm, i, none⟩ = some (.slice (some ⟨ρ i, 0, none⟩) n (cr i)) ∧ wz.cell? ⟨ρ i, j, none⟩ = some (.int .u8 (x.v : Int))) [15] #[false, false, false, false, false, false, false, false, false, false, false, false, false, false, false, false] rfl (by kernel_rfl) ?_
      generalize wr.drew = wd at *
      refine wpAnyY_takeF 0 (.slice (some ⟨gm, 0, none⟩) n cm) rfl (by kernel_rfl) (fun _ _ _ h => hPn _ _ _ _ (by rfl) h) rfl (by intro wz; go_simp; try rfl) ?_
      try simp only [List.getElem_toArray, List.getElem_cons_succ, List.getElem_cons_zero, Act.put, List.setIfInBounds_toArray, List.set_cons_zero, List.set_cons_succ]
      refine wpAnyY_takeF 1 (.int .i64 (i : Int)) rfl (by kernel_rfl) (fun _ _ _ h => hPn _ _ _ _ (by rfl) h) rfl (by intro wz; go_simp; try rfl) ?_
      try simp only [List.getElem_toArray, List.getElem_cons_succ, List.getElem_cons_zero, Act.put, List.setIfInBounds_toArray, List.set_cons_zero, List.set_cons_succ]
      refine wpAnyY_takeF 2 (.pointer (some ⟨gm, i, none⟩)) rfl (by kernel_rfl) (fun _ _ _ h => hPn _ _ _ _ (by rfl) h) rfl (by intro wz; go_simp; try rfl) ?_
      try simp only [List.getElem_toArray, List.getElem_cons_succ, List.getElem_cons_zero, Act.put, List.setIfInBounds_toArray, List.set_cons_zero, List.set_cons_succ]
      refine wpAnyY_take [15] 3 (.slice (some ⟨ρ i, 0, none⟩) n (cr i)) rfl (by kernel_rfl) (fun _ _ _ h => hPn _ _ _ _ (by rfl) h) SS rfl (by rintro wz ⟨z1, z2⟩; go_simp) ?_
      try simp only [List.getElem_toArray, List.getElem_cons_succ, List.getElem_cons_zero, Act.put, List.setIfInBounds_toArray, List.set_cons_zero, List.set_cons_succ]
      refine wpAnyY_takeF 4 (.int .i64 (j : Int)) rfl (by kernel_rfl) (fun _ _ _ h => hPn _ _ _ _ (by rfl) h) rfl (by intro wz; go_simp; try rfl) ?_
      try simp only [List.getElem_toArray, List.getElem_cons_succ, List.getElem_cons_zero, Act.put, List.setIfInBounds_toArray, List.set_cons_zero, List.set_cons_succ]
      refine wpAnyY_takeF 5 (.slice (some ⟨gm, 0, none⟩) n cm) rfl (by kernel_rfl) (fun _ _ _ h => hPn _ _ _ _ (by rfl) h) rfl (by intro wz; go_simp; try rfl) ?_
      try simp only [List.getElem_toArray, List.getElem_cons_succ, List.getElem_cons_zero, Act.put, List.setIfInBounds_toArray, List.set_cons_zero, List.set_cons_succ]
      refine wpAnyY_takeF 6 (.int .i64 (i : Int)) rfl (by kernel_rfl) (fun _ _ _ h => hPn _ _ _ _ (by rfl) h) rfl (by intro wz; go_simp; try rfl) ?_
      try simp only [List.getElem_toArray, List.getElem_cons_succ, List.getElem_cons_zero, Act.put, List.setIfInBounds_toArray, List.set_cons_zero, List.set_cons_succ]
      refine wpAnyY_takeF 7 (.pointer (some ⟨gm, i, none⟩)) rfl (by kernel_rfl) (fun _ _ _ h => hPn _ _ _ _ (by rfl) h) rfl (by intro wz; go_simp; try rfl) ?_
      try simp only [List.getElem_toArray, List.getElem_cons_succ, List.getElem_cons_zero, Act.put, List.setIfInBounds_toArray, List.set_cons_zero, List.set_cons_succ]
      refine wpAnyY_take [15] 8 (.slice (some ⟨ρ i, 0, none⟩) n (cr i)) rfl (by kernel_rfl) (fun _ _ _ h => hPn _ _ _ _ (by rfl) h) SS rfl (by rintro wz ⟨z1, z2⟩; go_simp) ?_
      try simp only [List.getElem_toArray, List.getElem_cons_succ, List.getElem_cons_zero, Act.put, List.setIfInBounds_toArray, List.set_cons_zero, List.set_cons_succ]
      refine wpAnyY_takeF 9 (.int .i64 (j : Int)) rfl (by kernel_rfl) (fun _ _ _ h => hPn _ _ _ _ (by rfl) h) rfl (by intro wz; go_simp; try rfl) ?_
      try simp only [List.getElem_toArray, List.getElem_cons_succ, List.getElem_cons_zero, Act.put, List.setIfInBounds_toArray, List.set_cons_zero, List.set_cons_succ]
      refine wpAnyY_takeF 10 (.pointer (some ⟨ρ i, j, none⟩)) rfl (by kernel_rfl) (fun _ _ _ h => hPn _ _ _ _ (by rfl) h) rfl (by intro wz; go_simp; try rfl) ?_
      try simp only [List.getElem_toArray, List.getElem_cons_succ, List.getElem_cons_zero, Act.put, List.setIfInBounds_toArray, List.set_cons_zero, List.set_cons_succ]
      refine wpAnyY_take [15] 11 (.int .u8 (x.v : Int)) rfl (by kernel_rfl) (fun _ _ _ h => hPn _ _ _ _ (by rfl) h) SS rfl (by rintro wz ⟨z1, z2⟩; go_simp) ?_
      try simp only [List.getElem_toArray, List.getElem_cons_succ, List.getElem_cons_zero, Act.put, List.setIfInBounds_toArray, List.set_cons_zero, List.set_cons_succ]
      refine wpAnyY_takeF 12 (.int .u8 (c.v : Int)) rfl (by kernel_rfl) (fun _ _ _ h => hPn _ _ _ _ (by rfl) h) rfl (by intro wz; go_simp; try rfl) ?_
      try simp only [List.getElem_toArray, List.getElem_cons_succ, List.getElem_cons_zero, Act.put, List.setIfInBounds_toArray, List.set_cons_zero, List.set_cons_succ]
      refine wpAnyY_oneB 13 rfl (by kernel_rfl) (fun KK hKK => ?_)
      go_simp
      go_at_call 26
      refine (gmul_any x c _).mono ?_
      rintro e wx ⟨rfl, hwx⟩
      dsimp only
      rw [hwx]
      clear hwx wx
      refine hKK _ _ (fun h _ => h) ?_
      try simp only [List.getElem_toArray, List.getElem_cons_succ, List.getElem_cons_zero, Act.put, List.setIfInBounds_toArray, List.set_cons_zero, List.set_cons_succ]
      refine wpAnyY_takeF 14 (.pointer (some ⟨ρ i, j, none⟩)) rfl (by kernel_rfl) (fun _ _ _ h => hPn _ _ _ _ (by rfl) h) rfl (by intro wz; go_simp; try rfl) ?_
      try simp only [List.getElem_toArray, List.getElem_cons_succ, List.getElem_cons_zero, Act.put, List.setIfInBounds_toArray, List.set_cons_zero, List.set_cons_succ]
      have hMd := HM.out.keep Gd
      obtain ⟨X, bX, hX⟩ := hMd.rr i hi
      refine wpAnyY_oneB 15 rfl (by kernel_rfl) (fun KK hKK => ?_)
      refine step_of_listR rfl ?_
      refine wpList_stC _ rfl _ _ _ rfl (ρ i) j 5 X _ (.int .u8 ((x * c : GF).v : Int)) rfl rfl bX (fun w' hc hf => stc_u8 _ _ _ w' hc hf) (Array.getElem?_eq_some_iff.1 (hX j hj)).1 rfl ?_
      intro w5 b5 g5
      show KK _ w5
      refine hKK _ _ (fun _ h => absurd (by decide) h) ?_
      try simp only [List.getElem_toArray, List.getElem_cons_succ, List.getElem_cons_zero, Act.put, List.setIfInBounds_toArray, List.set_cons_zero, List.set_cons_succ]
      refine wpAnyY_doneB (by kernel_rfl) ?_ _
      have hM5 := hMd.setM hi hj _ bX b5 g5
      rw [HST.out] at hM5
      have G5 := (grown_far (grown_trans GR Gd) g5 (fun z e => by have e := Option.some.inj e; subst e; exact Nat.le_trans hlo hlr0))
      have HM5 : Hid _ := hM5
      clear hM5 hMd bX b5 g5 hX HST e1 e2
      (try simp only [Exit.inBlock, Exit.then])
      refine HK2.out _ _ ?_
      clear HK2
      go_wp2
      go_roundw
      case rel => exact ⟨j + 1, by omega, by go_num, HM5.out, G5⟩
      case measure => simp [intOf] <;> omega
    · have ljj : ¬ (j : Int) < (n : Int) := by omega
      go_wp2
      (try simp only [Exit.inBlock, Exit.then])
      refine HK0.out _ _ ?_
      clear HK0
      have HM2 : Hid (MT wr lo gm gb n ρ cr (scl M c i) b) := HM.out.congr (fun r' j' _ h2 => by
        unfold sclP scl
        by_cases h1 : r' = i
        · rw [if_pos ⟨h1, by omega⟩, if_pos h1]
        · rw [if_neg (fun e => h1 e.1), if_neg h1]) (fun _ _ => rfl)
      clear HM
      have e1 := HM2.out.cb hi
      obtain ⟨X, bX, hX⟩ := HM2.out.bb
      have hXl := (Array.getElem?_eq_some_iff.1 (hX i hi)).1
      have HB : Hid (∀ (w5 : World), BxS w5 gb 5 (X.setIfInBounds i (.int .u8 ((b i * c : GF).v : Int))) → wr.grownBy w5 (some gb) → MT w5 lo gm gb n ρ cr (scl M c i) (sclb b c i)) := fun w5 h1 h2 => (HM2.out.setB hi _ bX h1 h2).congr (fun _ _ _ _ => rfl) (fun q _ => by
        unfold upd1 sclb
        by_cases h : q = i
        · simp only [if_pos h]
        · simp only [if_neg h])
      have HMUL : Hid _ := gmul_any (b i) c
      generalize b i = x at *
      refine wp_seq_k fun K3 hK3 => ?_
      have HK3 : Hid _ := hK3
      clear hK3
      have s1 : True := trivial
      go_wp2_with (first
        | (have _t := s1; clear s1; go_at_call 26; refine Calls.mono (HMUL.out wr) ?_; rintro e wx ⟨rfl, hwx⟩; rw [hwx]; clear hwx; have s2 : True := trivial)
        | (have _t := s2; clear s2; refine wpList_stC wr rfl _ (.tmp 108) (.tmp 107) rfl gb i 5 X _ (.int .u8 ((x * c : GF).v : Int)) rfl rfl bX (fun w' hc hf => stc_u8 _ _ _ w' hc hf) hXl rfl ?_; intro w5 b5 g5))
      refine HK3.out _ _ ?_
      clear HK3
      have HM5 : Hid _ := HB.out w5 b5 g5
      have G5 := (grown_far GR g5 (fun z e => by have e := Option.some.inj e; subst e; exact Nat.le_trans hlo hlb0))
      clear b5 g5 HB bX hX hXl HMUL e1 HM2
      refine sv_t18 _ (by intro c a1 a2 w9 hd h; exact hPn c a1 a2 w9 hd h) wB w5 G5 lo gm gb n cm cb hlo hn ρ cr _ _ HM5.out i hi ?_
      intro v12 v13 v14 v109 v110 v111 v112 v113 v114 v115 v116 v117 v118 v119 v120 v121 v122 v123 v124 v125 v126 v127 v128 v129 v130 v131 v132 v133 v134 v135 v136 v137 v138 v139 v140 v141 v142 v143 v144 v145 v146 v147 v148 v149 v150 v151 v152 v153 v154 v155 v156 v157 v158 v159 v160 v161 v162 w6 hM6 G6
      exact HQ.out _ _ _ _ _ _ _ _ _ _ _ _ _ _ _ _ _ _ _ _ _ _ _ _ _ _ _ _ _ _ _ _ _ _ _ _ _ _ _ _ _ _ _ _ _ _ _ _ _ _ _ _ _ _ _ _ _ _ _ _ _ _ _ _ _ _ _ _ _ _ _ _ _ _ _ _ _ _ _ _ _ _ _ _ _ _ _ w6 hM6 G6
set_option maxHeartbeats 32000000 in
theorem sv_t10 [Add GF] [Mul GF] [OfNat GF 0] [OfNat GF 1] [L : Nonempty GL] {u2 u3 u4 u5 u9 u10 u11 u12 u13 u14 u15 u16 u17 u18 u19 u20 u21 u22 u23 u24 u25 u26 u27 u28 u29 u30 u31 u32 u33 u34 u35 u36 u37 u38 u39 u40 u41 u42 u43 u44 u45 u46 u47 u48 u49 u50 u51 u52 u53 u54 u55 u56 u57 u58 u59 u60 u61 u62 u63 u64 u65 u66 u67 u68 u69 u70 u71 u72 u73 u74 u75 u76 u77 u78 u79 u80 u81 u82 u83 u84 u85 u86 u87 u88 u89 u90 u91 u92 u93 u94 u95 u96 u97 u98 u99 u100 u101 u102 u103 u104 u105 u106 u107 u108 u109 u110 u111 u112 u113 u114 u115 u116 u117 u118 u119 u120 u121 u122 u123 u124 u125 u126 u127 u128 u129 u130 u131 u132 u133 u134 u135 u136 u137 u138 u139 u140 u141 u142 u143 u144 u145 u146 u147 u148 u149 u150 u151 u152 u153 u154 u155 u156 u157 u158 u159 u160 u161 u162 u163 : Value} (Q : Exit → Act → World → Prop) (hPn : ∀ c (a1 a2 : Act) w, a1.defers = a2.defers → Q (.panic c) a1 w → Q (.panic c) a2 w) (wB w : World) (GB : wB.grownBy w none) (lo gm gb n cm cb : Nat) (hlo : wB.heap.size ≤ lo) (hn : n ≤ 1000) (ρ cr : Nat → Nat) (M : Nat → Nat → GF) (b : Nat → GF) (hM : MT w lo gm gb n ρ cr M b) (i k : Nat) (hi : i < n) (hk : k < n) (hp : M k i ≠ 0)
    (hQ : ∀ v9 v10 v11 v12 v13 v14 v41 v42 v43 v44 v45 v46 v47 v48 v49 v50 v51 v52 v53 v54 v55 v56 v57 v58 v59 v60 v61 v62 v63 v64 v65 v66 v67 v68 v69 v70 v71 v72 v73 v74 v75 v76 v77 v78 v79 v80 v81 v82 v83 v84 v85 v86 v87 v88 v89 v90 v91 v92 v93 v94 v95 v96 v97 v98 v99 v100 v101 v102 v103 v104 v105 v106 v107 v108 v109 v110 v111 v112 v113 v114 v115 v116 v117 v118 v119 v120 v121 v122 v123 v124 v125 v126 v127 v128 v129 v130 v131 v132 v133 v134 v135 v136 v137 v138 v139 v140 v141 v142 v143 v144 v145 v146 v147 v148 v149 v150 v151 v152 v153 v154 v155 v156 v157 v158 v159 v160 v161 v162 (w' : World), MT w' lo gm gb n (swp ρ i k) (swp cr i k) (clr (scl (swp M i k) (inv (M k i)) i) i) (clrb (scl (swp M i k) (inv (M k i)) i) (sclb (swp b i k) (inv (M k i)) i) i) → wB.grownBy w' none → Q .normal (Act.mk (List.toArray ((.slice (some ⟨gm, 0, none⟩) n cm) :: (.slice (some ⟨gb, 0, none⟩) n cb) :: u2 :: u3 :: u4 :: u5 :: (.int .i64 (n : Int)) :: (.int .i64 (i : Int)) :: (.int .i64 (k : Int)) :: v9 :: v10 :: v11 :: v12 :: v13 :: v14 :: u15 :: u16 :: u17 :: u18 :: u19 :: u20 :: u21 :: u22 :: u23 :: u24 :: u25 :: u26 :: u27 :: u28 :: u29 :: u30 :: u31 :: u32 :: u33 :: u34 :: u35 :: u36 :: u37 :: u38 :: u39 :: u40 :: v41 :: v42 :: v43 :: v44 :: v45 :: v46 :: v47 :: v48 :: v49 :: v50 :: v51 :: v52 :: v53 :: v54 :: v55 :: v56 :: v57 :: v58 :: v59 :: v60 :: v61 :: v62 :: v63 :: v64 :: v65 :: v66 :: v67 :: v68 :: v69 :: v70 :: v71 :: v72 :: v73 :: v74 :: v75 :: v76 :: v77 :: v78 :: v79 :: v80 :: v81 :: v82 :: v83 :: v84 :: v85 :: v86 :: v87 :: v88 :: v89 :: v90 :: v91 :: v92 :: v93 :: v94 :: v95 :: v96 :: v97 :: v98 :: v99 :: v100 :: v101 :: v102 :: v103 :: v104 :: v105 :: v106 :: v107 :: v108 :: v109 :: v110 :: v111 :: v112 :: v113 :: v114 :: v115 :: v116 :: v117 :: v118 :: v119 :: v120 :: v121 :: v122 :: v123 :: v124 :: v125 :: v126 :: v127 :: v128 :: v129 :: v130 :: v131 :: v132 :: v133 :: v134 :: v135 :: v136 :: v137 :: v138 :: v139 :: v140 :: v141 :: v142 :: v143 :: v144 :: v145 :: v146 :: v147 :: v148 :: v149 :: v150 :: v151 :: v152 :: v153 :: v154 :: v155 :: v156 :: v157 :: v158 :: v159 :: v160 :: v161 :: v162 :: u163 :: [])) []) w') :
    Code.wp Tryd.prog (tailR 10 (Tryd.f27.body.getD .skip)) Q (Act.mk (List.toArray ((.slice (some ⟨gm, 0, none⟩) n cm) :: (.slice (some ⟨gb, 0, none⟩) n cb) :: u2 :: u3 :: u4 :: u5 :: (.int .i64 (n : Int)) :: (.int .i64 (i : Int)) :: (.int .i64 (k : Int)) :: u9 :: u10 :: u11 :: u12 :: u13 :: u14 :: u15 :: u16 :: u17 :: u18 :: u19 :: u20 :: u21 :: u22 :: u23 :: u24 :: u25 :: u26 :: u27 :: u28 :: u29 :: u30 :: u31 :: u32 :: u33 :: u34 :: u35 :: u36 :: u37 :: u38 :: u39 :: u40 :: u41 :: u42 :: u43 :: u44 :: u45 :: u46 :: u47 :: u48 :: u49 :: u50 :: u51 :: u52 :: u53 :: u54 :: u55 :: u56 :: u57 :: u58 :: u59 :: u60 :: u61 :: u62 :: u63 :: u64 :: u65 :: u66 :: u67 :: u68 :: u69 :: u70 :: u71 :: u72 :: u73 :: u74 :: u75 :: u76 :: u77 :: u78 :: u79 :: u80 :: u81 :: u82 :: u83 :: u84 :: u85 :: u86 :: u87 :: u88 :: u89 :: u90 :: u91 :: u92 :: u93 :: u94 :: u95 :: u96 :: u97 :: u98 :: u99 :: u100 :: u101 :: u102 :: u103 :: u104 :: u105 :: u106 :: u107 :: u108 :: u109 :: u110 :: u111 :: u112 :: u113 :: u114 :: u115 :: u116 :: u117 :: u118 :: u119 :: u120 :: u121 :: u122 :: u123 :: u124 :: u125 :: u126 :: u127 :: u128 :: u129 :: u130 :: u131 :: u132 :: u133 :: u134 :: u135 :: u136 :: u137 :: u138 :: u139 :: u140 :: u141 :: u142 :: u143 :: u144 :: u145 :: u146 :: u147 :: u148 :: u149 :: u150 :: u151 :: u152 :: u153 :: u154 :: u155 :: u156 :: u157 :: u158 :: u159 :: u160 :: u161 :: u162 :: u163 :: [])) []) w := by
  conv => enter [2]; whnf
  have HQ : Hid _ := hQ
  have HM : Hid _ := hM
  have lii : (i : Int) < (n : Int) := by omega
  have lkk : (k : Int) < (n : Int) := by omega
  have hlm0 := hM.lm
  have hlb0 := hM.lb
  have e1 := hM.cm hk
  have e2 := hM.cm hi
  clear hQ hM
  refine wp_seq_k fun K0 hK0 => ?_
  have HK0 : Hid _ := hK0
  clear hK0
  have Gd := grown_drew w none
  have SS : w.drew.cell? ⟨gm, k, none⟩ = some (.slice (some ⟨ρ k, 0, none⟩) n (cr k)) ∧ w.drew.cell? ⟨gm, i, none⟩ = some (.slice (some ⟨ρ i, 0, none⟩) n (cr i)) := ⟨cell_drew _ e1, cell_drew _ e2⟩
  refine wp_regionM (fun wz => wz.cell? ⟨gm, k, none⟩ = some (.slice (some ⟨ρ k, 0, none⟩) n (cr k)) ∧ wz.cell? ⟨gm, i, none⟩ = some (.slice (some ⟨ρ i, 0, none⟩) n (cr i))) [13, 14, 15] #[false, false, false, false, false, false, false, false, false, false, false, false, false, false, false, false] rfl (by kernel_rfl) ?_
  generalize w.drew = wd at *
  refine wpAnyY_takeF 0 (.slice (some ⟨gm, 0, none⟩) n cm) rfl (by kernel_rfl) (fun _ _ _ h => hPn _ _ _ _ (by rfl) h) rfl (by intro wz; go_simp; try rfl) ?_
  try simp only [List.getElem_toArray, List.getElem_cons_succ, List.getElem_cons_zero, Act.put, List.setIfInBounds_toArray, List.set_cons_zero, List.set_cons_succ]
  refine wpAnyY_takeF 1 (.int .i64 (i : Int)) rfl (by kernel_rfl) (fun _ _ _ h => hPn _ _ _ _ (by rfl) h) rfl (by intro wz; go_simp; try rfl) ?_
  try simp only [List.getElem_toArray, List.getElem_cons_succ, List.getElem_cons_zero, Act.put, List.setIfInBounds_toArray, List.set_cons_zero, List.set_cons_succ]
  refine wpAnyY_takeF 2 (.slice (some ⟨gm, 0, none⟩) n cm) rfl (by kernel_rfl) (fun _ _ _ h => hPn _ _ _ _ (by rfl) h) rfl (by intro wz; go_simp; try rfl) ?_
  try simp only [List.getElem_toArray, List.getElem_cons_succ, List.getElem_cons_zero, Act.put, List.setIfInBounds_toArray, List.set_cons_zero, List.set_cons_succ]
  refine wpAnyY_takeF 3 (.int .i64 (k : Int)) rfl (by kernel_rfl) (fun _ _ _ h => hPn _ _ _ _ (by rfl) h) rfl (by intro wz; go_simp; try rfl) ?_
  try simp only [List.getElem_toArray, List.getElem_cons_succ, List.getElem_cons_zero, Act.put, List.setIfInBounds_toArray, List.set_cons_zero, List.set_cons_succ]
  refine wpAnyY_takeF 4 (.slice (some ⟨gm, 0, none⟩) n cm) rfl (by kernel_rfl) (fun _ _ _ h => hPn _ _ _ _ (by rfl) h) rfl (by intro wz; go_simp; try rfl) ?_
  try simp only [List.getElem_toArray, List.getElem_cons_succ, List.getElem_cons_zero, Act.put, List.setIfInBounds_toArray, List.set_cons_zero, List.set_cons_succ]
  refine wpAnyY_takeF 5 (.int .i64 (k : Int)) rfl (by kernel_rfl) (fun _ _ _ h => hPn _ _ _ _ (by rfl) h) rfl (by intro wz; go_simp; try rfl) ?_
  try simp only [List.getElem_toArray, List.getElem_cons_succ, List.getElem_cons_zero, Act.put, List.setIfInBounds_toArray, List.set_cons_zero, List.set_cons_succ]
  refine wpAnyY_takeF 6 (.pointer (some ⟨gm, k, none⟩)) rfl (by kernel_rfl) (fun _ _ _ h => hPn _ _ _ _ (by rfl) h) rfl (by intro wz; go_simp; try rfl) ?_
  try simp only [List.getElem_toArray, List.getElem_cons_succ, List.getElem_cons_zero, Act.put, List.setIfInBounds_toArray, List.set_cons_zero, List.set_cons_succ]
  refine wpAnyY_take [13, 14, 15] 7 (.slice (some ⟨ρ k, 0, none⟩) n (cr k)) rfl (by kernel_rfl) (fun _ _ _ h => hPn _ _ _ _ (by rfl) h) SS rfl (by rintro wz ⟨z1, z2⟩; go_simp) ?_
  try simp only [List.getElem_toArray, List.getElem_cons_succ, List.getElem_cons_zero, Act.put, List.setIfInBounds_toArray, List.set_cons_zero, List.set_cons_succ]
  refine wpAnyY_takeF 8 (.slice (some ⟨gm, 0, none⟩) n cm) rfl (by kernel_rfl) (fun _ _ _ h => hPn _ _ _ _ (by rfl) h) rfl (by intro wz; go_simp; try rfl) ?_
  try simp only [List.getElem_toArray, List.getElem_cons_succ, List.getElem_cons_zero, Act.put, List.setIfInBounds_toArray, List.set_cons_zero, List.set_cons_succ]
  refine wpAnyY_takeF 9 (.int .i64 (i : Int)) rfl (by kernel_rfl) (fun _ _ _ h => hPn _ _ _ _ (by rfl) h) rfl (by intro wz; go_simp; try rfl) ?_
  try simp only [List.getElem_toArray, List.getElem_cons_succ, List.getElem_cons_zero, Act.put, List.setIfInBounds_toArray, List.set_cons_zero, List.set_cons_succ]
  refine wpAnyY_takeF 10 (.pointer (some ⟨gm, i, none⟩)) rfl (by kernel_rfl) (fun _ _ _ h => hPn _ _ _ _ (by rfl) h) rfl (by intro wz; go_simp; try rfl) ?_
  try simp only [List.getElem_toArray, List.getElem_cons_succ, List.getElem_cons_zero, Act.put, List.setIfInBounds_toArray, List.set_cons_zero, List.set_cons_succ]
  refine wpAnyY_take [13, 14, 15] 11 (.slice (some ⟨ρ i, 0, none⟩) n (cr i)) rfl (by kernel_rfl) (fun _ _ _ h => hPn _ _ _ _ (by rfl) h) SS rfl (by rintro wz ⟨z1, z2⟩; go_simp) ?_
  try simp only [List.getElem_toArray, List.getElem_cons_succ, List.getElem_cons_zero, Act.put, List.setIfInBounds_toArray, List.set_cons_zero, List.set_cons_succ]
  refine wpAnyY_takeF 12 (.pointer (some ⟨gm, i, none⟩)) rfl (by kernel_rfl) (fun _ _ _ h => hPn _ _ _ _ (by rfl) h) rfl (by intro wz; go_simp; try rfl) ?_
  try simp only [List.getElem_toArray, List.getElem_cons_succ, List.getElem_cons_zero, Act.put, List.setIfInBounds_toArray, List.set_cons_zero, List.set_cons_succ]
  have hMd := HM.out.keep Gd
  obtain ⟨X, bX, hX⟩ := hMd.mm
  have hXi := (Array.getElem?_eq_some_iff.1 (hX i hi)).1
  have hXk := (Array.getElem?_eq_some_iff.1 (hX k hk)).1
  refine wpAnyY_oneB 13 rfl (by kernel_rfl) (fun KK hKK => ?_)
  refine step_of_listR rfl ?_
  refine wpList_stC _ rfl _ _ _ rfl gm i 22 X _ (.slice (some ⟨ρ k, 0, none⟩) n (cr k)) rfl rfl bX (fun w' hc hf => stc_sl _ _ _ _ _ w' hc hf) hXi rfl ?_
  intro w5 b5 g5
  show KK _ w5
  refine hKK _ _ (fun _ h => absurd (by decide) h) ?_
  try simp only [List.getElem_toArray, List.getElem_cons_succ, List.getElem_cons_zero, Act.put, List.setIfInBounds_toArray, List.set_cons_zero, List.set_cons_succ]
  refine wpAnyY_takeF 14 (.pointer (some ⟨gm, k, none⟩)) rfl (by kernel_rfl) (fun _ _ _ h => hPn _ _ _ _ (by rfl) h) rfl (by intro wz; go_simp; try rfl) ?_
  try simp only [List.getElem_toArray, List.getElem_cons_succ, List.getElem_cons_zero, Act.put, List.setIfInBounds_toArray, List.set_cons_zero, List.set_cons_succ]
  refine wpAnyY_oneB 15 rfl (by kernel_rfl) (fun KK hKK => ?_)
  refine step_of_listR rfl ?_
  refine wpList_stC _ rfl _ _ _ rfl gm k 22 _ _ (.slice (some ⟨ρ i, 0, none⟩) n (cr i)) rfl rfl b5 (fun w' hc hf => stc_sl _ _ _ _ _ w' hc hf) (by rw [Array.size_setIfInBounds]; exact hXk) rfl ?_
  intro w6 b6 g6
  show KK _ w6
  refine hKK _ _ (fun _ h => absurd (by decide) h) ?_
  try simp only [List.getElem_toArray, List.getElem_cons_succ, List.getElem_cons_zero, Act.put, List.setIfInBounds_toArray, List.set_cons_zero, List.set_cons_succ]
  refine wpAnyY_doneB (by kernel_rfl) ?_ _
  refine HK0.out _ _ ?_
  clear HK0
  have hM6 := hMd.swap hi hk bX g5 g6 b6
  have G6 := (grown_far (grown_far (grown_trans GB Gd) g5 (fun z e => by have e := Option.some.inj e; subst e; exact Nat.le_trans hlo hlm0)) g6 (fun z e => by have e := Option.some.inj e; subst e; exact Nat.le_trans hlo hlm0))
  have HM6 : Hid _ := hM6
  clear hM6 hMd bX b5 b6 g5 g6 hX hXi hXk e1 e2 HM Gd
  have e1 := HM6.out.cb hk
  have e2 := HM6.out.cb hi
  have HSW : Hid (upd1 (upd1 b i (b k)) k (b i) = swp b i k) := by
    show _ = _
    funext q
    unfold upd1 swp
    by_cases h1 : q = i
    · by_cases h2 : q = k
      · rw [if_pos h2, if_pos h1, ← h1, h2]
      · rw [if_neg h2, if_pos h1, if_pos h1]
    · by_cases h2 : q = k
      · rw [if_pos h2, if_neg h1, if_pos h2]
      · rw [if_neg h2, if_neg h1, if_neg h1, if_neg h2]
  have HB0 : Hid (∀ y x : GF, b k = y → b i = x → upd1 (upd1 b i y) k x = swp b i k) := fun y x h1 h2 => by rw [← h1, ← h2]; exact HSW.out
  obtain ⟨y, hy⟩ : ∃ y, b k = y := ⟨_, rfl⟩
  obtain ⟨x, hx⟩ : ∃ x, b i = x := ⟨_, rfl⟩
  have HSX : Hid _ := HB0.out y x hy hx
  rw [hy] at e1
  rw [hx] at e2
  clear hy hx HB0 HSW
  refine wp_seq_k fun K1 hK1 => ?_
  have HK1 : Hid _ := hK1
  clear hK1
  have Gd := grown_drew w6 none
  have SS : w6.drew.cell? ⟨gb, k, none⟩ = some (.int .u8 (y.v : Int)) ∧ w6.drew.cell? ⟨gb, i, none⟩ = some (.int .u8 (x.v : Int)) := ⟨cell_drew _ e1, cell_drew _ e2⟩
  refine wp_regionM (fun wz => wz.cell? ⟨gb, k, none⟩ = some (.int .u8 (y.v : Int)) ∧ wz.cell? ⟨gb, i, none⟩ = some (.int .u8 (x.v : Int))) [13, 14, 15] #[false, false, false, false, false, false, false, false, false, false, false, false, false, false, false, false] rfl (by kernel_rfl) ?_
  generalize w6.drew = wd at *
  refine wpAnyY_takeF 0 (.slice (some ⟨gb, 0, none⟩) n cb) rfl (by kernel_rfl) (fun _ _ _ h => hPn _ _ _ _ (by rfl) h) rfl (by intro wz; go_simp; try rfl) ?_
  try simp only [List.getElem_toArray, List.getElem_cons_succ, List.getElem_cons_zero, Act.put, List.setIfInBounds_toArray, List.set_cons_zero, List.set_cons_succ]
  refine wpAnyY_takeF 1 (.int .i64 (i : Int)) rfl (by kernel_rfl) (fun _ _ _ h => hPn _ _ _ _ (by rfl) h) rfl (by intro wz; go_simp; try rfl) ?_
  try simp only [List.getElem_toArray, List.getElem_cons_succ, List.getElem_cons_zero, Act.put, List.setIfInBounds_toArray, List.set_cons_zero, List.set_cons_succ]
  refine wpAnyY_takeF 2 (.slice (some ⟨gb, 0, none⟩) n cb) rfl (by kernel_rfl) (fun _ _ _ h => hPn _ _ _ _ (by rfl) h) rfl (by intro wz; go_simp; try rfl) ?_
  try simp only [List.getElem_toArray, List.getElem_cons_succ, List.getElem_cons_zero, Act.put, List.setIfInBounds_toArray, List.set_cons_zero, List.set_cons_succ]
  refine wpAnyY_takeF 3 (.int .i64 (k : Int)) rfl (by kernel_rfl) (fun _ _ _ h => hPn _ _ _ _ (by rfl) h) rfl (by intro wz; go_simp; try rfl) ?_
  try simp only [List.getElem_toArray, List.getElem_cons_succ, List.getElem_cons_zero, Act.put, List.setIfInBounds_toArray, List.set_cons_zero, List.set_cons_succ]
  refine wpAnyY_takeF 4 (.slice (some ⟨gb, 0, none⟩) n cb) rfl (by kernel_rfl) (fun _ _ _ h => hPn _ _ _ _ (by rfl) h) rfl (by intro wz; go_simp; try rfl) ?_
  try simp only [List.getElem_toArray, List.getElem_cons_succ, List.getElem_cons_zero, Act.put, List.setIfInBounds_toArray, List.set_cons_zero, List.set_cons_succ]
  refine wpAnyY_takeF 5 (.int .i64 (k : Int)) rfl (by kernel_rfl) (fun _ _ _ h => hPn _ _ _ _ (by rfl) h) rfl (by intro wz; go_simp; try rfl) ?_
  try simp only [List.getElem_toArray, List.getElem_cons_succ, List.getElem_cons_zero, Act.put, List.setIfInBounds_toArray, List.set_cons_zero, List.set_cons_succ]
  refine wpAnyY_takeF 6 (.pointer (some ⟨gb, k, none⟩)) rfl (by kernel_rfl) (fun _ _ _ h => hPn _ _ _ _ (by rfl) h) rfl (by intro wz; go_simp; try rfl) ?_
  try simp only [List.getElem_toArray, List.getElem_cons_succ, List.getElem_cons_zero, Act.put, List.setIfInBounds_toArray, List.set_cons_zero, List.set_cons_succ]
  refine wpAnyY_take [13, 14, 15] 7 (.int .u8 (y.v : Int)) rfl (by kernel_rfl) (fun _ _ _ h => hPn _ _ _ _ (by rfl) h) SS rfl (by rintro wz ⟨z1, z2⟩; go_simp) ?_
  try simp only [List.getElem_toArray, List.getElem_cons_succ, List.getElem_cons_zero, Act.put, List.setIfInBounds_toArray, List.set_cons_zero, List.set_cons_succ]
  refine wpAnyY_takeF 8 (.slice (some ⟨gb, 0, none⟩) n cb) rfl (by kernel_rfl) (fun _ _ _ h => hPn _ _ _ _ (by rfl) h) rfl (by intro wz; go_simp; try rfl) ?_
  try simp only [List.getElem_toArray, List.getElem_cons_succ, List.getElem_cons_zero, Act.put, List.setIfInBounds_toArray, List.set_cons_zero, List.set_cons_succ]
  refine wpAnyY_takeF 9 (.int .i64 (i : Int)) rfl (by kernel_rfl) (fun _ _ _ h => hPn _ _ _ _ (by rfl) h) rfl (by intro wz; go_simp; try rfl) ?_
  try simp only [List.getElem_toArray, List.getElem_cons_succ, List.getElem_cons_zero, Act.put, List.setIfInBounds_toArray, List.set_cons_zero, List.set_cons_succ]
  refine wpAnyY_takeF 10 (.pointer (some ⟨gb, i, none⟩)) rfl (by kernel_rfl) (fun _ _ _ h => hPn _ _ _ _ (by rfl) h) rfl (by intro wz; go_simp; try rfl) ?_
  try simp only [List.getElem_toArray, List.getElem_cons_succ, List.getElem_cons_zero, Act.put, List.setIfInBounds_toArray, List.set_cons_zero, List.set_cons_succ]
  refine wpAnyY_take [13, 14, 15] 11 (.int .u8 (x.v : Int)) rfl (by kernel_rfl) (fun _ _ _ h => hPn _ _ _ _ (by rfl) h) SS rfl (by rintro wz ⟨z1, z2⟩; go_simp) ?_
  try simp only [List.getElem_toArray, List.getElem_cons_succ, List.getElem_cons_zero, Act.put, List.setIfInBounds_toArray, List.set_cons_zero, List.set_cons_succ]
  refine wpAnyY_takeF 12 (.pointer (some ⟨gb, i, none⟩)) rfl (by kernel_rfl) (fun _ _ _ h => hPn _ _ _ _ (by rfl) h) rfl (by intro wz; go_simp; try rfl) ?_
  try simp only [List.getElem_toArray, List.getElem_cons_succ, List.getElem_cons_zero, Act.put, List.setIfInBounds_toArray, List.set_cons_zero, List.set_cons_succ]
  have hMd := HM6.out.keep Gd
  obtain ⟨X, bX, hX⟩ := hMd.bb
  have hXi := (Array.getElem?_eq_some_iff.1 (hX i hi)).1
  have hXk := (Array.getElem?_eq_some_iff.1 (hX k hk)).1
  refine wpAnyY_oneB 13 rfl (by kernel_rfl) (fun KK hKK => ?_)
  refine step_of_listR rfl ?_
  refine wpList_stC _ rfl _ _ _ rfl gb i 5 X _ (.int .u8 (y.v : Int)) rfl rfl bX (fun w' hc hf => stc_u8 _ _ _ w' hc hf) hXi rfl ?_
  intro w5 b5 g5
  show KK _ w5
  refine hKK _ _ (fun _ h => absurd (by decide) h) ?_
  try simp only [List.getElem_toArray, List.getElem_cons_succ, List.getElem_cons_zero, Act.put, List.setIfInBounds_toArray, List.set_cons_zero, List.set_cons_succ]
  refine wpAnyY_takeF 14 (.pointer (some ⟨gb, k, none⟩)) rfl (by kernel_rfl) (fun _ _ _ h => hPn _ _ _ _ (by rfl) h) rfl (by intro wz; go_simp; try rfl) ?_
  try simp only [List.getElem_toArray, List.getElem_cons_succ, List.getElem_cons_zero, Act.put, List.setIfInBounds_toArray, List.set_cons_zero, List.set_cons_succ]
  refine wpAnyY_oneB 15 rfl (by kernel_rfl) (fun KK hKK => ?_)
  refine step_of_listR rfl ?_
  refine wpList_stC _ rfl _ _ _ rfl gb k 5 _ _ (.int .u8 (x.v : Int)) rfl rfl b5 (fun w' hc hf => stc_u8 _ _ _ w' hc hf) (by rw [Array.size_setIfInBounds]; exact hXk) rfl ?_
  intro w8 b6 g6
  show KK _ w8
  refine hKK _ _ (fun _ h => absurd (by decide) h) ?_
  try simp only [List.getElem_toArray, List.getElem_cons_succ, List.getElem_cons_zero, Act.put, List.setIfInBounds_toArray, List.set_cons_zero, List.set_cons_succ]
  refine wpAnyY_doneB (by kernel_rfl) ?_ _
  refine HK1.out _ _ ?_
  clear HK1
  have hM8 := (hMd.setB hi _ bX b5 g5).setB hk _ b5 b6 g6
  rw [HSX.out] at hM8
  have G8 := (grown_far (grown_far (grown_trans G6 Gd) g5 (fun z e => by have e := Option.some.inj e; subst e; exact Nat.le_trans hlo hlb0)) g6 (fun z e => by have e := Option.some.inj e; subst e; exact Nat.le_trans hlo hlb0))
  have HM8 : Hid _ := hM8
  clear hM8 hMd bX b5 b6 g5 g6 hX hXi hXk e1 e2 HM6 Gd HSX
  have e1 := HM8.out.cm hi
  have e2 := HM8.out.cx hi hi
  have hci : swp M i k i i = M k i := by unfold swp; rw [if_pos rfl]
  rw [hci] at e2
  have HINV : Hid _ := ginv_any (M k i) hp
  obtain ⟨ρ', hρ⟩ : ∃ ρ', swp ρ i k = ρ' := ⟨_, rfl⟩
  obtain ⟨cr', hcr⟩ : ∃ cr', swp cr i k = cr' := ⟨_, rfl⟩
  rw [hρ, hcr] at e1 HM8
  rw [hρ] at e2
  have HRC : Hid (ρ' = swp ρ i k ∧ cr' = swp cr i k) := ⟨hρ.symm, hcr.symm⟩
  clear hρ hcr hci hp
  obtain ⟨p, hpp⟩ : ∃ p, M k i = p := ⟨_, rfl⟩
  have HP : Hid _ := hpp
  rw [hpp] at e2 HINV
  clear hpp
  refine wp_seq_k fun K2 hK2 => ?_
  have HK2 : Hid _ := hK2
  clear hK2
  go_wp2_with (go_at_call 34; refine Calls.mono (HINV.out w8) ?_; rintro e wx ⟨rfl, hwx⟩; rw [hwx]; clear hwx)
  refine HK2.out _ _ ?_
  clear HK2
  refine sv_t13 _ (by intro c a1 a2 w9 hd h; exact hPn c a1 a2 w9 hd h) wB w8 G8 lo gm gb n cm cb hlo hn ρ' cr' _ _ HM8.out i hi (inv p) ?_
  intro v11 v12 v13 v14 v80 v81 v82 v83 v84 v85 v86 v87 v88 v89 v90 v91 v92 v93 v94 v95 v96 v97 v98 v99 v100 v101 v102 v103 v104 v105 v106 v107 v108 v109 v110 v111 v112 v113 v114 v115 v116 v117 v118 v119 v120 v121 v122 v123 v124 v125 v126 v127 v128 v129 v130 v131 v132 v133 v134 v135 v136 v137 v138 v139 v140 v141 v142 v143 v144 v145 v146 v147 v148 v149 v150 v151 v152 v153 v154 v155 v156 v157 v158 v159 v160 v161 v162 w9 hM9 G9
  exact HQ.out _ _ _ _ _ _ _ _ _ _ _ _ _ _ _ _ _ _ _ _ _ _ _ _ _ _ _ _ _ _ _ _ _ _ _ _ _ _ _ _ _ _ _ _ _ _ _ _ _ _ _ _ _ _ _ _ _ _ _ _ _ _ _ _ _ _ _ _ _ _ _ _ _ _ _ _ _ _ _ _ _ _ _ _ _ _ _ _ _ _ _ _ _ _ _ _ _ _ _ _ _ _ _ _ _ _ _ _ _ _ _ _ _ _ _ _ _ _ _ _ _ _ _ _ _ _ _ _ w9 (by rw [← HRC.out.1, ← HRC.out.2, HP.out]; exact hM9) G9
end
end Go.Proofs.YtdcfgaibppenaaaDoor
