import Derived.Test.YtdcfgaibppenaaaDoorSd11
namespace Go.Proofs.YtdcfgaibppenaaaDoor
open Go.RowKit
set_option maxRecDepth 100000
set_option linter.unusedVariables false
set_option linter.unusedSimpArgs false

section
open GF
def cM [Add GF] [Mul GF] [OfNat GF 0] [OfNat GF 1] [L : Nonempty GL] (M : Nat → Nat → GF) (i r : Nat) : Nat → Nat → GF := fun r' j' => if r' = r ∧ r ≠ i then M r j' + M r i * M i j' else M r' j'
def cB [Add GF] [Mul GF] [OfNat GF 0] [OfNat GF 1] [L : Nonempty GL] (M : Nat → Nat → GF) (b : Nat → GF) (i r : Nat) : Nat → GF := fun r' => if r' = r ∧ r ≠ i then b r + M r i * b i else b r'
def CMs [Add GF] [Mul GF] [OfNat GF 0] [OfNat GF 1] [L : Nonempty GL] (M : Nat → Nat → GF) (i r : Nat) : Nat → Nat → GF := fun r' j' => if r' < r ∧ r' ≠ i then M r' j' + M r' i * M i j' else M r' j'
def CBs [Add GF] [Mul GF] [OfNat GF 0] [OfNat GF 1] [L : Nonempty GL] (M : Nat → Nat → GF) (b : Nat → GF) (i r : Nat) : Nat → GF := fun r' => if r' < r ∧ r' ≠ i then b r' + M r' i * b i else b r'
theorem cms_step [Add GF] [Mul GF] [OfNat GF 0] [OfNat GF 1] [L : Nonempty GL] (M : Nat → Nat → GF) (i r : Nat) : cM (CMs M i r) i r = CMs M i (r + 1) := by
  have hrow : ∀ j, CMs M i r r j = M r j := fun j => if_neg (fun e => by omega)
  have hi : ∀ j, CMs M i r i j = M i j := fun j => if_neg (fun e => e.2 rfl)
  funext r' j'
  unfold cM
  rw [hrow, hrow, hi]
  unfold CMs
  by_cases h1 : r' = r
  · subst h1
    by_cases h2 : r' = i
    · rw [if_neg (fun e => e.2 h2), if_neg (fun e => e.2 h2), if_neg (fun e => e.2 h2)]
    · rw [if_pos ⟨rfl, h2⟩, if_pos ⟨by omega, h2⟩]
  · rw [if_neg (fun e => h1 e.1)]
    by_cases h2 : r' < r ∧ r' ≠ i
    · rw [if_pos h2, if_pos ⟨by omega, h2.2⟩]
    · rw [if_neg h2, if_neg (fun e => h2 ⟨by omega, e.2⟩)]
theorem cbs_step [Add GF] [Mul GF] [OfNat GF 0] [OfNat GF 1] [L : Nonempty GL] (M : Nat → Nat → GF) (b : Nat → GF) (i r : Nat) : cB (CMs M i r) (CBs M b i r) i r = CBs M b i (r + 1) := by
  have hrow : ∀ j, CMs M i r r j = M r j := fun j => if_neg (fun e => by omega)
  have hb : CBs M b i r r = b r := if_neg (fun e => by omega)
  have hi : CBs M b i r i = b i := if_neg (fun e => e.2 rfl)
  funext r'
  unfold cB
  rw [hrow, hb, hi]
  unfold CBs
  by_cases h1 : r' = r
  · subst h1
    by_cases h2 : r' = i
    · rw [if_neg (fun e => e.2 h2), if_neg (fun e => e.2 h2), if_neg (fun e => e.2 h2)]
    · rw [if_pos ⟨rfl, h2⟩, if_pos ⟨by omega, h2⟩]
  · rw [if_neg (fun e => h1 e.1)]
    by_cases h2 : r' < r ∧ r' ≠ i
    · rw [if_pos h2, if_pos ⟨by omega, h2.2⟩]
    · rw [if_neg h2, if_neg (fun e => h2 ⟨by omega, e.2⟩)]
def sclP [Add GF] [Mul GF] [OfNat GF 0] [OfNat GF 1] [L : Nonempty GL] (M : Nat → Nat → GF) (c : GF) (i j : Nat) : Nat → Nat → GF := fun r' j' => if r' = i ∧ j' < j then M i j' * c else M r' j'
theorem sclP_step [Add GF] [Mul GF] [OfNat GF 0] [OfNat GF 1] [L : Nonempty GL] (M : Nat → Nat → GF) (c : GF) (i j : Nat) : upd2 (sclP M c i j) i j (M i j * c) = sclP M c i (j + 1) := by
  funext r' j'
  unfold upd2 sclP
  by_cases h1 : r' = i
  · by_cases h2 : j' = j
    · rw [if_pos ⟨h1, h2⟩, if_pos ⟨h1, by omega⟩, h2]
    · rw [if_neg (fun e => h2 e.2)]
      by_cases h3 : j' < j
      · rw [if_pos ⟨h1, h3⟩, if_pos ⟨h1, by omega⟩]
      · rw [if_neg (fun e => h3 e.2), if_neg (fun e => by omega)]
  · rw [if_neg (fun e => h1 e.1), if_neg (fun e => h1 e.1), if_neg (fun e => h1 e.1)]
set_option maxHeartbeats 16000000 in
theorem sv_t21 [Add GF] [Mul GF] [OfNat GF 0] [OfNat GF 1] [L : Nonempty GL] {u2 u3 u4 u5 u8 u9 u10 u11 u13 u14 u15 u16 u17 u18 u19 u20 u21 u22 u23 u24 u25 u26 u27 u28 u29 u30 u31 u32 u33 u34 u35 u36 u37 u38 u39 u40 u41 u42 u43 u44 u45 u46 u47 u48 u49 u50 u51 u52 u53 u54 u55 u56 u57 u58 u59 u60 u61 u62 u63 u64 u65 u66 u67 u68 u69 u70 u71 u72 u73 u74 u75 u76 u77 u78 u79 u80 u81 u82 u83 u84 u85 u86 u87 u88 u89 u90 u91 u92 u93 u94 u95 u96 u97 u98 u99 u100 u101 u102 u103 u104 u105 u106 u107 u108 u109 u110 u111 u112 u113 u114 u115 u116 u117 u118 u119 u120 u121 u122 u123 u124 u125 u126 u127 u128 u129 u130 u131 u132 u133 u134 u135 u136 u137 u138 u139 u140 u141 u142 u143 u144 u145 u146 u147 u148 u149 u150 u151 u152 u153 u154 u155 u156 u157 u158 u159 u160 u161 u162 u163 : Value} (Q : Exit → Act → World → Prop) (hPn : ∀ c (a1 a2 : Act) w, a1.defers = a2.defers → Q (.panic c) a1 w → Q (.panic c) a2 w) (wB w : World) (GB : wB.grownBy w none) (lo gm gb n cm cb : Nat) (hlo : wB.heap.size ≤ lo) (hn : n ≤ 1000) (ρ cr : Nat → Nat) (M : Nat → Nat → GF) (b : Nat → GF) (hM : MT w lo gm gb n ρ cr M b) (i r : Nat) (hi : i < n) (hr : r < n)
    (hQ : ∀ v13 v14 v112 v113 v114 v115 v116 v117 v118 v119 v120 v121 v122 v123 v124 v125 v126 v127 v128 v129 v130 v131 v132 v133 v134 v135 v136 v137 v138 v139 v140 v141 v142 v143 v144 v145 v146 v147 v148 v149 v150 v151 v152 v153 v154 v155 v156 v157 v158 v159 v160 v161 v162 (w' : World), MT w' lo gm gb n ρ cr (cM M i r) (cB M b i r) → wB.grownBy w' none → Q .normal (Act.mk (List.toArray ((.slice (some ⟨gm, 0, none⟩) n cm) :: (.slice (some ⟨gb, 0, none⟩) n cb) :: u2 :: u3 :: u4 :: u5 :: (.int .i64 (n : Int)) :: (.int .i64 (i : Int)) :: u8 :: u9 :: u10 :: u11 :: (.int .i64 ((r : Int) + 1)) :: v13 :: v14 :: u15 :: u16 :: u17 :: u18 :: u19 :: u20 :: u21 :: u22 :: u23 :: u24 :: u25 :: u26 :: u27 :: u28 :: u29 :: u30 :: u31 :: u32 :: u33 :: u34 :: u35 :: u36 :: u37 :: u38 :: u39 :: u40 :: u41 :: u42 :: u43 :: u44 :: u45 :: u46 :: u47 :: u48 :: u49 :: u50 :: u51 :: u52 :: u53 :: u54 :: u55 :: u56 :: u57 :: u58 :: u59 :: u60 :: u61 :: u62 :: u63 :: u64 :: u65 :: u66 :: u67 :: u68 :: u69 :: u70 :: u71 :: u72 :: u73 :: u74 :: u75 :: u76 :: u77 :: u78 :: u79 :: u80 :: u81 :: u82 :: u83 :: u84 :: u85 :: u86 :: u87 :: u88 :: u89 :: u90 :: u91 :: u92 :: u93 :: u94 :: u95 :: u96 :: u97 :: u98 :: u99 :: u100 :: u101 :: u102 :: u103 :: u104 :: u105 :: u106 :: u107 :: u108 :: u109 :: u110 :: u111 :: v112 :: v113 :: v114 :: v115 :: v116 :: v117 :: v118 :: v119 :: v120 :: v121 :: v122 :: v123 :: v124 :: v125 :: v126 :: v127 :: v128 :: v129 :: v130 :: v131 :: v132 :: v133 :: v134 :: v135 :: v136 :: v137 :: v138 :: v139 :: v140 :: v141 :: v142 :: v143 :: v144 :: v145 :: v146 :: v147 :: v148 :: v149 :: v150 :: v151 :: v152 :: v153 :: v154 :: v155 :: v156 :: v157 :: v158 :: v159 :: v160 :: v161 :: v162 :: u163 :: [])) []) w') :
    Code.wp Tryd.prog (tailR 21 (Tryd.f27.body.getD .skip)) Q (Act.mk (List.toArray ((.slice (some ⟨gm, 0, none⟩) n cm) :: (.slice (some ⟨gb, 0, none⟩) n cb) :: u2 :: u3 :: u4 :: u5 :: (.int .i64 (n : Int)) :: (.int .i64 (i : Int)) :: u8 :: u9 :: u10 :: u11 :: (.int .i64 (r : Int)) :: u13 :: u14 :: u15 :: u16 :: u17 :: u18 :: u19 :: u20 :: u21 :: u22 :: u23 :: u24 :: u25 :: u26 :: u27 :: u28 :: u29 :: u30 :: u31 :: u32 :: u33 :: u34 :: u35 :: u36 :: u37 :: u38 :: u39 :: u40 :: u41 :: u42 :: u43 :: u44 :: u45 :: u46 :: u47 :: u48 :: u49 :: u50 :: u51 :: u52 :: u53 :: u54 :: u55 :: u56 :: u57 :: u58 :: u59 :: u60 :: u61 :: u62 :: u63 :: u64 :: u65 :: u66 :: u67 :: u68 :: u69 :: u70 :: u71 :: u72 :: u73 :: u74 :: u75 :: u76 :: u77 :: u78 :: u79 :: u80 :: u81 :: u82 :: u83 :: u84 :: u85 :: u86 :: u87 :: u88 :: u89 :: u90 :: u91 :: u92 :: u93 :: u94 :: u95 :: u96 :: u97 :: u98 :: u99 :: u100 :: u101 :: u102 :: u103 :: u104 :: u105 :: u106 :: u107 :: u108 :: u109 :: u110 :: u111 :: u112 :: u113 :: u114 :: u115 :: u116 :: u117 :: u118 :: u119 :: u120 :: u121 :: u122 :: u123 :: u124 :: u125 :: u126 :: u127 :: u128 :: u129 :: u130 :: u131 :: u132 :: u133 :: u134 :: u135 :: u136 :: u137 :: u138 :: u139 :: u140 :: u141 :: u142 :: u143 :: u144 :: u145 :: u146 :: u147 :: u148 :: u149 :: u150 :: u151 :: u152 :: u153 :: u154 :: u155 :: u156 :: u157 :: u158 :: u159 :: u160 :: u161 :: u162 :: u163 :: [])) []) w := by
  conv => enter [2]; whnf
  have HQ : Hid _ := hQ
  have HM0 : Hid _ := hM
  have lri : (r : Int) < (n : Int) := by omega
  have e1 := hM.cm hr
  have e3 := hM.cx hr hi
  have hlo' := hlo
  clear hQ hM
  by_cases hne : r = i
  · have HME : Hid (MT w lo gm gb n ρ cr (cM M i r) (cB M b i r)) := HM0.out.congr (fun r' j' _ _ => by unfold cM; rw [if_neg (fun e => e.2 hne)]) (fun j _ => by unfold cB; rw [if_neg (fun e => e.2 hne)])
    generalize M r i = f at *
    have lne : (r : Int) = (i : Int) := by omega
    have lieq : ((r : Int) == (i : Int)) = true := by rw [lne]; exact beq_self_eq_true _
    subst hne
    refine wp_seq_k fun K0 hK0 => ?_
    have HK0 : Hid _ := hK0
    clear hK0
    refine wp_block ?_
    refine wp_seq_k fun K1 hK1 => ?_
    have HK1 : Hid _ := hK1
    clear hK1
    go_wp2
    refine HK1.out _ _ ?_
    clear HK1
    refine wp_seq_k fun K2 hK2 => ?_
    have HK2 : Hid _ := hK2
    clear hK2
    go_wp2
    (try simp only [Exit.inBlock, Exit.then])
    refine HK0.out _ _ ?_
    clear HK0
    go_wp2
    exact HQ.out _ _ _ _ _ _ _ _ _ _ _ _ _ _ _ _ _ _ _ _ _ _ _ _ _ _ _ _ _ _ _ _ _ _ _ _ _ _ _ _ _ _ _ _ _ _ _ _ _ _ _ _ _ w (HME.out) GB
  · have lne : ¬ (r : Int) = (i : Int) := by omega
    by_cases hf : M r i = 0
    · have HME : Hid (MT w lo gm gb n ρ cr (cM M i r) (cB M b i r)) := HM0.out.congr (fun r' j' _ _ => by
        unfold cM
        by_cases h : r' = r ∧ r ≠ i
        · rw [if_pos h, hf, zero_mul, add_zero, h.1]
        · rw [if_neg h]) (fun j _ => by
        unfold cB
        by_cases h : j = r ∧ r ≠ i
        · rw [if_pos h, hf, zero_mul, add_zero, h.1]
        · rw [if_neg h])
      rw [hf] at e3
      have e3' : w.cell? ⟨ρ r, i, none⟩ = some (.int .u8 0) := by rw [zero_v] at e3; exact e3
      clear e3 hf
      refine wp_seq_k fun K0 hK0 => ?_
      have HK0 : Hid _ := hK0
      clear hK0
      refine wp_block ?_
      refine wp_seq_k fun K1 hK1 => ?_
      have HK1 : Hid _ := hK1
      clear hK1
      go_wp2
      refine HK1.out _ _ ?_
      clear HK1
      refine wp_seq_k fun K2 hK2 => ?_
      have HK2 : Hid _ := hK2
      clear hK2
      go_wp2
      (try simp only [Exit.inBlock, Exit.then])
      refine HK0.out _ _ ?_
      clear HK0
      go_wp2
      exact HQ.out _ _ _ _ _ _ _ _ _ _ _ _ _ _ _ _ _ _ _ _ _ _ _ _ _ _ _ _ _ _ _ _ _ _ _ _ _ _ _ _ _ _ _ _ _ _ _ _ _ _ _ _ _ w (HME.out) GB
    · have hfv : ¬ (M r i).v = 0 := ne_v hf
      have hfi : (((M r i).v : Int) == 0) = false := beq_false_of_ne (fun e => ne_v hf (by omega))
      have lneb : ((r : Int) == (i : Int)) = false := beq_false_of_ne lne
      have HF : Hid (∀ b', upd1 b' r (b' r + M r i * b' i) = cB M b' i r) := fun b' => by
        funext q
        unfold upd1 cB
        by_cases h : q = r
        · rw [if_pos h, if_pos ⟨h, hne⟩]
        · rw [if_neg h, if_neg (fun e => h e.1)]
      have HF2 : Hid (rowC M r i (M r i) = cM M i r) := by
        show _ = _
        funext q j'
        unfold rowC cM
        by_cases h : q = r
        · rw [if_pos h, if_pos ⟨h, hne⟩]
        · rw [if_neg h, if_neg (fun e => h e.1)]
      have HFE : Hid (∃ f, M r i = f) := ⟨_, rfl⟩
      obtain ⟨f, hfe⟩ := HFE.out
      rw [hfe] at e3 hfv hfi HF HF2
      clear hfe hf HFE
      refine wp_seq_k fun K0 hK0 => ?_
      have HK0 : Hid _ := hK0
      clear hK0
      refine wp_block ?_
      refine wp_seq_k fun K1 hK1 => ?_
      have HK1 : Hid _ := hK1
      clear hK1
      go_wp2
      refine HK1.out _ _ ?_
      clear HK1
      refine wp_seq_k fun K2 hK2 => ?_
      have HK2 : Hid _ := hK2
      clear hK2
      go_wp2
      refine HK2.out _ _ ?_
      clear HK2
      refine sv_t23 _ (by intro c a1 a2 w9 hd h; exact hPn c a1 a2 w9 hd h) wB w GB lo gm gb n cm cb hlo hn ρ cr M b HM0.out i r hi hr hne f ?_
      intro v14 v128 v129 v130 v131 v132 v133 v134 v135 v136 v137 v138 v139 v140 v141 v142 v143 v144 v145 v146 v147 v148 v149 v150 v151 v152 v153 v154 v155 v156 v157 v158 v159 v160 v161 v162 w5 hM5 G5
      have HM5 : Hid _ := hM5
      clear hM5
      (try simp only [Exit.inBlock, Exit.then])
      refine HK0.out _ _ ?_
      clear HK0
      go_wp2
      exact HQ.out _ _ _ _ _ _ _ _ _ _ _ _ _ _ _ _ _ _ _ _ _ _ _ _ _ _ _ _ _ _ _ _ _ _ _ _ _ _ _ _ _ _ _ _ _ _ _ _ _ _ _ _ _ w5 (by rw [← HF.out, ← HF2.out]; exact HM5.out) G5
set_option maxHeartbeats 16000000 in
theorem sv_t18 [Add GF] [Mul GF] [OfNat GF 0] [OfNat GF 1] [L : Nonempty GL] {u2 u3 u4 u5 u8 u9 u10 u11 u12 u13 u14 u15 u16 u17 u18 u19 u20 u21 u22 u23 u24 u25 u26 u27 u28 u29 u30 u31 u32 u33 u34 u35 u36 u37 u38 u39 u40 u41 u42 u43 u44 u45 u46 u47 u48 u49 u50 u51 u52 u53 u54 u55 u56 u57 u58 u59 u60 u61 u62 u63 u64 u65 u66 u67 u68 u69 u70 u71 u72 u73 u74 u75 u76 u77 u78 u79 u80 u81 u82 u83 u84 u85 u86 u87 u88 u89 u90 u91 u92 u93 u94 u95 u96 u97 u98 u99 u100 u101 u102 u103 u104 u105 u106 u107 u108 u109 u110 u111 u112 u113 u114 u115 u116 u117 u118 u119 u120 u121 u122 u123 u124 u125 u126 u127 u128 u129 u130 u131 u132 u133 u134 u135 u136 u137 u138 u139 u140 u141 u142 u143 u144 u145 u146 u147 u148 u149 u150 u151 u152 u153 u154 u155 u156 u157 u158 u159 u160 u161 u162 u163 : Value} (Q : Exit → Act → World → Prop) (hPn : ∀ c (a1 a2 : Act) w, a1.defers = a2.defers → Q (.panic c) a1 w → Q (.panic c) a2 w) (wB w : World) (GB : wB.grownBy w none) (lo gm gb n cm cb : Nat) (hlo : wB.heap.size ≤ lo) (hn : n ≤ 1000) (ρ cr : Nat → Nat) (M : Nat → Nat → GF) (b : Nat → GF) (hM : MT w lo gm gb n ρ cr M b) (i : Nat) (hi : i < n)
    (hQ : ∀ v12 v13 v14 v109 v110 v111 v112 v113 v114 v115 v116 v117 v118 v119 v120 v121 v122 v123 v124 v125 v126 v127 v128 v129 v130 v131 v132 v133 v134 v135 v136 v137 v138 v139 v140 v141 v142 v143 v144 v145 v146 v147 v148 v149 v150 v151 v152 v153 v154 v155 v156 v157 v158 v159 v160 v161 v162 (w' : World), MT w' lo gm gb n ρ cr (clr M i) (clrb M b i) → wB.grownBy w' none → Q .normal (Act.mk (List.toArray ((.slice (some ⟨gm, 0, none⟩) n cm) :: (.slice (some ⟨gb, 0, none⟩) n cb) :: u2 :: u3 :: u4 :: u5 :: (.int .i64 (n : Int)) :: (.int .i64 (i : Int)) :: u8 :: u9 :: u10 :: u11 :: v12 :: v13 :: v14 :: u15 :: u16 :: u17 :: u18 :: u19 :: u20 :: u21 :: u22 :: u23 :: u24 :: u25 :: u26 :: u27 :: u28 :: u29 :: u30 :: u31 :: u32 :: u33 :: u34 :: u35 :: u36 :: u37 :: u38 :: u39 :: u40 :: u41 :: u42 :: u43 :: u44 :: u45 :: u46 :: u47 :: u48 :: u49 :: u50 :: u51 :: u52 :: u53 :: u54 :: u55 :: u56 :: u57 :: u58 :: u59 :: u60 :: u61 :: u62 :: u63 :: u64 :: u65 :: u66 :: u67 :: u68 :: u69 :: u70 :: u71 :: u72 :: u73 :: u74 :: u75 :: u76 :: u77 :: u78 :: u79 :: u80 :: u81 :: u82 :: u83 :: u84 :: u85 :: u86 :: u87 :: u88 :: u89 :: u90 :: u91 :: u92 :: u93 :: u94 :: u95 :: u96 :: u97 :: u98 :: u99 :: u100 :: u101 :: u102 :: u103 :: u104 :: u105 :: u106 :: u107 :: u108 :: v109 :: v110 :: v111 :: v112 :: v113 :: v114 :: v115 :: v116 :: v117 :: v118 :: v119 :: v120 :: v121 :: v122 :: v123 :: v124 :: v125 :: v126 :: v127 :: v128 :: v129 :: v130 :: v131 :: v132 :: v133 :: v134 :: v135 :: v136 :: v137 :: v138 :: v139 :: v140 :: v141 :: v142 :: v143 :: v144 :: v145 :: v146 :: v147 :: v148 :: v149 :: v150 :: v151 :: v152 :: v153 :: v154 :: v155 :: v156 :: v157 :: v158 :: v159 :: v160 :: v161 :: v162 :: u163 :: [])) []) w') :
    Code.wp Tryd.prog (tailR 18 (Tryd.f27.body.getD .skip)) Q (Act.mk (List.toArray ((.slice (some ⟨gm, 0, none⟩) n cm) :: (.slice (some ⟨gb, 0, none⟩) n cb) :: u2 :: u3 :: u4 :: u5 :: (.int .i64 (n : Int)) :: (.int .i64 (i : Int)) :: u8 :: u9 :: u10 :: u11 :: u12 :: u13 :: u14 :: u15 :: u16 :: u17 :: u18 :: u19 :: u20 :: u21 :: u22 :: u23 :: u24 :: u25 :: u26 :: u27 :: u28 :: u29 :: u30 :: u31 :: u32 :: u33 :: u34 :: u35 :: u36 :: u37 :: u38 :: u39 :: u40 :: u41 :: u42 :: u43 :: u44 :: u45 :: u46 :: u47 :: u48 :: u49 :: u50 :: u51 :: u52 :: u53 :: u54 :: u55 :: u56 :: u57 :: u58 :: u59 :: u60 :: u61 :: u62 :: u63 :: u64 :: u65 :: u66 :: u67 :: u68 :: u69 :: u70 :: u71 :: u72 :: u73 :: u74 :: u75 :: u76 :: u77 :: u78 :: u79 :: u80 :: u81 :: u82 :: u83 :: u84 :: u85 :: u86 :: u87 :: u88 :: u89 :: u90 :: u91 :: u92 :: u93 :: u94 :: u95 :: u96 :: u97 :: u98 :: u99 :: u100 :: u101 :: u102 :: u103 :: u104 :: u105 :: u106 :: u107 :: u108 :: u109 :: u110 :: u111 :: u112 :: u113 :: u114 :: u115 :: u116 :: u117 :: u118 :: u119 :: u120 :: u121 :: u122 :: u123 :: u124 :: u125 :: u126 :: u127 :: u128 :: u129 :: u130 :: u131 :: u132 :: u133 :: u134 :: u135 :: u136 :: u137 :: u138 :: u139 :: u140 :: u141 :: u142 :: u143 :: u144 :: u145 :: u146 :: u147 :: u148 :: u149 :: u150 :: u151 :: u152 :: u153 :: u154 :: u155 :: u156 :: u157 :: u158 :: u159 :: u160 :: u161 :: u162 :: u163 :: [])) []) w := by
  conv => enter [2]; whnf
  have HQ : Hid _ := hQ
  have HM0 : Hid _ := hM
  clear hQ hM
  go_wp2
  go_loopw [12] (fun v12 wr => ∃ r : Nat, r ≤ n ∧ v12 = .int .i64 r ∧ MT wr lo gm gb n ρ cr (CMs M i r) (CBs M b i r) ∧ wB.grownBy wr none) (fun v12 _ => n - (intOf v12).toNat)
  case atStart => exact ⟨0, Nat.zero_le _, rfl, HM0.out.congr (fun r' j' _ _ => by unfold CMs; rw [if_neg (fun e => by omega)]) (fun j _ => by unfold CBs; rw [if_neg (fun e => by omega)]), GB⟩
  case round =>
    obtain ⟨r, hr', rfl, hMr, GR⟩ := hrel
    by_cases hr : r < n
    · have lrr : (r : Int) < (n : Int) := by omega
      have HM : Hid _ := hMr
      clear hMr
      refine wp_seq_k fun K0 hK0 => ?_
      have HK0 : Hid _ := hK0
      clear hK0
      go_wp2
      refine HK0.out _ _ ?_
      clear HK0
      refine sv_t21 _ (by intro c a1 a2 w9 hd h; exact hPn c a1 a2 w9 hd h) wB wr GR lo gm gb n cm cb hlo hn ρ cr _ _ HM.out i r hi hr ?_
      intro v13 v14 v112 v113 v114 v115 v116 v117 v118 v119 v120 v121 v122 v123 v124 v125 v126 v127 v128 v129 v130 v131 v132 v133 v134 v135 v136 v137 v138 v139 v140 v141 v142 v143 v144 v145 v146 v147 v148 v149 v150 v151 v152 v153 v154 v155 v156 v157 v158 v159 v160 v161 v162 w5 hM5 G5
      rw [cms_step, cbs_step] at hM5
      have HM5 : Hid _ := hM5
      clear hM5
      (try simp only [Exit.inBlock, Exit.then])
      (try dsimp only)
      go_roundw
      case rel => exact ⟨r + 1, by omega, by go_num, HM5.out, G5⟩
      case measure => simp [intOf] <;> omega
    · have lrr : ¬ (r : Int) < (n : Int) := by omega
      have HM2 : Hid (MT wr lo gm gb n ρ cr (clr M i) (clrb M b i)) := hMr.congr (fun r' j' h1 _ => by
        unfold CMs clr
        by_cases h : r' = i
        · rw [if_neg (fun e => e.2 h), if_pos h, h]
        · rw [if_pos ⟨by omega, h⟩, if_neg h]) (fun j h1 => by
        unfold CBs clrb
        by_cases h : j = i
        · rw [if_neg (fun e => e.2 h), if_pos h, h]
        · rw [if_pos ⟨by omega, h⟩, if_neg h])
      clear hMr
      go_wp2
      (try simp only [Exit.inBlock, Exit.then])
      exact HQ.out _ _ _ _ _ _ _ _ _ _ _ _ _ _ _ _ _ _ _ _ _ _ _ _ _ _ _ _ _ _ _ _ _ _ _ _ _ _ _ _ _ _ _ _ _ _ _ _ _ _ _ _ _ _ _ _ _ wr HM2.out GR
end
end Go.Proofs.YtdcfgaibppenaaaDoor
