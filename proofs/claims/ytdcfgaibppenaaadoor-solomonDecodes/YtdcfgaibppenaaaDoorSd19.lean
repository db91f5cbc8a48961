import Derived.Test.YtdcfgaibppenaaaDoorSd18
namespace Go.Proofs.YtdcfgaibppenaaaDoor
open Go.RowKit
set_option maxRecDepth 100000
set_option linter.unusedVariables false
set_option linter.unusedSimpArgs false

section
open GF
set_option maxHeartbeats 32000000 in
theorem wrongAt_any [Add GF] [Mul GF] [OfNat GF 0] [OfNat GF 1] [L : Nonempty GL] (a : Option Addr) (n cap c e : Nat) (W Hs : List Nat) (ha : Option Addr) (ch : Nat) (w : World) (hp : Rd w a n cap W) (hH : RdX w ha Hs.length ch (ppI Hs)) (hn : n ≤ 255) (hc1 : 1 ≤ c) (hc : c ≤ 64) (hec : 2 * e + Hs.length ≤ c) (hl : ∀ h, h ∈ Hs → h < n) :
    Calls Tryd.prog 10 #[.slice a n cap, .int .i64 (c : Int), .slice ha Hs.length ch, .int .i64 (e : Int)] w fun e' w' => w.grownBy w' none ∧ ((e' = .returned (.tuple #[.slice none 0 0, .bool false]) ∧ ¬ InjM e (fun r j => gn (frL n (synL W c) Hs) (Hs.length + e + r - 1 - j))) ∨
      ∃ (x : Nat → GF) (aa : Option Addr) (ca : Nat), Sol e (fun r j => gn (frL n (synL W c) Hs) (Hs.length + e + r - 1 - j)) (fun r => gn (frL n (synL W c) Hs) (Hs.length + e + r)) x ∧ e' = .returned (.tuple #[.slice aa (fndX x n e Hs n).length ca, .bool (((fndX x n e Hs n).length : Int) == (e : Int))]) ∧ AnsX 3 w' w.heap.size aa (fndX x n e Hs n).length ca (ppI (fndX x n e Hs n))) := by
  have HSY : Hid _ := syn_any a n cap c W w hp hn hc
  have hWl := hp.len
  have hWB := hp.byte
  have hmx := hp.max
  have hle := hp.le
  unfold maxLen at hmx
  have hch := hH.max
  have hchl := hH.le
  unfold maxLen at hch
  have HH0 : Hid _ := hH
  have HL0 : Hid _ := hl
  obtain ⟨f, hf⟩ : ∃ f, Hs.length = f := ⟨_, rfl⟩
  have HF : Hid _ := hf
  rw [hf] at hec hchl HH0 ⊢
  clear hp hH hl hf hle
  have hS := isB_synL hWB c
  have HSL : Hid ((synL W c).length = c) := synL_len W c
  go_enter Tryd.func10, Tryd.ntmps10
  refine wp_seq_k fun K0 hK0 => ?_
  have HK0 : Hid _ := hK0
  clear hK0
  go_wp2
  refine HK0.out _ _ ?_
  clear HK0
  refine wp_seq_k fun K1 hK1 => ?_
  have HK1 : Hid _ := hK1
  clear hK1
  go_wp2
  refine HK1.out _ _ ?_
  clear HK1
  refine wp_seq_k fun K2 hK2 => ?_
  have HK2 : Hid _ := hK2
  clear hK2
  go_wp2_with (go_at_call 24; refine Calls.mono HSY.out ?_; rintro e9 w1 ⟨at', ct, rfl, hA1, G1⟩)
  refine HK2.out _ _ ?_
  clear HK2
  rcases hA1.cases with ⟨_, h0, _⟩ | ⟨gt, hgt, _, _⟩
  · omega
  subst hgt
  have HA1 : Hid (AnsX 5 w1 w.heap.size (some ⟨gt, 0, none⟩) c ct (gl (gn (synL W c)) c)) := by
    show AnsX 5 w1 w.heap.size (some ⟨gt, 0, none⟩) c ct _
    rw [bys_gl hS, HSL.out] at hA1
    exact hA1
  clear hA1
  refine wp_seq_k fun K3 hK3 => ?_
  have HK3 : Hid _ := hK3
  clear hK3
  go_wp2
  go_loopw [12] (fun v12 wr => ∃ i : Nat, i ≤ f ∧ v12 = .int .i64 i ∧ AnsX 5 wr w.heap.size (some ⟨gt, 0, none⟩) c ct (gl (gn (frL n (synL W c) (Hs.take i))) c) ∧ w.grownBy wr none) (fun v12 _ => f - (intOf v12).toNat)
  case atStart => exact ⟨0, Nat.zero_le _, rfl, HA1.out, G1⟩
  case round =>
    obtain ⟨i, hi', rfl, hA, GR⟩ := hrel
    have HA : Hid _ := hA
    clear hA
    by_cases hi : i < f
    · have lii : (i : Int) < (f : Int) := by omega
      obtain ⟨hb, ho, hha, _, hcl⟩ := (HH0.out.keep GR).at' (by omega)
      have hcc := hcl i _ (ppI_at Hs (by rw [HF.out]; exact hi))
      have hhn := HL0.out (nth Hs i) (nth_mem (by rw [HF.out]; exact hi))
      have HT : Hid (frS (pow2 ((n : Int) - 1 - (nth Hs i : Nat))) (frL n (synL W c) (Hs.take i)) = frL n (synL W c) (Hs.take (i + 1))) := by
        show _ = _
        rw [take_snoc Hs i (by rw [HF.out]; exact hi), frL_snoc]
      subst hha
      clear hcl
      refine wp_seq_k fun K4 hK4 => ?_
      have HK4 : Hid _ := hK4
      clear hK4
      go_wp2
      refine HK4.out _ _ ?_
      clear HK4
      refine wa_t6 _ (by intro c9 a1 a2 w9 hd h; exact ⟨by rw [← hd]; exact h.1, h.2⟩) w wr GR w.heap.size n c gt ct i hb ho f ch (Nat.le_refl _) hn hc1 hc (frL n (synL W c) (Hs.take i)) (isB_frL n _ _ hS) (by rw [frL_len, HSL.out]) HA.out hi (nth Hs i) hhn hcc (by omega) ?_
      intro v13 v14 v40 v41 v42 v43 v44 v45 v46 v47 v48 v49 v50 v51 v52 v53 v54 v55 v56 v57 v58 v59 v60 v61 v62 v63 v64 v65 v66 v67 v68 w5 hA5 G5
      rw [HT.out] at hA5
      have HA5 : Hid _ := hA5
      clear hA5 HA HT hcc
      (try simp only [Exit.inBlock, Exit.then])
      (try dsimp only)
      go_roundw
      case rel => exact ⟨i + 1, by omega, by go_num, HA5.out, G5⟩
      case measure => simp [intOf] <;> omega
    · have lii : ¬ (i : Int) < (f : Int) := by omega
      have HA2 : Hid (AnsX 5 wr w.heap.size (some ⟨gt, 0, none⟩) c ct (gl (gn (frL n (synL W c) Hs)) c)) := by
        show AnsX 5 wr w.heap.size (some ⟨gt, 0, none⟩) c ct _
        have h := HA.out
        rw [List.take_of_length_le (by rw [HF.out]; omega)] at h
        exact h
      have G2 := GR
      have HH2 : Hid _ := HH0.out.keep GR
      clear HA hi hi' GR HA1
      go_wp2
      (try simp only [Exit.inBlock, Exit.then])
      refine HK3.out _ _ ?_
      clear HK3
      refine wp_seq_k fun K4 hK4 => ?_
      have HK4 : Hid _ := hK4
      clear hK4
      go_wp2
      refine HK4.out _ _ ?_
      clear HK4
      refine wp_seq_k fun K5 hK5 => ?_
      have HK5 : Hid _ := hK5
      clear hK5
      go_wp2
      refine HK5.out _ _ ?_
      clear HK5
      refine wp_seq_k fun K6 hK6 => ?_
      have HK6 : Hid _ := hK6
      clear hK6
      go_wp2
      refine HK6.out _ _ ?_
      clear HK6
      obtain ⟨w2, hw2⟩ : ∃ x, wr = x := ⟨_, rfl⟩
      rw [hw2] at HA2 G2 HH2 ⊢
      clear hw2
      have HTT : Hid (∀ w', w2.grownBy w' none → AnsX 5 w' 0 (some ⟨gt, 0, none⟩) c ct (gl (gn (frL n (synL W c) Hs)) c)) := fun w' g => (HA2.out.keep g).low (Nat.zero_le _)
      clear HA2
      obtain ⟨τ, hτ⟩ : ∃ τ, gn (frL n (synL W c) Hs) = τ := ⟨_, rfl⟩
      rw [hτ] at HTT ⊢
      clear hτ
      refine wp_seq_k fun K7 hK7 => ?_
      have HK7 : Hid _ := hK7
      clear hK7
      go_wp2
      go_loopw [16, 17, 18] (fun v16 v17 v18 ws => ∃ (q : Nat) (ρ cr : Nat → Nat) (am ab : Option Addr) (cm cb : Nat), q ≤ e ∧ v18 = .int .i64 ((f : Int) + (e : Int) + (q : Int)) ∧ v16 = .slice am q cm ∧ v17 = .slice ab q cb ∧ Bld ws w2.heap.size e q ρ cr (fun a j => τ (f + e + a - 1 - j)) (fun a => τ (f + e + a)) am cm ab cb ∧ w2.grownBy ws none) (fun _ _ v18 _ => f + 2 * e - (intOf v18).toNat)
      case atStart => exact ⟨0, _, _, none, none, 0, 0, Nat.zero_le _, by go_num, rfl, rfl, Bld.nil _ _ _ _ _, World.grownBy.refl _ _⟩
      case round =>
        obtain ⟨q, ρ, cr, am, ab, cm, cb, hq', rfl, rfl, rfl, hB, GS⟩ := hrel
        have HB : Hid _ := hB
        clear hB
        by_cases hq : q < e
        · have lqq : (f : Int) + (e : Int) + (q : Int) < (f : Int) + 2 * (e : Int) := by omega
          refine wp_seq_k fun K8 hK8 => ?_
          have HK8 : Hid _ := hK8
          clear hK8
          go_wp2
          refine HK8.out _ _ ?_
          clear HK8
          refine wa_t17 _ (by intro c9 a1 a2 w9 hd h; exact ⟨by rw [← hd]; exact h.1, h.2⟩) w2 _ GS c gt ct e f q (by omega) hc hec hq τ HTT.out ρ cr am ab cm cb HB.out ?_
          intro v19 v20 v80 v81 v82 v83 v84 v85 v86 v87 v88 v89 v90 v91 v92 v93 v94 v95 v96 v97 v98 v99 v100 v101 v102 v103 v104 v105 v106 ρ' cr' am' ab' cm' cb' w5 hB5 G5
          have HB5 : Hid _ := hB5
          clear hB5 HB
          (try simp only [Exit.inBlock, Exit.then])
          (try dsimp only)
          go_roundw
          case rel => exact ⟨q + 1, ρ', cr', am', ab', cm', cb', by omega, by go_num, rfl, rfl, HB5.out, G5⟩
          case measure => simp [intOf] <;> omega
        · have lqq : ¬ (f : Int) + (e : Int) + (q : Int) < (f : Int) + 2 * (e : Int) := by omega
          have hqe : q = e := by omega
          have HB2 : Hid (Bld wr w2.heap.size e e ρ cr (fun a j => τ (f + e + a - 1 - j)) (fun a => τ (f + e + a)) am cm ab cb) := by
            have h := HB.out
            rw [hqe] at h
            exact h
          have HQE : Hid (q = e) := hqe
          have HSV : Hid (Calls Tryd.prog 27 #[.slice am e cm, .slice ab e cb] wr fun e' w' => w2.grownBy w' none ∧ ((e' = .returned (.tuple #[.slice none 0 0, .bool false]) ∧ ¬ InjM e (fun a j => τ (f + e + a - 1 - j))) ∨ ∃ (x : Nat → GF) (la : Option Addr) (lc : Nat), e' = .returned (.tuple #[.slice la e lc, .bool true]) ∧ Sol e (fun a j => τ (f + e + a - 1 - j)) (fun a => τ (f + e + a)) x ∧ (0 < e → ∃ g0, la = some ⟨g0, 0, none⟩ ∧ ∀ j, j < e → w'.cell? ⟨g0, j, none⟩ = some (.int .u8 ((x j).v : Int))))) := by
            by_cases h0 : e = 0
            · subst h0
              obtain ⟨z1, z2, z3, z4⟩ := HB2.out.z rfl
              subst z1
              subst z2
              subst z3
              subst z4
              refine (solved_nil wr).mono ?_
              rintro e' w' ⟨rfl, g⟩
              exact ⟨grown_trans GS g, .inr ⟨fun _ => 0, none, 0, rfl, (fun r hr => by omega), fun h => by omega⟩⟩
            · obtain ⟨gm, gb, h1, h2, hM⟩ := HB2.out.mt (by omega)
              subst h1
              subst h2
              refine (solved_any w2 wr GS w2.heap.size gm gb e cm cb (Nat.le_refl _) (by omega) ρ cr _ _ hM).mono ?_
              rintro e' w' ⟨g, h⟩
              refine ⟨g, ?_⟩
              rcases h with h | ⟨x, h3, h4, h5⟩
              · exact .inl h
              · exact .inr ⟨x, _, cb, h3, h4, fun _ => ⟨gb, rfl, h5⟩⟩
          clear HB HB2 hq hq' hqe HTT
          go_wp2
          (try simp only [Exit.inBlock, Exit.then])
          refine HK7.out _ _ ?_
          clear HK7
          rw [HQE.out]
          clear HQE lqq
          refine wp_seq_k fun K8 hK8 => ?_
          have HK8 : Hid _ := hK8
          clear hK8
          go_wp2_with (go_at_call 27; refine Calls.mono HSV.out ?_; rintro e9 w5 ⟨G5, ⟨rfl, hni⟩ | ⟨x, la, lc, rfl, hsol, hla⟩⟩)
          · have HNI : Hid _ := hni
            clear hni
            refine HK8.out _ _ ?_
            clear HK8
            go_wp2
            (try simp only [Exit.inBlock, Exit.then])
            refine bodyPost_ret (results_2v rfl _ _ _) rfl ?_
            exact ⟨grown_trans G2 G5, .inl ⟨rfl, HNI.out⟩⟩
          · have HSO : Hid _ := hsol
            have HLA : Hid (0 < e → ∃ g0, la = some ⟨g0, 0, none⟩ ∧ ∀ w', w5.grownBy w' none → ∀ j, j < e → w'.cell? ⟨g0, j, none⟩ = some (.int .u8 ((x j).v : Int))) := fun h => by
              obtain ⟨g0, h1, h2⟩ := hla h
              exact ⟨g0, h1, fun w' g j hj => cell_grR (h2 j hj) g⟩
            have HHA : Hid (0 < f → ∃ hb ho, ha = some ⟨hb, ho, none⟩ ∧ ∀ w', w5.grownBy w' none → ∀ i, i < f → w'.cell? ⟨hb, ho + i, none⟩ = some (.int .i64 (nth Hs i : Nat))) := fun h => by
              obtain ⟨hb, ho, h1, _, h3⟩ := (HH2.out.keep G5).at' h
              exact ⟨hb, ho, h1, fun w' g i hi => cell_grR (h3 i _ (ppI_at Hs (by rw [HF.out]; exact hi))) g⟩
            have GW5 := grown_trans G2 G5
            clear hsol hla HSV
            refine HK8.out _ _ ?_
            clear HK8
            refine wp_seq_k fun K9 hK9 => ?_
            have HK9 : Hid _ := hK9
            clear hK9
            go_wp2
            refine HK9.out _ _ ?_
            clear HK9
            refine wp_seq_k fun K10 hK10 => ?_
            have HK10 : Hid _ := hK10
            clear hK10
            go_wp2
            refine HK10.out _ _ ?_
            clear HK10
            refine wp_seq_k fun K11 hK11 => ?_
            have HK11 : Hid _ := hK11
            clear hK11
            go_wp2
            go_loopw [23, 24] (fun v23 v24 ws => ∃ (p : Nat) (aa : Option Addr) (ca : Nat), p ≤ n ∧ v24 = .int .i64 p ∧ v23 = .slice aa (fndX x n e Hs p).length ca ∧ AnsX 3 ws w5.heap.size aa (fndX x n e Hs p).length ca (ppI (fndX x n e Hs p)) ∧ w5.grownBy ws none) (fun _ v24 _ => n - (intOf v24).toNat)
            case atStart => exact ⟨0, none, 0, Nat.zero_le _, rfl, rfl, AnsX.nil0 _ _ _, World.grownBy.refl _ _⟩
            case round =>
              obtain ⟨p, aa, ca, hp', rfl, rfl, hA, GT⟩ := hrel
              have HA : Hid _ := hA
              clear hA
              by_cases hp : p < n
              · have lpp : (p : Int) < (n : Int) := by omega
                have hlen : (fndX x n e Hs p).length ≤ 255 := by
                  have := List.length_filter_le (prX x n e Hs) (List.range p)
                  rw [List.length_range] at this
                  unfold fndX
                  omega
                have HST : Hid _ := fndX_succ x n e Hs p
                refine wp_seq_k fun K12 hK12 => ?_
                have HK12 : Hid _ := hK12
                clear hK12
                go_wp2
                refine HK12.out _ _ ?_
                clear HK12
                refine wa_t31 _ (by intro c9 a1 a2 w9 hd h; exact ⟨by rw [← hd]; exact h.1, h.2⟩) w5 _ GT n e f p hn (by omega) (by omega) hp x la lc HLA.out Hs HF.out ha ch HHA.out (fndX x n e Hs p) hlen aa ca HA.out ?_
                intro v25 v26 v27 v28 v29 v30 v118 v119 v120 v121 v122 v123 v124 v125 v126 v127 v128 v129 v130 v131 v132 v133 v134 v135 v136 v137 v138 v139 v140 v141 v142 v143 v144 v145 v146 v147 v148 v149 v150 v151 v152 v153 v154 v155 v156 v157 v158 v159 v160 v161 v162 v163 v164 v165 L' aa' ca' w6 hL' hA6 G6
                have hL2 : L' = fndX x n e Hs (p + 1) := by rw [hL', HST.out]
                subst hL2
                have HA6 : Hid _ := hA6
                clear hA6 HA HST hL'
                (try simp only [Exit.inBlock, Exit.then])
                (try dsimp only)
                go_roundw
                case rel => exact ⟨p + 1, aa', ca', by omega, by go_num, rfl, HA6.out, G6⟩
                case measure => simp [intOf] <;> omega
              · have lpp : ¬ (p : Int) < (n : Int) := by omega
                have hpn : p = n := by omega
                subst hpn
                clear hp hp'
                have hcap := HA.out.max
                unfold maxLen at hcap
                go_wp2
                (try simp only [Exit.inBlock, Exit.then])
                refine HK11.out _ _ ?_
                clear HK11
                go_wp2
                refine bodyPost_ret (results_2v rfl _ _ _) rfl ?_
                exact ⟨grown_trans GW5 GT, .inr ⟨x, aa, ca, HSO.out, rfl, HA.out.low GW5.size⟩⟩
end

section
open GF

/-! what the document's rounds find -/
theorem dist_nd {P : List Nat} (h : Dist P) : P.Nodup := by
  refine List.pairwise_iff_getElem.2 fun i j hi hj hij e => ?_
  have := h j i hij hj
  unfold nth at this
  rw [List.getD_eq_getElem?_getD, List.getD_eq_getElem?_getD, List.getElem?_eq_getElem hi, List.getElem?_eq_getElem hj] at this
  exact this e
theorem nd_len {P : List Nat} {n : Nat} (h : P.Nodup) (hl : ∀ p, p ∈ P → p < n) : P.length ≤ n := by
  have := h.length_le_of_subset (l₂ := List.range n) (fun p hp => List.mem_range.2 (hl p hp))
  rw [List.length_range] at this
  exact this
section
variable {W V P PP : List Nat} {n c : Nat}
theorem bat_P [Add GF] [Mul GF] [OfNat GF 0] [OfNat GF 1] [L : Nonempty GL] (hl : ∀ p, p ∈ P → p < n) (p : Nat) : bat (mkN P n P.length) p = true ↔ p ∈ P := by
  rw [bat_mk P n (fun i hi => hl _ (nth_mem hi)) P.length (Nat.le_refl _) p]
  constructor
  · rintro ⟨i, hi, e⟩
    rw [← e]; exact nth_mem hi
  · intro h
    exact mem_nth h
theorem nearD_of [Add GF] [Mul GF] [OfNat GF 0] [OfNat GF 1] [L : Nonempty GL] (hW : IsB W) (hWl : W.length = n) (hn : n ≤ 255) (hc : c ≤ 64) (hd : Dist P) (hl : ∀ p, p ∈ P → p < n) (h : decO W c (mkN P n P.length) = some (V, PP)) :
    NearD W V (mkN P n P.length) P n c ∧ PP = difN W V n := by
  have hH : (mkN P n P.length).length = W.length := by rw [mkN_len, hWl]
  obtain ⟨h1, h2, h3, h4, h5⟩ := near_ofH hW (mkN P n P.length) c hc (by omega) hH h
  rw [hWl] at h2 h4 h5
  have h6 := cnt_mk (P := P) (n := n) (fun i hi => hl _ (nth_mem hi)) hd P.length (Nat.le_refl _)
  rw [h6] at h5
  exact ⟨⟨hW, h1, hWl, h2, hn, hc, h3, fun p _ => bat_P hl p, hl, dist_nd hd, h5⟩, h4⟩
theorem gn_xl [Add GF] [Mul GF] [OfNat GF 0] [OfNat GF 1] [L : Nonempty GL] (x : Nat → GF) {e j : Nat} (h : j < e) : gn (xl x e) j = x j := by
  apply GF.ext
  rw [gn_v (isB_xl x e), xl_nth x h]
/-- the places that are found are those that are wrong and no holes -/
theorem fnd_is [Add GF] [Mul GF] [OfNat GF 0] [OfNat GF 1] [L : Nonempty GL] {H : List Bool} (N : NearD W V H P n c) {e : Nat} (he : e = cn (wrU W V H) n) {x : Nat → GF} (hs : Sol e (fun a i => gn (frL n (synL W c) P) (P.length + e + a - 1 - i)) (fun a => gn (frL n (synL W c) P) (P.length + e + a)) x) : fndX x n e P n = uL W V H n := by
  have h1 := N.found he (l := xl x e) (isB_xl x e) (fun r hr => by
    rw [← hs r hr]
    exact sum_congr fun j hj => by rw [gn_xl x hj])
  rw [← h1]
  unfold fndX fnd
  refine List.filter_congr fun p hp => ?_
  have hpn := List.mem_range.1 hp
  unfold prX lv
  have e1 : rv (xl x e) (pow2 ((p : Int) + 1 - n)) e = (1 + sum e (fun j => x j * pw (xp n p) (j + 1))).v := by
    have h2 := rv_gf (isB_xl x e) (xp n p) e
    rw [show pow2 ((p : Int) + 1 - n) = (xp n p).v from rfl, ← h2]
    congr 2
    exact sum_congr fun j hj => by rw [gn_xl x hj]
  rw [e1]
  congr 2
  rw [Bool.eq_iff_iff, decide_eq_true_iff]
  exact (N.hs p hpn).symm
theorem fnd_mem [Add GF] [Mul GF] [OfNat GF 0] [OfNat GF 1] [L : Nonempty GL] {x : Nat → GF} {e k p : Nat} (h : p ∈ fndX x n e P k) : p < k ∧ p ∉ P := by
  unfold fndX at h
  have h2 := List.mem_filter.1 h
  refine ⟨List.mem_range.1 h2.1, fun hp => ?_⟩
  have h3 := h2.2
  unfold prX at h3
  rw [decide_eq_true hp, Bool.not_true, Bool.and_false] at h3
  cases h3
theorem all_nd [Add GF] [Mul GF] [OfNat GF 0] [OfNat GF 1] [L : Nonempty GL] (hd : P.Nodup) (x : Nat → GF) (e : Nat) : (P ++ fndX x n e P n).Nodup := by
  refine List.nodup_append.2 ⟨hd, List.Pairwise.filter _ List.nodup_range, fun a ha b hb e2 => ?_⟩
  subst e2
  exact (fnd_mem hb).2 ha
/-- the wrong ones are mended -/
theorem md_right [Add GF] [Mul GF] [OfNat GF 0] [OfNat GF 1] [L : Nonempty GL] {H : List Bool} (N : NearD W V H P n c) {e : Nat} (he : e = cn (wrU W V H) n) {x : Nat → GF} (hs : Sol e (fun a i => gn (frL n (synL W c) P) (P.length + e + a - 1 - i)) (fun a => gn (frL n (synL W c) P) (P.length + e + a)) x) (hle : (P ++ fndX x n e P n).length ≤ c) :
    InjM (P ++ fndX x n e P n).length (fun j k => pw (wt n (nth (P ++ fndX x n e P n) k)) (j + 1)) ∧ ∀ y, Sol (P ++ fndX x n e P n).length (fun j k => pw (wt n (nth (P ++ fndX x n e P n) k)) (j + 1)) (fun j => gn (synL W c) j) y →
      mdL W (P ++ fndX x n e P n) (xl y (P ++ fndX x n e P n).length) (P ++ fndX x n e P n).length = V := by
  have hf := fnd_is N he hs
  have hA : ∀ p, p ∈ P ++ fndX x n e P n → p < n := fun p hp => by
    rcases List.mem_append.1 hp with h | h
    · exact N.hl p h
    · exact (fnd_mem h).1
  have hnd := all_nd N.nd x e (n := n)
  have hcov : ∀ p, p < n → nth W p ≠ nth V p → p ∈ P ++ fndX x n e P n := fun p hp hne => by
    by_cases h : p ∈ P
    · exact List.mem_append_left _ h
    · refine List.mem_append_right _ ?_
      rw [hf, uL_mem]
      refine ⟨hp, ?_⟩
      unfold wrU
      have hb : bat H p = false := by
        cases e : bat H p with
        | false => rfl
        | true => exact absurd ((N.hs p hp).1 e) h
      rw [bne_iff_ne.2 hne, hb]
      rfl
  obtain ⟨h1, h2⟩ := N.sizes hnd hA hle hcov
  refine ⟨h1, fun y hy => ?_⟩
  have h3 := h2 y hy
  refine md_is hnd (fun p hp => by rw [N.lW]; exact hA p hp) (by rw [N.lV, N.lW]) (fun k hk => ?_) (fun p hp hne => hcov p (by rw [← N.lW]; exact hp) hne)
  rw [xl_nth y hk, h3 k hk, wrE_v N.bW N.bV]
/-- what is answered is what the code finds, too -/
theorem md_yes [Add GF] [Mul GF] [OfNat GF 0] [OfNat GF 1] [L : Nonempty GL] (hW : IsB W) (hWl : W.length = n) (hn : n ≤ 255) (hc : c ≤ 64) (hd : Dist P) (hl : ∀ p, p ∈ P → p < n) {e : Nat} (hec : 2 * e + P.length ≤ c) {x y : Nat → GF} (hle : (fndX x n e P n).length = e)
    (hv : valL (mdL W (P ++ fndX x n e P n) (xl y (P ++ fndX x n e P n).length) (P ++ fndX x n e P n).length) c = []) :
    decO W c (mkN P n P.length) = some (mdL W (P ++ fndX x n e P n) (xl y (P ++ fndX x n e P n).length) (P ++ fndX x n e P n).length, difN W (mdL W (P ++ fndX x n e P n) (xl y (P ++ fndX x n e P n).length) (P ++ fndX x n e P n).length) n) := by
  have hA : ∀ p, p ∈ P ++ fndX x n e P n → p < W.length := fun p hp => by
    rw [hWl]
    rcases List.mem_append.1 hp with h | h
    · exact hl p h
    · exact (fnd_mem h).1
  refine dec_complete hW (isB_mdL hW (isB_xl _ _) _) (mkN P n P.length) n c hWl (by rw [mdL_len]; exact hWl) (mkN_len _ _ _) hn hc hv ?_
  rw [cnt_mk (P := P) (n := n) (fun i hi => hl _ (nth_mem hi)) hd P.length (Nat.le_refl _)]
  have h1 : cn (wrU W (mdL W (P ++ fndX x n e P n) (xl y (P ++ fndX x n e P n).length) (P ++ fndX x n e P n).length) (mkN P n P.length)) n ≤ e := by
    rw [cn_filter]
    refine Nat.le_trans (List.Nodup.length_le_of_subset (List.Pairwise.filter _ List.nodup_range) (fun p hp => ?_)) (Nat.le_of_eq hle)
    have h2 := List.mem_filter.1 hp
    have h3 := h2.2
    unfold wrU at h3
    have h4 := Bool.and_eq_true_iff.1 h3
    have hb : p ∉ P := fun hp' => by
      have := (bat_P hl p).2 hp'
      rw [this] at h4
      simp at h4
    have hne : nth W p ≠ nth (mdL W (P ++ fndX x n e P n) (xl y (P ++ fndX x n e P n).length) (P ++ fndX x n e P n).length) p := by simpa using h4.1
    refine Classical.byContradiction fun hnm => hne ?_
    rw [md_out hA _ (Nat.le_refl _) p (fun i hi e2 => by
      have hm := nth_mem hi
      rw [e2] at hm
      rcases List.mem_append.1 hm with h | h
      · exact hb h
      · exact hnm h)]
  omega
end
end
end Go.Proofs.YtdcfgaibppenaaaDoor
