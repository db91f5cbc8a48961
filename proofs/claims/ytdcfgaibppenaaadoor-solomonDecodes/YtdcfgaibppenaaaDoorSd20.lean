import Derived.Test.YtdcfgaibppenaaaDoorSd19
namespace Go.Proofs.YtdcfgaibppenaaaDoor
open Go.RowKit
set_option maxRecDepth 100000
set_option linter.unusedVariables false
set_option linter.unusedSimpArgs false

section
open GF
theorem AnsX.takeV [Add GF] [Mul GF] [OfNat GF 0] [OfNat GF 1] [L : Nonempty GL] {e : TypeId} {w : World} {lo g n cap : Nat} {X : List Value} (h : AnsX e w lo (some ⟨g, 0, none⟩) n cap X) (m : Nat) (hm : m ≤ n) : AnsX e w lo (some ⟨g, 0, none⟩) m cap (X.take m) := by
  have hl := h.len
  refine ⟨⟨by rw [List.length_take]; omega, ?_⟩, fun u hu => h.one u (List.mem_of_mem_take hu), fun g' h' => h.new g' h'⟩
  rcases h.own.2 with ⟨h1, _⟩ | ⟨g', cap', cur, h1, h2, h3, h4, h5, h6, h7⟩
  · simp at h1
  · simp only [Value.slice.injEq, Option.some.injEq, Addr.mk.injEq] at h1
    obtain ⟨⟨rfl, _⟩, _, rfl⟩ := h1
    refine .inr ⟨g, cap, cur, rfl, h2, h3, by omega, h5, h6, ?_⟩
    rw [← h7, List.take_take]
    congr 1
    omega
theorem rdec_bad (a ah : Option Addr) (n cap m ch : Nat) (ck : Int) (w : World) (hn : n ≤ 9223372036854775807) (h : ¬ (1 ≤ ck ∧ ck ≤ 64 ∧ ck < (n : Int) ∧ (n : Int) ≤ 255)) :
    Calls Tryd.prog 4 #[.slice a n cap, .int .i64 ck, .slice ah m ch] w fun e w' => e = .returned (.tuple #[.slice none 0 0, .slice none 0 0, .int .i64 1]) ∧ w.grownBy w' none := by
  have HZ : Hid _ := sized_no (n : Int) ck w h
  clear h
  go_enter Tryd.func4, Tryd.ntmps4
  go_wp2_with (go_at_call 8; refine Calls.mono HZ.out ?_; rintro e wx ⟨rfl, hwx⟩; rw [hwx]; clear hwx)
  (try simp only [Exit.inBlock, Exit.then])
  refine bodyPost_ret (results_tmp3 rfl _ _ _) rfl ?_
  exact ⟨rfl, World.grownBy.refl _ _⟩
theorem rdec_err (a ah : Option Addr) (n cap m ch : Nat) (ck z : Int) (w : World) (h1 : 1 ≤ ck ∧ ck ≤ 64 ∧ ck < (n : Int) ∧ (n : Int) ≤ 255) (hz : z ≠ 0)
    (HO : ∀ wz, w.grownBy wz none → Calls Tryd.prog 9 #[.int .i64 (n : Int), .slice ah m ch] wz fun e w' => e = .returned (.int .i64 z) ∧ wz.grownBy w' none) :
    Calls Tryd.prog 4 #[.slice a n cap, .int .i64 ck, .slice ah m ch] w fun e w' => e = .returned (.tuple #[.slice none 0 0, .slice none 0 0, .int .i64 z]) ∧ w.grownBy w' none := by
  have HZ : Hid _ := sized_yes (n : Int) ck w h1.1 h1.2.1 h1.2.2.1 h1.2.2.2
  have HOO : Hid _ := HO w (World.grownBy.refl _ _)
  have hzb : (z == 0) = false := beq_false_of_ne hz
  clear h1 HO
  go_enter Tryd.func4, Tryd.ntmps4
  have s1 : True := trivial
  go_wp2_with (first
    | (have _t := s1; clear s1; go_at_call 8; refine Calls.mono HZ.out ?_; rintro e wx ⟨rfl, hwx⟩; rw [hwx]; clear hwx; have s2 : True := trivial)
    | (have _t := s2; clear s2; go_at_call 9; refine Calls.mono HOO.out ?_; rintro e w1 ⟨rfl, G1⟩))
  (try simp only [Exit.inBlock, Exit.then])
  refine bodyPost_ret (results_tmp3 rfl _ _ _) rfl ?_
  exact ⟨rfl, G1⟩
set_option maxHeartbeats 32000000 in
theorem rdec_ok [Add GF] [Mul GF] [OfNat GF 0] [OfNat GF 1] [L : Nonempty GL] (a ah : Option Addr) (n cap c ch : Nat) (W P : List Nat) (w : World) (hp : Rd w a n cap W) (hH : RdX w ah P.length ch (ppI P)) (hc1 : 1 ≤ c) (hc : c ≤ 64) (hcn : c < n) (hn : n ≤ 255) (hl : ∀ p, p ∈ P → p < n) (hd : Dist P) :
    Calls Tryd.prog 4 #[.slice a n cap, .int .i64 (c : Int), .slice ah P.length ch] w fun e' w' => w.grownBy w' none ∧ ((decO W c (mkN P n P.length) = none ∧ e' = .returned (.tuple #[.slice none 0 0, .slice none 0 0, .int .i64 5])) ∨
      ∃ (V PP : List Nat) (a1 ap : Option Addr) (c1 cp : Nat), decO W c (mkN P n P.length) = some (V, PP) ∧ e' = .returned (.tuple #[.slice a1 (n - c) c1, .slice ap PP.length cp, .int .i64 0]) ∧ AnsX 5 w' w.heap.size a1 (n - c) c1 (bys (V.take (n - c))) ∧ AnsX 3 w' w.heap.size ap PP.length cp (ppI PP)) := by
  have HZ : Hid _ := sized_yes (n : Int) (c : Int) w (by omega) (by omega) (by omega) (by omega)
  have hPl := nd_len (dist_nd hd) hl
  have HHO : Hid (Calls Tryd.prog 9 #[.int .i64 (n : Int), .slice ah P.length ch] w fun e w' => e = .returned (.int .i64 0) ∧ w.grownBy w' none) := (holed_in ah P.length ch n P w rfl hH hn hl).mono (fun e w' h => by
    rcases h with ⟨⟨_, h1⟩ | ⟨h1, _⟩, h2⟩
    · exact absurd hd h1
    · exact ⟨h1, h2⟩)
  have HWL : Hid (W.length = n) := hp.len
  have hWB := hp.byte
  have HPX : Hid _ := hp
  have HH0 : Hid _ := hH
  have HLP : Hid _ := hl
  have HDP : Hid _ := hd
  have hmx := hp.max
  have hple := hp.le
  unfold maxLen at hmx
  clear hp hH hl hd hple
  go_enter Tryd.func4, Tryd.ntmps4
  refine wp_seq_k fun K0 hK0 => ?_
  have HK0 : Hid _ := hK0
  clear hK0
  go_wp2
  refine HK0.out _ _ ?_
  clear HK0
  refine wp_seq_k fun K1 hK1 => ?_
  have HK1 : Hid _ := hK1
  clear hK1
  go_wp2
  refine HK1.out _ _ ?_
  clear HK1
  refine wp_seq_k fun K2 hK2 => ?_
  have HK2 : Hid _ := hK2
  clear hK2
  go_wp2_with (go_at_call 8; refine Calls.mono HZ.out ?_; rintro e wx ⟨rfl, hwx⟩; rw [hwx]; clear hwx)
  refine HK2.out _ _ ?_
  clear HK2
  refine wp_seq_k fun K3 hK3 => ?_
  have HK3 : Hid _ := hK3
  clear hK3
  go_wp2_with (go_at_call 9; refine Calls.mono HHO.out ?_; rintro e w1 ⟨rfl, G1⟩)
  refine HK3.out _ _ ?_
  clear HK3
  refine wp_seq_k fun K4 hK4 => ?_
  have HK4 : Hid _ := hK4
  clear hK4
  go_wp2
  go_loopw [11] (fun v11 wr => ∃ e : Nat, 2 * e + P.length ≤ c + 2 + P.length ∧ v11 = .int .i64 e ∧ Hid (∀ e', e' < e → ∀ V PP, decO W c (mkN P n P.length) = some (V, PP) → cn (wrU W V (mkN P n P.length)) n ≠ e') ∧ w.grownBy wr none) (fun v11 _ => c + 2 - (intOf v11).toNat)
  case atStart => exact ⟨0, by omega, rfl, (fun e h => by omega), G1⟩
  case round =>
    obtain ⟨e, hem, rfl, HN, GR⟩ := hrel
    by_cases hec : 2 * e + P.length ≤ c
    · have lec : 2 * (e : Int) + (P.length : Int) ≤ (c : Int) := by omega
      have HPR : Hid _ := HPX.out.keep GR
      have HHR : Hid _ := HH0.out.keep GR
      have HWA : Hid _ := wrongAt_any a n cap c e W P ah ch wr HPR.out HHR.out hn hc1 hc hec HLP.out
      have HNX0 : Hid ((∀ V PP, decO W c (mkN P n P.length) = some (V, PP) → cn (wrU W V (mkN P n P.length)) n ≠ e) → ∀ e', e' < e + 1 → ∀ V PP, decO W c (mkN P n P.length) = some (V, PP) → cn (wrU W V (mkN P n P.length)) n ≠ e') := fun h e' he => by
        by_cases h2 : e' = e
        · rw [h2]; exact h
        · exact HN.out e' (by omega)
      have HND : Hid (∀ V PP, decO W c (mkN P n P.length) = some (V, PP) → NearD W V (mkN P n P.length) P n c ∧ PP = difN W V n) := fun V PP h => nearD_of hWB HWL.out hn hc HDP.out HLP.out h
      refine wp_seq_k fun K5 hK5 => ?_
      have HK5 : Hid _ := hK5
      clear hK5
      go_wp2
      refine HK5.out _ _ ?_
      clear HK5
      refine wp_seq_k fun K6 hK6 => ?_
      have HK6 : Hid _ := hK6
      clear hK6
      refine wp_block ?_
      refine wp_seq_k fun K7 hK7 => ?_
      have HK7 : Hid _ := hK7
      clear hK7
      go_wp2_with (go_at_call 10; refine Calls.mono HWA.out ?_; rintro e9 w5 ⟨G5, ⟨rfl, hni⟩ | ⟨x, aa, ca, hsol, rfl, hA5⟩⟩)
      · have HNX : Hid _ := HNX0.out (fun V PP h he => hni ((HND.out V PP h).1.inj he.symm))
        have HGC : Hid _ := grown_trans GR G5
        clear hni HNX0 HN HWA HND
        refine HK7.out _ _ ?_
        clear HK7
        go_wp2
        (try simp only [Exit.inBlock, Exit.then])
        refine HK6.out _ _ ?_
        clear HK6
        go_wp2
        go_roundw
        case rel => exact ⟨e + 1, by omega, by go_num, HNX.out, HGC.out⟩
        case measure => simp [intOf] <;> omega
      · have HSO : Hid _ := hsol
        have HA5 : Hid _ := hA5
        have GW5 := grown_trans GR G5
        have HFL : Hid (∀ p, p ∈ fndX x n e P n → p < n) := fun p h => (fnd_mem h).1
        have hfl : (fndX x n e P n).length ≤ n := nd_len (List.Pairwise.filter _ List.nodup_range) HFL.out
        by_cases hLe : (fndX x n e P n).length = e
        · have hbt : (((fndX x n e P n).length : Int) == (e : Int)) = true := by rw [hLe]; exact beq_self_eq_true _
          obtain ⟨bt, hbt2⟩ : ∃ bt, (((fndX x n e P n).length : Int) == (e : Int)) = bt := ⟨_, rfl⟩
          rw [hbt2] at hbt ⊢
          subst hbt
          have HR5 : Hid _ := HHR.out.keep G5
          have HLE : Hid _ := hLe
          have HP5 : Hid _ := HPR.out.keep G5
          have HL0 : Hid ((fndX x n e P n).length = e) := hLe
          obtain ⟨l, hll⟩ : ∃ l, fndX x n e P n = l := ⟨_, rfl⟩
          have HLL : Hid _ := hll
          rw [hll] at HA5 hfl HLE HFL ⊢
          have hle' : l.length = e := HLE.out
          have HAP : Hid ((P ++ l).length = P.length + l.length) := List.length_append
          have hdl : (P ++ l).length ≤ c := by rw [HAP.out]; omega
          have HAN : Hid (∀ p, p ∈ P ++ l → p < n) := fun p hp => by
            rcases List.mem_append.1 hp with h | h
            · exact HLP.out p h
            · exact HFL.out p h
          clear hsol hA5 hbt2 hll hLe hle'
          refine HK7.out _ _ ?_
          clear HK7
          refine wp_seq_k fun K8 hK8 => ?_
          have HK8 : Hid _ := hK8
          clear hK8
          go_wp2
          refine HK8.out _ _ ?_
          clear HK8
          refine wp_seq_k fun K9 hK9 => ?_
          have HK9 : Hid _ := hK9
          clear hK9
          have s1 : True := trivial
          go_wp2_with (first
            | (have _t := s1; clear s1; at_builtin; refine wpList_apX Tryd.elJ rfl _ _ rfl none 0 0 w5.heap.size [] rfl (AnsX.nil0 _ _ _) (Nat.le_refl _) ah P.length ch (ppI P) rfl HR5.out (by omega) (by omega) ?_; intro a6 c6 w6 hA6 g6; have s2 : True := trivial; rw [Nat.zero_add, List.nil_append] at hA6; (try rw [Nat.zero_add]); have HA6 : Hid _ := hA6; have G6 : w5.grownBy w6 none := g6; have HR6 : Hid _ := AnsX.rd (HA5.out.keep G6); have hlo6 := G6.size; clear hA6 g6)
            | (have _t := s2; clear s2; at_builtin; refine wpList_apX Tryd.elJ rfl _ _ rfl a6 _ c6 w5.heap.size _ rfl HA6.out hlo6 aa l.length ca (ppI l) rfl HR6.out (by omega) (by omega) ?_; intro a7 c7 w7 hA7 g7))
          have G7 : w5.grownBy w7 none := grown_far G6 g7 (fun y h => HA6.out.new y h)
          have HA7 : Hid (AnsX 3 w7 w5.heap.size a7 (P ++ l).length c7 (ppI (P ++ l))) := by
            show AnsX 3 w7 w5.heap.size a7 (P ++ l).length c7 (ppI (P ++ l))
            rw [HAP.out]
            unfold ppI at hA7 ⊢
            rw [List.map_append]
            exact hA7
          clear hA7 g7 HR5 HR6 HA6
          (try rw [Nat.zero_add])
          rw [← HAP.out]
          obtain ⟨A, hAe⟩ : ∃ A, P ++ l = A := ⟨_, rfl⟩
          have HAE : Hid _ := hAe
          rw [hAe] at HA7 hdl HAN ⊢
          clear hAe HAP
          have GW7 := grown_trans GW5 G7
          have HMD : Hid _ := mendedAt_any a n cap c W A a7 c7 w7 (HP5.out.keep G7) (AnsX.rd HA7.out) (by omega) hn hc1 hc hdl HAN.out
          have HMR : Hid (∀ V PP, decO W c (mkN P n P.length) = some (V, PP) → cn (wrU W V (mkN P n P.length)) n = e → InjM A.length (fun j k => pw (wt n (nth A k)) (j + 1)) ∧ ∀ y, Sol A.length (fun j k => pw (wt n (nth A k)) (j + 1)) (fun j => gn (synL W c) j) y → valL (mdL W A (xl y A.length) A.length) c = []) := fun V PP h he => by
            have h1 := md_right (HND.out V PP h).1 he.symm HSO.out (by rw [HLL.out, HAE.out]; exact hdl)
            rw [HLL.out, HAE.out] at h1
            refine ⟨h1.1, fun y hy => ?_⟩
            rw [h1.2 y hy]
            exact (HND.out V PP h).1.code
          have HYES : Hid (∀ y, valL (mdL W A (xl y A.length) A.length) c = [] → decO W c (mkN P n P.length) = some (mdL W A (xl y A.length) A.length, difN W (mdL W A (xl y A.length) A.length) n)) := fun y hv => by
            have h1 := md_yes (x := x) (y := y) hWB HWL.out hn hc HDP.out HLP.out hec HL0.out (by rw [HLL.out, HAE.out]; exact hv)
            rw [HLL.out, HAE.out] at h1
            exact h1
          refine HK9.out _ _ ?_
          clear HK9
          refine wp_seq_k fun K10 hK10 => ?_
          have HK10 : Hid _ := hK10
          clear hK10
          go_wp2_with (go_at_call 11; refine Calls.mono HMD.out ?_; rintro e9 w8 ⟨G8, ⟨rfl, hno⟩ | ⟨y, ao, co, hys, hyv, rfl, hA8⟩⟩)
          · have HNX : Hid _ := HNX0.out (fun V PP h he => by
              have h1 := HMR.out V PP h he
              rcases hno with h2 | ⟨y, h2, h3⟩
              · exact h2 h1.1
              · exact h3 (h1.2 y h2))
            have HGC : Hid _ := grown_trans GW7 G8
            clear hno HMR HYES HMD HA7 HNX0 HN HND
            refine HK10.out _ _ ?_
            clear HK10
            go_wp2
            (try simp only [Exit.inBlock, Exit.then])
            refine HK6.out _ _ ?_
            clear HK6
            go_wp2
            go_roundw
            case rel => exact ⟨e + 1, by omega, by go_num, HNX.out, HGC.out⟩
            case measure => simp [intOf] <;> omega
          · have HDE : Hid _ := HYES.out y hyv
            have HV0 : Hid ((mdL W A (xl y A.length) A.length).length = n) := by show _ = _; rw [mdL_len, HWL.out]
            have HA8 : Hid _ := hA8
            have HVB : Hid _ := isB_mdL hWB (isB_xl y A.length) A.length (A := A)
            obtain ⟨V, hV⟩ : ∃ V, mdL W A (xl y A.length) A.length = V := ⟨_, rfl⟩
            rw [hV] at HDE HV0 HA8 HVB
            have GW8 := grown_trans GW7 G8
            have HP8 : Hid _ := HPX.out.keep GW8
            rcases HA8.out.cases with ⟨_, h0, _⟩ | ⟨go, hgo, _, _⟩
            · omega
            have hlo8 := GW7.size
            subst hgo
            clear hyv hys hV hA8 HYES HMR HMD HA7 HNX0 HN HND HPR HHR HA5 HP5
            refine HK10.out _ _ ?_
            clear HK10
            refine wp_seq_k fun K11 hK11 => ?_
            have HK11 : Hid _ := hK11
            clear hK11
            go_wp2
            refine HK11.out _ _ ?_
            clear HK11
            refine wp_seq_k fun K12 hK12 => ?_
            have HK12 : Hid _ := hK12
            clear hK12
            go_wp2
            refine HK12.out _ _ ?_
            clear HK12
            refine wp_seq_k fun K13 hK13 => ?_
            have HK13 : Hid _ := hK13
            clear hK13
            go_wp2
            go_loopw [16, 17] (fun v16 v17 ws => ∃ (i : Nat) (ap : Option Addr) (cp : Nat), i ≤ n ∧ v17 = .int .i64 i ∧ v16 = .slice ap (difN W V i).length cp ∧ AnsX 3 ws w8.heap.size ap (difN W V i).length cp (ppI (difN W V i)) ∧ w8.grownBy ws none) (fun _ v17 _ => n - (intOf v17).toNat)
            case atStart => exact ⟨0, none, 0, Nat.zero_le _, rfl, rfl, AnsX.nil0 _ _ _, World.grownBy.refl _ _⟩
            case round =>
              obtain ⟨i, ap, cp, hi', rfl, rfl, hAi, GS⟩ := hrel
              have HAI : Hid _ := hAi
              clear hAi
              by_cases hi : i < n
              · have lii : (i : Int) < (n : Int) := by omega
                obtain ⟨wb, wo, hwa, _, hcw⟩ := (HP8.out.keep GS).at' (by omega)
                subst hwa
                have e1 := (HA8.out.keep GS).cell i _ (bys_at (by rw [HV0.out]; exact hi))
                have e2 := hcw i hi
                have hdl2 : (difN W V i).length ≤ 255 := by have := dif_len W V i; omega
                have HS1 : Hid (nth W i ≠ nth V i → difN W V (i + 1) = difN W V i ++ [i]) := fun h => dif_step h
                have HS2 : Hid (nth W i = nth V i → difN W V (i + 1) = difN W V i) := fun h => dif_skip h
                clear hcw
                generalize nth W i = z at *
                generalize nth V i = y at *
                refine wp_seq_k fun K14 hK14 => ?_
                have HK14 : Hid _ := hK14
                clear hK14
                go_wp2
                refine HK14.out _ _ ?_
                clear HK14
                refine wp_seq_k fun K15 hK15 => ?_
                have HK15 : Hid _ := hK15
                clear hK15
                refine wp_block ?_
                refine wp_seq_k fun K16 hK16 => ?_
                have HK16 : Hid _ := hK16
                clear hK16
                have Gd := grown_drew wr none
                have SS : wr.drew.cell? ⟨go, i, none⟩ = some (.int .u8 (y : Int)) ∧ wr.drew.cell? ⟨wb, wo + i, none⟩ = some (.int .u8 (z : Int)) := ⟨cell_drew _ e1, cell_drew _ e2⟩
                refine wp_regionM (fun wz => wz.cell? ⟨go, i, none⟩ = some (.int .u8 (y : Int)) ∧ wz.cell? ⟨wb, wo + i, none⟩ = some (.int .u8 (z : Int))) [] #[false, false, false, false, false, false, false, false, false] rfl (by kernel_rfl) ?_
                generalize wr.drew = wd at *
                refine wpAnyY_takeF 0 (.slice (some ⟨go, 0, none⟩) n co) rfl (by kernel_rfl) (fun _ _ _ h => h) rfl (by intro wz; go_simp; try rfl) ?_
                try simp only [List.getElem_toArray, List.getElem_cons_succ, List.getElem_cons_zero, Act.put, List.setIfInBounds_toArray, List.set_cons_zero, List.set_cons_succ]
                refine wpAnyY_takeF 1 (.int .i64 (i : Int)) rfl (by kernel_rfl) (fun _ _ _ h => h) rfl (by intro wz; go_simp; try rfl) ?_
                try simp only [List.getElem_toArray, List.getElem_cons_succ, List.getElem_cons_zero, Act.put, List.setIfInBounds_toArray, List.set_cons_zero, List.set_cons_succ]
                refine wpAnyY_takeF 2 (.pointer (some ⟨go, i, none⟩)) rfl (by kernel_rfl) (fun _ _ _ h => h) rfl (by intro wz; go_simp; try rfl) ?_
                try simp only [List.getElem_toArray, List.getElem_cons_succ, List.getElem_cons_zero, Act.put, List.setIfInBounds_toArray, List.set_cons_zero, List.set_cons_succ]
                refine wpAnyY_take [] 3 (.int .u8 (y : Int)) rfl (by kernel_rfl) (fun _ _ _ h => h) SS rfl (by rintro wz ⟨z1, z2⟩; go_simp) ?_
                try simp only [List.getElem_toArray, List.getElem_cons_succ, List.getElem_cons_zero, Act.put, List.setIfInBounds_toArray, List.set_cons_zero, List.set_cons_succ]
                refine wpAnyY_takeF 4 (.slice (some ⟨wb, wo, none⟩) n cap) rfl (by kernel_rfl) (fun _ _ _ h => h) rfl (by intro wz; go_simp; try rfl) ?_
                try simp only [List.getElem_toArray, List.getElem_cons_succ, List.getElem_cons_zero, Act.put, List.setIfInBounds_toArray, List.set_cons_zero, List.set_cons_succ]
                refine wpAnyY_takeF 5 (.int .i64 (i : Int)) rfl (by kernel_rfl) (fun _ _ _ h => h) rfl (by intro wz; go_simp; try rfl) ?_
                try simp only [List.getElem_toArray, List.getElem_cons_succ, List.getElem_cons_zero, Act.put, List.setIfInBounds_toArray, List.set_cons_zero, List.set_cons_succ]
                refine wpAnyY_takeF 6 (.pointer (some ⟨wb, wo + i, none⟩)) rfl (by kernel_rfl) (fun _ _ _ h => h) rfl (by intro wz; go_simp; try rfl) ?_
                try simp only [List.getElem_toArray, List.getElem_cons_succ, List.getElem_cons_zero, Act.put, List.setIfInBounds_toArray, List.set_cons_zero, List.set_cons_succ]
                refine wpAnyY_take [] 7 (.int .u8 (z : Int)) rfl (by kernel_rfl) (fun _ _ _ h => h) SS rfl (by rintro wz ⟨z1, z2⟩; go_simp) ?_
                try simp only [List.getElem_toArray, List.getElem_cons_succ, List.getElem_cons_zero, Act.put, List.setIfInBounds_toArray, List.set_cons_zero, List.set_cons_succ]
                refine wpAnyY_oneB 8 rfl (by kernel_rfl) (fun KK hKK => ?_)
                go_simp
                refine hKK _ _ (fun h _ => h) ?_
                try simp only [List.getElem_toArray, List.getElem_cons_succ, List.getElem_cons_zero, Act.put, List.setIfInBounds_toArray, List.set_cons_zero, List.set_cons_succ]
                refine wpAnyY_doneB (by kernel_rfl) ?_ _
                refine HK16.out _ _ ?_
                clear HK16
                by_cases hzy : y = z
                · have HS3 : Hid _ := HS2.out hzy.symm
                  subst hzy
                  have HAK : Hid _ := HAI.out.keep Gd
                  clear HS1 HS2 HAI
                  go_wp2
                  (try simp only [Exit.inBlock, Exit.then])
                  refine HK15.out _ _ ?_
                  clear HK15
                  go_wp2
                  go_roundw
                  case rel => exact ⟨i + 1, ap, cp, by omega, by go_num, by rw [HS3.out], by rw [HS3.out]; exact HAK.out, grown_trans GS Gd⟩
                  case measure => simp [intOf] <;> omega
                · have HS3 : Hid _ := HS1.out (fun h => hzy h.symm)
                  have lzy : ¬ (y : Int) = (z : Int) := by omega
                  have lzb : ((y : Int) == (z : Int)) = false := beq_false_of_ne lzy
                  have HAK : Hid _ := HAI.out.keep Gd
                  have GSd := grown_trans GS Gd
                  have hlod := GSd.size
                  clear HS1 HS2 HAI
                  go_wp2_with (at_builtin; refine wpList_psX Tryd.elJ _ (.int .i64 (i : Int)) rfl rfl _ _ rfl ap (difN W V i).length cp w8.heap.size _ rfl HAK.out hlod rfl (by omega) ?_; intro gq cq w9 hA9 g9 hx9)
                  have G9 := grown_far GSd g9 (fun y h => HAK.out.new y h)
                  have HLN : Hid ((difN W V (i + 1)).length = (difN W V i).length + 1) := by show _ = _; rw [HS3.out, List.length_append]; rfl
                  have HA9 : Hid (AnsX 3 w9 w8.heap.size (some ⟨gq, 0, none⟩) (difN W V (i + 1)).length cq (ppI (difN W V (i + 1)))) := by
                    show AnsX 3 w9 w8.heap.size (some ⟨gq, 0, none⟩) (difN W V (i + 1)).length cq (ppI (difN W V (i + 1)))
                    rw [HLN.out, HS3.out]
                    unfold ppI at hA9 ⊢
                    rw [List.map_append]
                    exact hA9
                  clear hA9 g9 hx9 HS3 HAK
                  (try simp only [Exit.inBlock, Exit.then])
                  refine HK15.out _ _ ?_
                  clear HK15
                  go_wp2
                  go_roundw
                  case rel => exact ⟨i + 1, _, cq, by omega, by go_num, by rw [HLN.out], HA9.out, G9⟩
                  case measure => simp [intOf] <;> omega
              · have lii : ¬ (i : Int) < (n : Int) := by omega
                have HIN : Hid (i = n) := by show i = n; omega
                have hcap8 := HA8.out.max
                unfold maxLen at hcap8
                have hncv : (n : Int) - (c : Int) = ((n - c : Nat) : Int) := by omega
                have lnc : ((n - c : Nat) : Int) ≤ (n : Int) := by omega
                clear hi hi'
                go_wp2
                (try simp only [Exit.inBlock, Exit.then])
                refine HK13.out _ _ ?_
                clear HK13
                go_wp2
                (try simp only [Exit.inBlock, Exit.then])
                refine bodyPost_ret (results_tmp3 rfl _ _ _) rfl ?_
                refine ⟨grown_trans GW8 GS, .inr ⟨V, difN W V n, some ⟨go, 0, none⟩, ap, co, cp, HDE.out, by rw [← HIN.out]; rfl, ?_, ?_⟩⟩
                · have h9 := ((HA8.out.keep GS).low hlo8).takeV (n - c) (by omega)
                  unfold bys at h9 ⊢
                  rw [List.map_take]
                  exact h9
                · rw [← HIN.out]
                  exact HAI.out.low GW8.size
        · have hbf : (((fndX x n e P n).length : Int) == (e : Int)) = false := beq_false_of_ne (fun h => hLe (by omega))
          have HNX : Hid _ := HNX0.out (fun V PP h he => hLe (by rw [fnd_is (HND.out V PP h).1 he.symm HSO.out, uL_len, he]))
          have HGC : Hid _ := GW5
          obtain ⟨bt, hbt2⟩ : ∃ bt, (((fndX x n e P n).length : Int) == (e : Int)) = bt := ⟨_, rfl⟩
          rw [hbt2] at hbf ⊢
          subst hbf
          clear hLe hbt2 hsol hA5 HSO HA5 HFL HNX0 HN HWA HND
          refine HK7.out _ _ ?_
          clear HK7
          go_wp2
          (try simp only [Exit.inBlock, Exit.then])
          refine HK6.out _ _ ?_
          clear HK6
          go_wp2
          go_roundw
          case rel => exact ⟨e + 1, by omega, by go_num, HNX.out, HGC.out⟩
          case measure => simp [intOf] <;> omega
    · have lec : ¬ 2 * (e : Int) + (P.length : Int) ≤ (c : Int) := by omega
      have HNO : Hid (decO W c (mkN P n P.length) = none) := by
        show decO W c (mkN P n P.length) = none
        cases h : decO W c (mkN P n P.length) with
        | none => rfl
        | some q =>
          exfalso
          obtain ⟨V, PP⟩ := q
          have h1 := (nearD_of hWB HWL.out hn hc HDP.out HLP.out h).1.near
          exact HN.out _ (by omega) V PP h rfl
      clear HN hec
      go_wp2
      (try simp only [Exit.inBlock, Exit.then])
      refine HK4.out _ _ ?_
      clear HK4
      go_wp2
      (try simp only [Exit.inBlock, Exit.then])
      refine bodyPost_ret (results_tmp3 rfl _ _ _) rfl ?_
      exact ⟨GR, .inl ⟨HNO.out, rfl⟩⟩
end
end Go.Proofs.YtdcfgaibppenaaaDoor
