import Derived.Test.YtdcfgaibppenaaaDoorSd16
import Derived.Test.YtdcfgaibppenaaaDoorSd8
namespace Go.Proofs.YtdcfgaibppenaaaDoor
open Go.RowKit
set_option maxRecDepth 100000
set_option linter.unusedVariables false
set_option linter.unusedSimpArgs false

section
open GF
def xl [Add GF] [Mul GF] [OfNat GF 0] [OfNat GF 1] [L : Nonempty GL] (x : Nat → GF) (k : Nat) : List Nat := (List.range k).map fun j => (x j).v
theorem xl_nth [Add GF] [Mul GF] [OfNat GF 0] [OfNat GF 1] [L : Nonempty GL] (x : Nat → GF) {k j : Nat} (h : j < k) : nth (xl x k) j = (x j).v := nth_map_range _ _ _ h
theorem isB_xl [Add GF] [Mul GF] [OfNat GF 0] [OfNat GF 1] [L : Nonempty GL] (x : Nat → GF) (k : Nat) : IsB (xl x k) := fun y hy => by
  unfold xl at hy
  obtain ⟨j, _, e⟩ := List.mem_map.1 hy
  rw [← e]; exact (x j).h
theorem bys_set (L : List Nat) (i v : Nat) : (bys L).set i (.int .u8 (v : Int)) = bys (L.set i v) := by
  unfold bys
  rw [List.map_set]
theorem rdx_of [Add GF] [Mul GF] [OfNat GF 0] [OfNat GF 1] [L : Nonempty GL] {w : World} {a : Option Addr} {n cap : Nat} {L : List Nat} (h : Rd w a n cap L) : RdX w a n cap (bys L) := by
  refine ⟨by rw [bys_length]; exact h.len, h.le, h.max, h.nil, fun u hu => ?_, fun h0 => ?_⟩
  · unfold bys at hu
    obtain ⟨x, _, e⟩ := List.mem_map.1 hu
    rw [← e]; rfl
  · obtain ⟨b, off, e, hb, hc⟩ := h.at' h0
    refine ⟨b, off, e, hb, fun i u hu => ?_⟩
    have hi : i < L.length := by
      have := (List.getElem?_eq_some_iff.1 hu).1
      rw [bys_length] at this; exact this
    rw [hc i (by rw [← h.len]; exact hi), ← hu]
    unfold bys nth
    rw [List.getElem?_map, List.getD_eq_getElem?_getD, List.getElem?_eq_getElem hi]
    rfl
theorem rd_of {w : World} {lo : Nat} {a : Option Addr} {n cap : Nat} {L : List Nat} (h : AnsX 5 w lo a n cap (bys L)) (hB : IsB L) : Ans w lo a n cap L := ⟨h.own, hB, h.new⟩
theorem bys_at {L : List Nat} {i : Nat} (h : i < L.length) : (bys L)[i]? = some (.int .u8 (nth L i : Nat)) := by
  unfold bys nth
  rw [List.getElem?_map, List.getD_eq_getElem?_getD, List.getElem?_eq_getElem h]
  rfl
set_option maxHeartbeats 32000000 in
theorem mendedAt_any [Add GF] [Mul GF] [OfNat GF 0] [OfNat GF 1] [L : Nonempty GL] (a : Option Addr) (n cap c : Nat) (W A : List Nat) (aA : Option Addr) (cA : Nat) (w : World) (hp : Rd w a n cap W) (hA : RdX w aA A.length cA (ppI A)) (hn0 : 0 < n) (hn : n ≤ 255) (hc1 : 1 ≤ c) (hc : c ≤ 64) (hdc : A.length ≤ c) (hAn : ∀ p, p ∈ A → p < n) :
    Calls Tryd.prog 11 #[.slice a n cap, .int .i64 (c : Int), .slice aA A.length cA] w fun e' w' => w.grownBy w' none ∧ ((e' = .returned (.tuple #[.slice none 0 0, .bool false]) ∧ (¬ InjM A.length (fun j k => pw (wt n (nth A k)) (j + 1)) ∨ ∃ x, Sol A.length (fun j k => pw (wt n (nth A k)) (j + 1)) (fun j => gn (synL W c) j) x ∧ valL (mdL W A (xl x A.length) A.length) c ≠ [])) ∨
      ∃ (x : Nat → GF) (ao : Option Addr) (co : Nat), Sol A.length (fun j k => pw (wt n (nth A k)) (j + 1)) (fun j => gn (synL W c) j) x ∧ valL (mdL W A (xl x A.length) A.length) c = [] ∧ e' = .returned (.tuple #[.slice ao n co, .bool true]) ∧ AnsX 5 w' w.heap.size ao n co (bys (mdL W A (xl x A.length) A.length))) := by
  have HSY : Hid _ := syn_any a n cap c W w hp hn hc
  have HWL : Hid (W.length = n) := hp.len
  have hWB := hp.byte
  have hmx := hp.max
  have hple := hp.le
  unfold maxLen at hmx
  have hch := hA.max
  have hchl := hA.le
  unfold maxLen at hch
  have HPX : Hid _ := hp
  have HA0 : Hid _ := hA
  have HAN : Hid _ := hAn
  obtain ⟨d, hd⟩ : ∃ d, A.length = d := ⟨_, rfl⟩
  have HD : Hid _ := hd
  rw [hd] at hdc hchl HA0 ⊢
  clear hp hA hAn hd hple
  have hS := isB_synL hWB c
  have HSL : Hid ((synL W c).length = c) := synL_len W c
  go_enter Tryd.func11, Tryd.ntmps11
  refine wp_seq_k fun K0 hK0 => ?_
  have HK0 : Hid _ := hK0
  clear hK0
  go_wp2
  refine HK0.out _ _ ?_
  clear HK0
  refine wp_seq_k fun K1 hK1 => ?_
  have HK1 : Hid _ := hK1
  clear hK1
  go_wp2_with (go_at_call 24; refine Calls.mono HSY.out ?_; rintro e9 w1 ⟨as1, cs, rfl, hS1, G1⟩)
  refine HK1.out _ _ ?_
  clear HK1
  rcases hS1.cases with ⟨_, h0, _⟩ | ⟨gs, hgs, _, _⟩
  · omega
  subst hgs
  have HSS : Hid (∀ w', w1.grownBy w' none → AnsX 5 w' 0 (some ⟨gs, 0, none⟩) c cs (gl (gn (synL W c)) c)) := fun w' g => by
    have h := (hS1.keep g).low (Nat.zero_le _)
    rw [bys_gl hS, HSL.out] at h
    exact h
  have ldc : ¬ (c : Int) < (d : Int) := by omega
  clear hS1
  refine wp_seq_k fun K2 hK2 => ?_
  have HK2 : Hid _ := hK2
  clear hK2
  go_wp2
  refine HK2.out _ _ ?_
  clear HK2
  refine wp_seq_k fun K3 hK3 => ?_
  have HK3 : Hid _ := hK3
  clear hK3
  go_wp2
  refine HK3.out _ _ ?_
  clear HK3
  refine wp_seq_k fun K4 hK4 => ?_
  have HK4 : Hid _ := hK4
  clear hK4
  go_wp2
  refine HK4.out _ _ ?_
  clear HK4
  refine wp_seq_k fun K5 hK5 => ?_
  have HK5 : Hid _ := hK5
  clear hK5
  go_wp2
  refine HK5.out _ _ ?_
  clear HK5
  have HAC : Hid (0 < d → ∃ ag ao, aA = some ⟨ag, ao, none⟩ ∧ ag < w.heap.size ∧ ∀ w', w.grownBy w' none → ∀ i, i < d → w'.cell? ⟨ag, ao + i, none⟩ = some (.int .i64 (nth A i : Nat))) := fun h => by
    obtain ⟨hb, ho, h1, h2, h3⟩ := HA0.out.at' h
    exact ⟨hb, ho, h1, h2, fun w' g i hi => cell_grR (h3 i _ (ppI_at A (by rw [HD.out]; exact hi))) g⟩
  refine wp_seq_k fun K6 hK6 => ?_
  have HK6 : Hid _ := hK6
  clear hK6
  go_wp2
  go_loopw [10, 11, 12] (fun v10 v11 v12 wr => ∃ (q : Nat) (ρ cr : Nat → Nat) (am ab : Option Addr) (cm cb : Nat), q ≤ d ∧ v12 = .int .i64 ((q : Int) + 1) ∧ v10 = .slice am q cm ∧ v11 = .slice ab q cb ∧ Bld wr w1.heap.size d q ρ cr (fun j k => pw (wt n (nth A k)) (j + 1)) (gn (synL W c)) am cm ab cb ∧ w1.grownBy wr none) (fun _ _ v12 _ => d + 1 - (intOf v12).toNat)
  case atStart => exact ⟨0, _, _, none, none, 0, 0, Nat.zero_le _, rfl, rfl, rfl, Bld.nil _ _ _ _ _, World.grownBy.refl _ _⟩
  case round =>
    obtain ⟨q, ρ, cr, am, ab, cm, cb, hq', rfl, rfl, rfl, hB, GS⟩ := hrel
    have HB : Hid _ := hB
    clear hB
    by_cases hq : q < d
    · have lqq : (q : Int) + 1 ≤ (d : Int) := by omega
      obtain ⟨ag, ao, hag, _, hcl⟩ := HAC.out (by omega)
      subst hag
      refine wp_seq_k fun K7 hK7 => ?_
      have HK7 : Hid _ := hK7
      clear hK7
      go_wp2
      refine HK7.out _ _ ?_
      clear HK7
      refine md_t10 _ (by intro c9 a1 a2 w9 hd h; exact ⟨by rw [← hd]; exact h.1, h.2⟩) w1 _ GS a n cap c gs cs d q hn hc hdc hq _ HSS.out A HD.out HAN.out ag ao cA (fun w' g => hcl w' (grown_trans G1 g)) ρ cr am ab cm cb HB.out ?_
      intro v13 v14 v32 v33 v34 v35 v36 v37 v38 v39 v40 v41 v42 v43 v44 v45 v46 v47 v48 v49 v50 v51 v52 v53 v54 v55 v56 v57 v58 v59 v60 v61 v62 v63 v64 ρ' cr' am' ab' cm' cb' w5 hB5 G5
      have HB5 : Hid _ := hB5
      clear hB5 HB hcl
      (try simp only [Exit.inBlock, Exit.then])
      (try dsimp only)
      go_roundw
      case rel => exact ⟨q + 1, ρ', cr', am', ab', cm', cb', by omega, by go_num, rfl, rfl, HB5.out, G5⟩
      case measure => simp [intOf] <;> omega
    · have lqq : ¬ (q : Int) + 1 ≤ (d : Int) := by omega
      have hqe : q = d := by omega
      have HB2 : Hid (Bld wr w1.heap.size d d ρ cr (fun j k => pw (wt n (nth A k)) (j + 1)) (gn (synL W c)) am cm ab cb) := by
        have h := HB.out
        rw [hqe] at h
        exact h
      have HQE : Hid (q = d) := hqe
      have HSV : Hid (Calls Tryd.prog 27 #[.slice am d cm, .slice ab d cb] wr fun e' w' => w1.grownBy w' none ∧ ((e' = .returned (.tuple #[.slice none 0 0, .bool false]) ∧ ¬ InjM d (fun j k => pw (wt n (nth A k)) (j + 1))) ∨ ∃ (x : Nat → GF) (la : Option Addr) (lc : Nat), e' = .returned (.tuple #[.slice la d lc, .bool true]) ∧ Sol d (fun j k => pw (wt n (nth A k)) (j + 1)) (fun j => gn (synL W c) j) x ∧ (0 < d → ∃ g0, la = some ⟨g0, 0, none⟩ ∧ ∀ j, j < d → w'.cell? ⟨g0, j, none⟩ = some (.int .u8 ((x j).v : Int))))) := by
        by_cases h0 : d = 0
        · subst h0
          obtain ⟨z1, z2, z3, z4⟩ := HB2.out.z rfl
          subst z1
          subst z2
          subst z3
          subst z4
          refine (solved_nil wr).mono ?_
          rintro e' w' ⟨rfl, g⟩
          exact ⟨grown_trans GS g, .inr ⟨fun _ => 0, none, 0, rfl, (fun r hr => by omega), fun h => by omega⟩⟩
        · obtain ⟨gm, gb, h1, h2, hM⟩ := HB2.out.mt (by omega)
          subst h1
          subst h2
          refine (solved_any w1 wr GS w1.heap.size gm gb d cm cb (Nat.le_refl _) (by omega) ρ cr _ _ hM).mono ?_
          rintro e' w' ⟨g, h⟩
          refine ⟨g, ?_⟩
          rcases h with h | ⟨x, h3, h4, h5⟩
          · exact .inl h
          · exact .inr ⟨x, _, cb, h3, h4, fun _ => ⟨gb, rfl, h5⟩⟩
      clear HB HB2 hq hq' hqe HSS
      go_wp2
      (try simp only [Exit.inBlock, Exit.then])
      refine HK6.out _ _ ?_
      clear HK6
      rw [HQE.out]
      clear HQE lqq
      refine wp_seq_k fun K7 hK7 => ?_
      have HK7 : Hid _ := hK7
      clear hK7
      go_wp2_with (go_at_call 27; refine Calls.mono HSV.out ?_; rintro e9 w5 ⟨G5, ⟨rfl, hni⟩ | ⟨x, la, lc, rfl, hsol, hla⟩⟩)
      · have HNI : Hid _ := hni
        clear hni
        refine HK7.out _ _ ?_
        clear HK7
        go_wp2
        (try simp only [Exit.inBlock, Exit.then])
        refine bodyPost_ret (results_2v rfl _ _ _) rfl ?_
        exact ⟨grown_trans G1 G5, .inl ⟨rfl, .inl HNI.out⟩⟩
      · have HSO : Hid (Sol d (fun j k => pw (wt n (nth A k)) (j + 1)) (fun j => gn (synL W c) j) x) := hsol
        have HLA : Hid (0 < d → ∃ g0, la = some ⟨g0, 0, none⟩ ∧ ∀ w', w5.grownBy w' none → ∀ j, j < d → w'.cell? ⟨g0, j, none⟩ = some (.int .u8 ((x j).v : Int))) := fun h => by
          obtain ⟨g0, h1, h2⟩ := hla h
          exact ⟨g0, h1, fun w' g j hj => cell_grR (h2 j hj) g⟩
        have GW5 := grown_trans G1 G5
        have HRW : Hid _ := rdx_of (HPX.out.keep GW5)
        clear hsol hla HSV
        refine HK7.out _ _ ?_
        clear HK7
        refine wp_seq_k fun K8 hK8 => ?_
        have HK8 : Hid _ := hK8
        clear hK8
        go_wp2
        refine HK8.out _ _ ?_
        clear HK8
        refine wp_seq_k fun K9 hK9 => ?_
        have HK9 : Hid _ := hK9
        clear hK9
        go_wp2_with (at_builtin; refine wpList_apX Tryd.elU rfl _ _ rfl none 0 0 w5.heap.size [] rfl (AnsX.nil0 _ _ _) (Nat.le_refl _) a n cap (bys W) rfl HRW.out (by omega) (by omega) ?_; intro ao' co w6 hA6 g6)
        have G6 : w5.grownBy w6 none := g6
        have hA7 : AnsX 5 w6 w5.heap.size ao' n co (bys W) := by
          rw [Nat.zero_add, List.nil_append] at hA6
          exact hA6
        rcases hA7.cases with ⟨_, h0, _⟩ | ⟨go, hgo, _, _⟩
        · omega
        subst hgo
        have HA7 : Hid _ := hA7
        clear hA6 hA7 g6 HRW
        (try rw [Nat.zero_add])
        refine HK9.out _ _ ?_
        clear HK9
        refine wp_seq_k fun K10 hK10 => ?_
        have HK10 : Hid _ := hK10
        clear hK10
        go_wp2
        obtain ⟨wX, hwX⟩ : ∃ y, w5 = y := ⟨_, rfl⟩
        rw [hwX] at G6 HA7 HLA GW5
        clear hwX
        go_loopw [18] (fun v18 wr => ∃ k : Nat, k ≤ d ∧ v18 = .int .i64 k ∧ AnsX 5 wr wX.heap.size (some ⟨go, 0, none⟩) n co (bys (mdL W A (xl x d) k)) ∧ wX.grownBy wr none) (fun v18 _ => d - (intOf v18).toNat)
        case atStart => exact ⟨0, Nat.zero_le _, rfl, HA7.out, G6⟩
        case round =>
          obtain ⟨k, hk', rfl, hO, GR⟩ := hrel
          have HO : Hid _ := hO
          clear hO
          by_cases hk : k < d
          · have lkk : (k : Int) < (d : Int) := by omega
            obtain ⟨ag, ao, hag, _, hcl⟩ := HAC.out (by omega)
            subst hag
            obtain ⟨gx, hgx, hcx⟩ := HLA.out (by omega)
            subst hgx
            have e1 := hcl wr (grown_trans GW5 GR) k hk
            have e3 := hcx wr GR k hk
            have hpn := HAN.out (nth A k) (nth_mem (by rw [HD.out]; exact hk))
            have e2 := HO.out.cell (nth A k) _ (bys_at (by rw [mdL_len, HWL.out]; exact hpn))
            have HST : Hid ((mdL W A (xl x d) k).set (nth A k) (nth (mdL W A (xl x d) k) (nth A k) ^^^ (x k).v) = mdL W A (xl x d) (k + 1)) := by
              show _ = (mdL W A (xl x d) k).set (nth A k) (nth (mdL W A (xl x d) k) (nth A k) ^^^ nth (xl x d) k)
              rw [xl_nth x hk]
            have hgl := HO.out.new go rfl
            have HB9 := (isB_mdL hWB (isB_xl x d) k (A := A)).nth (nth A k)
            obtain ⟨y, hy⟩ : ∃ y : GF, nth (mdL W A (xl x d) k) (nth A k) = y.v := ⟨⟨_, HB9⟩, rfl⟩
            rw [hy] at e2 HST
            clear hcl hcx hy HB9
            generalize nth A k = p at *
            generalize x k = z at *
            have lpn : (p : Int) < (n : Int) := by omega
            refine wp_seq_k fun K11 hK11 => ?_
            have HK11 : Hid _ := hK11
            clear hK11
            go_wp2
            refine HK11.out _ _ ?_
            clear HK11
            refine wp_seq_k fun K12 hK12 => ?_
            have HK12 : Hid _ := hK12
            clear hK12
            refine wp_block ?_
            have Gd := grown_drew wr none
            have SS : wr.drew.cell? ⟨ag, ao + k, none⟩ = some (.int .i64 (p : Int)) ∧ wr.drew.cell? ⟨go, p, none⟩ = some (.int .u8 (y.v : Int)) ∧ wr.drew.cell? ⟨gx, k, none⟩ = some (.int .u8 (z.v : Int)) := ⟨cell_drew _ e1, cell_drew _ e2, cell_drew _ e3⟩
            refine wp_regionM (fun wz => wz.cell? ⟨ag, ao + k, none⟩ = some (.int .i64 (p : Int)) ∧ wz.cell? ⟨go, p, none⟩ = some (.int .u8 (y.v : Int)) ∧ wz.cell? ⟨gx, k, none⟩ = some (.int .u8 (z.v : Int))) [13] #[false, false, false, false, false, false, false, false, false, false, false, false, false, false] rfl (by kernel_rfl) ?_
            generalize wr.drew = wd at *
            refine wpAnyY_takeF 0 (.slice (some ⟨go, 0, none⟩) n co) rfl (by kernel_rfl) (fun _ _ _ h => h) rfl (by intro wz; go_simp; try rfl) ?_
            try simp only [List.getElem_toArray, List.getElem_cons_succ, List.getElem_cons_zero, Act.put, List.setIfInBounds_toArray, List.set_cons_zero, List.set_cons_succ]
            refine wpAnyY_takeF 1 (.slice (some ⟨ag, ao, none⟩) d cA) rfl (by kernel_rfl) (fun _ _ _ h => h) rfl (by intro wz; go_simp; try rfl) ?_
            try simp only [List.getElem_toArray, List.getElem_cons_succ, List.getElem_cons_zero, Act.put, List.setIfInBounds_toArray, List.set_cons_zero, List.set_cons_succ]
            refine wpAnyY_takeF 2 (.int .i64 (k : Int)) rfl (by kernel_rfl) (fun _ _ _ h => h) rfl (by intro wz; go_simp; try rfl) ?_
            try simp only [List.getElem_toArray, List.getElem_cons_succ, List.getElem_cons_zero, Act.put, List.setIfInBounds_toArray, List.set_cons_zero, List.set_cons_succ]
            refine wpAnyY_takeF 3 (.pointer (some ⟨ag, ao + k, none⟩)) rfl (by kernel_rfl) (fun _ _ _ h => h) rfl (by intro wz; go_simp; try rfl) ?_
            try simp only [List.getElem_toArray, List.getElem_cons_succ, List.getElem_cons_zero, Act.put, List.setIfInBounds_toArray, List.set_cons_zero, List.set_cons_succ]
            refine wpAnyY_take [13] 4 (.int .i64 (p : Int)) rfl (by kernel_rfl) (fun _ _ _ h => h) SS rfl (by rintro wz ⟨z1, z2, z3⟩; go_simp) ?_
            try simp only [List.getElem_toArray, List.getElem_cons_succ, List.getElem_cons_zero, Act.put, List.setIfInBounds_toArray, List.set_cons_zero, List.set_cons_succ]
            refine wpAnyY_takeF 5 (.pointer (some ⟨go, p, none⟩)) rfl (by kernel_rfl) (fun _ _ _ h => h) rfl (by intro wz; go_simp; try rfl) ?_
            try simp only [List.getElem_toArray, List.getElem_cons_succ, List.getElem_cons_zero, Act.put, List.setIfInBounds_toArray, List.set_cons_zero, List.set_cons_succ]
            refine wpAnyY_take [13] 6 (.int .u8 (y.v : Int)) rfl (by kernel_rfl) (fun _ _ _ h => h) SS rfl (by rintro wz ⟨z1, z2, z3⟩; go_simp) ?_
            try simp only [List.getElem_toArray, List.getElem_cons_succ, List.getElem_cons_zero, Act.put, List.setIfInBounds_toArray, List.set_cons_zero, List.set_cons_succ]
            refine wpAnyY_takeF 7 (.slice (some ⟨gx, 0, none⟩) d lc) rfl (by kernel_rfl) (fun _ _ _ h => h) rfl (by intro wz; go_simp; try rfl) ?_
            try simp only [List.getElem_toArray, List.getElem_cons_succ, List.getElem_cons_zero, Act.put, List.setIfInBounds_toArray, List.set_cons_zero, List.set_cons_succ]
            refine wpAnyY_takeF 8 (.int .i64 (k : Int)) rfl (by kernel_rfl) (fun _ _ _ h => h) rfl (by intro wz; go_simp; try rfl) ?_
            try simp only [List.getElem_toArray, List.getElem_cons_succ, List.getElem_cons_zero, Act.put, List.setIfInBounds_toArray, List.set_cons_zero, List.set_cons_succ]
            refine wpAnyY_takeF 9 (.pointer (some ⟨gx, k, none⟩)) rfl (by kernel_rfl) (fun _ _ _ h => h) rfl (by intro wz; go_simp; try rfl) ?_
            try simp only [List.getElem_toArray, List.getElem_cons_succ, List.getElem_cons_zero, Act.put, List.setIfInBounds_toArray, List.set_cons_zero, List.set_cons_succ]
            refine wpAnyY_take [13] 10 (.int .u8 (z.v : Int)) rfl (by kernel_rfl) (fun _ _ _ h => h) SS rfl (by rintro wz ⟨z1, z2, z3⟩; go_simp) ?_
            try simp only [List.getElem_toArray, List.getElem_cons_succ, List.getElem_cons_zero, Act.put, List.setIfInBounds_toArray, List.set_cons_zero, List.set_cons_succ]
            refine wpAnyY_takeF 11 (.int .u8 ((y + z : GF).v : Int)) rfl (by kernel_rfl) (fun _ _ _ h => h) rfl (by intro wz; go_simp; first | done | ((rw [u8_xor_nat _ _ (GF.h _) (GF.h _), add_v]) <;> first | done | rfl)) ?_
            try simp only [List.getElem_toArray, List.getElem_cons_succ, List.getElem_cons_zero, Act.put, List.setIfInBounds_toArray, List.set_cons_zero, List.set_cons_succ]
            refine wpAnyY_takeF 12 (.pointer (some ⟨go, p, none⟩)) rfl (by kernel_rfl) (fun _ _ _ h => h) rfl (by intro wz; go_simp; try rfl) ?_
            try simp only [List.getElem_toArray, List.getElem_cons_succ, List.getElem_cons_zero, Act.put, List.setIfInBounds_toArray, List.set_cons_zero, List.set_cons_succ]
            have hAd := HO.out.keep Gd
            refine wpAnyY_oneB 13 rfl (by kernel_rfl) (fun KK hKK => ?_)
            refine step_of_listR rfl ?_
            refine wpList_stA rfl _ _ _ rfl go p wX.heap.size n co 5 _ (.int .u8 ((y + z : GF).v : Int)) rfl rfl hAd rfl (fun w' hc hf => stc_u8 _ _ _ w' hc hf) (by rw [bys_length, mdL_len, HWL.out]; exact hpn) ?_
            intro w5 hA5 g5
            show KK _ w5
            refine hKK _ _ (fun _ h => absurd (by decide) h) ?_
            try simp only [List.getElem_toArray, List.getElem_cons_succ, List.getElem_cons_zero, Act.put, List.setIfInBounds_toArray, List.set_cons_zero, List.set_cons_succ]
            refine wpAnyY_doneB (by kernel_rfl) ?_ _
            have hA6 : AnsX 5 w5 wX.heap.size (some ⟨go, 0, none⟩) n co (bys (mdL W A (xl x d) (k + 1))) := by
              rw [← HST.out, ← bys_set]
              rw [add_v] at hA5
              exact hA5
            have G7 := grown_far (grown_trans GR Gd) g5 (fun z9 e => by have e := Option.some.inj e; subst e; exact hgl)
            have HA6 : Hid _ := hA6
            clear hA6 hA5 hAd g5 HST e1 e2 e3 HO
            (try simp only [Exit.inBlock, Exit.then])
            refine HK12.out _ _ ?_
            clear HK12
            go_wp2
            go_roundw
            case rel => exact ⟨k + 1, by omega, by go_num, HA6.out, G7⟩
            case measure => simp [intOf] <;> omega
          · have lkk : ¬ (k : Int) < (d : Int) := by omega
            have HO2 : Hid (AnsX 5 wr wX.heap.size (some ⟨go, 0, none⟩) n co (bys (mdL W A (xl x d) d))) := by
              show AnsX 5 wr wX.heap.size (some ⟨go, 0, none⟩) n co (bys (mdL W A (xl x d) d))
              have h := HO.out
              rw [show k = d by omega] at h
              exact h
            have hOB : IsB (mdL W A (xl x d) d) := isB_mdL hWB (isB_xl x _) _
            have HOL : Hid ((mdL W A (xl x d) d).length = n) := by show _ = _; rw [mdL_len, HWL.out]
            obtain ⟨V, hV⟩ : ∃ V, mdL W A (xl x d) d = V := ⟨_, rfl⟩
            have HV : Hid _ := hV
            rw [hV] at HO2 hOB HOL
            have HSY2 : Hid _ := syn_any (some ⟨go, 0, none⟩) n co c V wr ((rd_of HO2.out hOB).rd) hn hc
            have GWR := grown_trans GW5 GR
            clear hV HO hk hk' HA7
            go_wp2
            (try simp only [Exit.inBlock, Exit.then])
            refine HK10.out _ _ ?_
            clear HK10
            refine wp_seq_k fun K11 hK11 => ?_
            have HK11 : Hid _ := hK11
            clear hK11
            go_wp2_with (go_at_call 24; refine Calls.mono HSY2.out ?_; rintro e9 w7 ⟨as7, cs7, rfl, hS7, G7⟩)
            refine HK11.out _ _ ?_
            clear HK11
            rcases hS7.cases with ⟨_, h0, _⟩ | ⟨g7, hg7, _, _⟩
            · omega
            subst hg7
            have HS7 : Hid _ := hS7
            have GW7 := grown_trans GWR G7
            have HO7 : Hid _ := (HO2.out.keep G7).low GW5.size
            clear hS7 HSY2 HO2
            refine wp_seq_k fun K12 hK12 => ?_
            have HK12 : Hid _ := hK12
            clear hK12
            go_wp2
            go_loopw [20] (fun v20 ws => ∃ j : Nat, j ≤ c ∧ v20 = .int .i64 j ∧ Hid (∀ q, q < j → nth (synL V c) q = 0) ∧ w7.grownBy ws none) (fun v20 _ => c - (intOf v20).toNat)
            case atStart => exact ⟨0, Nat.zero_le _, rfl, (fun q h => by omega), World.grownBy.refl _ _⟩
            case round =>
              obtain ⟨j, hj', rfl, HZ, GT⟩ := hrel
              by_cases hj : j < c
              · have ljj : (j : Int) < (c : Int) := by omega
                have e1 := (HS7.out.keep GT).cell j _ (bys_at (by rw [synL_len]; exact hj))
                by_cases hz : nth (synL V c) j = 0
                · have HZ2 : Hid (∀ q, q < j + 1 → nth (synL V c) q = 0) := fun q h => by
                    by_cases e : q = j
                    · rw [e]; exact hz
                    · exact HZ.out q (by omega)
                  rw [hz] at e1
                  have e1' : World.cell? _ ⟨g7, j, none⟩ = some (.int .u8 0) := e1
                  clear e1 hz HZ
                  go_wp2
                  go_roundw
                  case rel => exact ⟨j + 1, by omega, by go_num, HZ2.out, GT⟩
                  case measure => simp [intOf] <;> omega
                · have HNE : Hid (valL V c ≠ []) := fun h => hz (by
                    rw [← nth_trimL]
                    show nth (valL V c) j = 0
                    rw [h]; exact nth_nil j)
                  generalize nth (synL V c) j = z at *
                  have hzi : ¬ (z : Int) = 0 := by omega
                  have hzb : ((z : Int) == 0) = false := beq_false_of_ne hzi
                  go_wp2
                  (try simp only [Exit.inBlock, Exit.then])
                  refine bodyPost_ret (results_2v rfl _ _ _) rfl ?_
                  exact ⟨grown_trans GW7 GT, .inl ⟨rfl, .inr ⟨x, HSO.out, by rw [HV.out]; exact HNE.out⟩⟩⟩
              · have ljj : ¬ (j : Int) < (c : Int) := by omega
                have HVV : Hid (valL V c = []) := trimL_nil (fun q => by
                  by_cases hq : q < c
                  · exact HZ.out q (by omega)
                  · exact nth_out _ _ (by rw [synL_len]; omega))
                clear HZ hj hj'
                go_wp2
                (try simp only [Exit.inBlock, Exit.then])
                refine HK12.out _ _ ?_
                clear HK12
                go_wp2
                refine bodyPost_ret (results_2v rfl _ _ _) rfl ?_
                exact ⟨grown_trans GW7 GT, .inr ⟨x, _, co, HSO.out, by rw [HV.out]; exact HVV.out, rfl, by rw [HV.out]; exact HO7.out.keep GT⟩⟩
end

section
/-- holes marked: the first k of P -/
def mkN (P : List Nat) (n : Nat) : Nat → List Bool
  | 0 => List.replicate n false
  | k + 1 => (mkN P n k).set (nth P k) true
theorem mkN_len (P : List Nat) (n k : Nat) : (mkN P n k).length = n := by
  induction k with
  | zero => simp [mkN]
  | succ k ih => simp only [mkN, List.length_set]; exact ih
theorem bat_set (H : List Bool) (i : Nat) (x : Bool) (p : Nat) (hi : i < H.length) : bat (H.set i x) p = if i = p then x else bat H p := by
  unfold bat
  rw [List.getD_eq_getElem?_getD, List.getD_eq_getElem?_getD, List.getElem?_set]
  by_cases h : i = p
  · subst h; simp [hi]
  · simp [h]
theorem bat_mk [Add GF] [Mul GF] [OfNat GF 0] [OfNat GF 1] [L : Nonempty GL] (P : List Nat) (n : Nat) (hlt : ∀ i, i < P.length → nth P i < n) (k : Nat) (hk : k ≤ P.length) (p : Nat) : bat (mkN P n k) p = true ↔ ∃ i, i < k ∧ nth P i = p := by
  induction k with
  | zero => simp only [mkN, bat_none]; constructor
            · intro h; cases h
            · rintro ⟨i, hi, _⟩; omega
  | succ k ih =>
    simp only [mkN]
    rw [bat_set _ _ _ _ (by rw [mkN_len]; exact hlt k (by omega))]
    by_cases h : nth P k = p
    · rw [if_pos h]; exact ⟨fun _ => ⟨k, by omega, h⟩, fun _ => rfl⟩
    · rw [if_neg h, ih (by omega)]
      constructor
      · rintro ⟨i, hi, e⟩; exact ⟨i, by omega, e⟩
      · rintro ⟨i, hi, e⟩
        have : i ≠ k := fun e2 => h (by rw [← e2]; exact e)
        exact ⟨i, by omega, e⟩
theorem cnt_set [Add GF] [Mul GF] [OfNat GF 0] [OfNat GF 1] [L : Nonempty GL] (H : List Bool) (i n : Nat) (hi : i < n) (hl : i < H.length) (h : bat H i = false) : cntB (H.set i true) n = cntB H n + 1 := by
  induction n with
  | zero => omega
  | succ n ih =>
    unfold cntB
    rw [bat_set _ _ _ _ hl]
    by_cases e : i = n
    · subst e
      rw [if_pos rfl, h]
      have e2 : cntB (H.set i true) i = cntB H i := by
        have : ∀ k, k ≤ i → cntB (H.set i true) k = cntB H k := by
          intro k
          induction k with
          | zero => intro _; rfl
          | succ k ih2 =>
            intro hk
            have e3 : bat (H.set i true) k = bat H k := by rw [bat_set _ _ _ _ hl, if_neg (by omega)]
            unfold cntB; rw [e3, ih2 (by omega)]
        exact this i (Nat.le_refl _)
      simp [e2]
    · rw [if_neg e, ih (by omega)]
      split <;> rfl
def Dist (P : List Nat) : Prop := ∀ i j, j < i → i < P.length → nth P j ≠ nth P i
theorem mk_new [Add GF] [Mul GF] [OfNat GF 0] [OfNat GF 1] [L : Nonempty GL] {P : List Nat} {n : Nat} (hlt : ∀ i, i < P.length → nth P i < n) (hd : Dist P) (k : Nat) (hk : k < P.length) : bat (mkN P n k) (nth P k) = false := by
  have h := bat_mk P n hlt k (by omega) (nth P k)
  by_cases e : bat (mkN P n k) (nth P k) = true
  · obtain ⟨i, hi, e2⟩ := h.1 e
    exact absurd e2 (hd k i hi hk)
  · simpa using e
theorem cnt_mk [Add GF] [Mul GF] [OfNat GF 0] [OfNat GF 1] [L : Nonempty GL] {P : List Nat} {n : Nat} (hlt : ∀ i, i < P.length → nth P i < n) (hd : Dist P) (k : Nat) (hk : k ≤ P.length) : cntB (mkN P n k) n = k := by
  induction k with
  | zero => exact cnt_none n n
  | succ k ih =>
    simp only [mkN]
    rw [cnt_set _ _ _ (hlt k (by omega)) (by rw [mkN_len]; exact hlt k (by omega)) (mk_new hlt hd k (by omega)), ih (by omega)]
theorem mark_ok [Add GF] [Mul GF] [OfNat GF 0] [OfNat GF 1] [L : Nonempty GL] (a : Option Addr) (m cap n lo : Nat) (P : List Nat) (w : World) (hp : AnsI w lo a m cap P) (hlt : ∀ i, i < P.length → nth P i < n) (hd : Dist P) (hn : n ≤ 100000) (hm : m ≤ 100000) :
    Calls Tryd.prog 13 #[.slice a m cap, .int .i64 n] w fun e w' => e = .returned (.tuple #[.slice (some ⟨w.heap.size, 0, none⟩) n n, .int .i64 0]) ∧ RdB w' (some ⟨w.heap.size, 0, none⟩) n n (mkN P n m) ∧ w.grownBy w' none := by
  have HL : Hid (P.length = m) := hp.len
  go_enter Tryd.func13, Tryd.ntmps13
  go_wp2
  go_loop [13] (fun i => ∃ k : Nat, k ≤ m ∧ i = .int .i64 k) (fun i => m - (intOf i).toNat)
  case atStart => exact ⟨0, by omega, rfl⟩
  case round =>
    obtain ⟨k, hk, rfl⟩ := hrel
    by_cases hkm : k < m
    · obtain ⟨g, hg, hc⟩ := hp.at' (by omega)
      subst hg
      have hck := hc k hkm
      have hl := hlt k (by rw [HL.out]; exact hkm)
      clear hc
      go_wp2
      go_round
      case rel => exact ⟨k + 1, by omega, by go_num⟩
      case measure => simp [intOf]; omega
    · obtain rfl : k = m := by omega
      go_wp2_with (at_make; refine wpList_mkBool _ rfl _ _ rfl _ _ n rfl rfl rfl rfl (by omega) ?_; intro w1 hb1 hg1)
      go_loopw [29] (fun i wr => ∃ q : Nat, q ≤ k ∧ i = .int .i64 q ∧ w.grownBy wr none ∧ BlkB wr w.heap.size (mkN P n q)) (fun i _ => k - (intOf i).toNat)
      case atStart => exact ⟨0, by omega, rfl, hg1, hb1⟩
      case round =>
        obtain ⟨q, hq, rfl, hgr, hB⟩ := hrel
        by_cases hqk : q < k
        · obtain ⟨g, hg, hc⟩ := (hp.keep hgr).at' (by omega)
          subst hg
          have hcq := hc q hqk
          have hl := hlt q (by rw [HL.out]; exact hqk)
          have hml := mkN_len P n q
          have hcb := hB.cell (nth P q) (by rw [hml]; exact hl)
          rw [mk_new hlt hd q (by rw [HL.out]; exact hqk)] at hcb
          have hfb := hB.free (nth P q)
          have hS := hB.set (nth P q) true
          clear hc hml
          go_wp2
          go_roundw
          case rel => exact ⟨q + 1, by omega, by go_num, new_then hgr (grown_set _ _ _ _), hS⟩
          case measure => simp [intOf]; omega
        · obtain rfl : q = k := by omega
          have hR := hB.rd (mkN_len P n q) (by unfold maxLen; omega)
          go_wp2
          go_ret2
          exact ⟨rfl, hR, hgr⟩
end
end Go.Proofs.YtdcfgaibppenaaaDoor
