import Derived.Test.YtdcfgaibppenaaaDoorSd17
import Derived.Test.YtdcfgaibppenaaaDoorSd16
namespace Go.Proofs.YtdcfgaibppenaaaDoor
open Go.RowKit
set_option maxRecDepth 100000
set_option linter.unusedVariables false
set_option linter.unusedSimpArgs false

section
open GF
def zI (L : List Int) : List Value := L.map fun (x : Int) => Value.int .i64 x
theorem zI_at (L : List Int) {i : Nat} (h : i < L.length) : (zI L)[i]? = some (.int .i64 (L.getD i 0)) := by
  unfold zI
  rw [List.getElem?_map, List.getD_eq_getElem?_getD, List.getElem?_eq_getElem h]
  rfl
/-- a hole that is none -/
def BadH (n : Nat) (L : List Int) : Prop := ∃ i, i < L.length ∧ (L.getD i 0 < 0 ∨ (n : Int) ≤ L.getD i 0)
theorem all_nat {n : Nat} {L : List Int} (h : ¬ BadH n L) : ∃ P : List Nat, zI L = ppI P ∧ P.length = L.length ∧ ∀ p, p ∈ P → p < n := by
  have hx : ∀ x, x ∈ L → 0 ≤ x ∧ x < (n : Int) := fun x hx => by
    obtain ⟨i, hi, e⟩ := List.getElem_of_mem hx
    refine Classical.byContradiction fun hc => h ⟨i, hi, ?_⟩
    rw [List.getD_eq_getElem?_getD, List.getElem?_eq_getElem hi]
    show L[i] < 0 ∨ (n : Int) ≤ L[i]
    rw [e]
    omega
  refine ⟨L.map Int.toNat, ?_, List.length_map _, fun p hp => ?_⟩
  · unfold zI ppI
    rw [List.map_map]
    refine List.map_congr_left fun x hx' => ?_
    have := hx x hx'
    show Value.int .i64 x = Value.int .i64 ((x.toNat : Nat) : Int)
    rw [Int.toNat_of_nonneg this.1]
  · obtain ⟨x, hx', e⟩ := List.mem_map.1 hp
    have := hx x hx'
    omega
set_option maxHeartbeats 8000000 in
theorem holed_bad [Add GF] [Mul GF] [OfNat GF 0] [OfNat GF 1] [L : Nonempty GL] (a : Option Addr) (m cap n : Nat) (L : List Int) (w : World) (hL : L.length = m) (hR : RdX w a m cap (zI L)) (hn : n ≤ 255) (hb : BadH n L) :
    Calls Tryd.prog 9 #[.int .i64 (n : Int), .slice a m cap] w fun e w' => e = .returned (.int .i64 2) ∧ w.grownBy w' none := by
  have hmx := hR.max
  have hle := hR.le
  unfold maxLen at hmx
  have HB : Hid _ := hb
  have HR : Hid _ := hR
  have HL : Hid _ := hL
  clear hb hR hL
  go_enter Tryd.func9, Tryd.ntmps9
  refine wp_seq_k fun K0 hK0 => ?_
  have HK0 : Hid _ := hK0
  clear hK0
  go_wp2
  refine HK0.out _ _ ?_
  clear HK0
  refine wp_seq_k fun K1 hK1 => ?_
  have HK1 : Hid _ := hK1
  clear hK1
  go_wp2
  go_loopw [5] (fun v5 wr => ∃ k : Nat, k ≤ m ∧ v5 = .int .i64 k ∧ Hid (∀ i, i < k → 0 ≤ L.getD i 0 ∧ L.getD i 0 < (n : Int)) ∧ w.grownBy wr none) (fun v5 _ => m - (intOf v5).toNat)
  case atStart => exact ⟨0, Nat.zero_le _, rfl, (fun i h => by omega), World.grownBy.refl _ _⟩
  case round =>
    obtain ⟨k, hk', rfl, HK, GR⟩ := hrel
    by_cases hk : k < m
    · have lkk : (k : Int) < (m : Int) := by omega
      obtain ⟨hb, ho, hha, _, hc⟩ := (HR.out.keep GR).at' (by omega)
      have e1 := hc k _ (zI_at L (by rw [HL.out]; exact hk))
      subst hha
      have HK2 : Hid (0 ≤ L.getD k 0 → L.getD k 0 < (n : Int) → ∀ i, i < k + 1 → 0 ≤ L.getD i 0 ∧ L.getD i 0 < (n : Int)) := fun h1 h2 i hi => by
        by_cases e : i = k
        · rw [e]; exact ⟨h1, h2⟩
        · exact HK.out i (by omega)
      clear hc HK HR
      generalize L.getD k 0 = x at *
      by_cases h1 : x < 0
      · go_wp2
        (try simp only [Exit.inBlock, Exit.then])
        first | go_ret | skip
        exact ⟨rfl, GR⟩
      · by_cases h2 : (n : Int) ≤ x
        · go_wp2
          (try simp only [Exit.inBlock, Exit.then])
          first | go_ret | skip
          exact ⟨rfl, GR⟩
        · have HK3 : Hid _ := HK2.out (by omega) (by omega)
          clear HK2
          go_wp2
          go_roundw
          case rel => exact ⟨k + 1, by omega, by go_num, HK3.out, GR⟩
          case measure => simp [intOf] <;> omega
    · exfalso
      obtain ⟨i, h1, h2⟩ := HB.out
      rw [HL.out] at h1
      have := HK.out i (by omega)
      omega
set_option maxHeartbeats 16000000 in
theorem holed_in [Add GF] [Mul GF] [OfNat GF 0] [OfNat GF 1] [L : Nonempty GL] (a : Option Addr) (m cap n : Nat) (P : List Nat) (w : World) (hL : P.length = m) (hR : RdX w a m cap (ppI P)) (hn : n ≤ 255) (hp : ∀ p, p ∈ P → p < n) :
    Calls Tryd.prog 9 #[.int .i64 (n : Int), .slice a m cap] w fun e w' => ((e = .returned (.int .i64 4) ∧ ¬ Dist P) ∨ (e = .returned (.int .i64 0) ∧ Dist P)) ∧ w.grownBy w' none := by
  have hmx := hR.max
  have hle := hR.le
  unfold maxLen at hmx
  have HR : Hid _ := hR
  have HL : Hid _ := hL
  have HP : Hid _ := hp
  clear hR hL hp
  go_enter Tryd.func9, Tryd.ntmps9
  refine wp_seq_k fun K0 hK0 => ?_
  have HK0 : Hid _ := hK0
  clear hK0
  go_wp2
  refine HK0.out _ _ ?_
  clear HK0
  refine wp_seq_k fun K1 hK1 => ?_
  have HK1 : Hid _ := hK1
  clear hK1
  go_wp2
  go_loopw [5] (fun v5 wr => ∃ k : Nat, k ≤ m ∧ v5 = .int .i64 k ∧ w.grownBy wr none) (fun v5 _ => m - (intOf v5).toNat)
  case atStart => exact ⟨0, Nat.zero_le _, rfl, World.grownBy.refl _ _⟩
  case round =>
    obtain ⟨k, hk', rfl, GR⟩ := hrel
    by_cases hk : k < m
    · have lkk : (k : Int) < (m : Int) := by omega
      obtain ⟨hb, ho, hha, _, hc⟩ := (HR.out.keep GR).at' (by omega)
      have e1 := hc k _ (ppI_at P (by rw [HL.out]; exact hk))
      have hx := HP.out (nth P k) (nth_mem (by rw [HL.out]; exact hk))
      subst hha
      clear hc HR
      generalize nth P k = x at *
      have lx1 : ¬ (x : Int) < 0 := by omega
      have lx2 : ¬ (n : Int) ≤ (x : Int) := by omega
      go_wp2
      go_roundw
      case rel => exact ⟨k + 1, by omega, by go_num, GR⟩
      case measure => simp [intOf] <;> omega
    · have lkk : ¬ (k : Int) < (m : Int) := by omega
      clear hk hk'
      have G0 := GR
      clear GR
      go_wp2
      (try simp only [Exit.inBlock, Exit.then])
      refine HK1.out _ _ ?_
      clear HK1
      refine wp_seq_k fun K2 hK2 => ?_
      have HK2 : Hid _ := hK2
      clear hK2
      go_wp2
      go_loopw [6] (fun v6 ws => ∃ i : Nat, i ≤ m ∧ v6 = .int .i64 i ∧ Hid (∀ q j, j < q → q < i → nth P j ≠ nth P q) ∧ w.grownBy ws none) (fun v6 _ => m - (intOf v6).toNat)
      case atStart => exact ⟨0, Nat.zero_le _, rfl, (fun q j _ h => by omega), G0⟩
      case round =>
        obtain ⟨i, hi', rfl, HI, GS⟩ := hrel
        by_cases hi : i < m
        · have lii : (i : Int) < (m : Int) := by omega
          obtain ⟨hb, ho, hha, _, _⟩ := (HR.out.keep GS).at' (by omega)
          subst hha
          refine wp_seq_k fun K3 hK3 => ?_
          have HK3 : Hid _ := hK3
          clear hK3
          go_wp2
          refine HK3.out _ _ ?_
          clear HK3
          refine wp_seq_k fun K4 hK4 => ?_
          have HK4 : Hid _ := hK4
          clear hK4
          refine wp_block ?_
          go_wp2
          go_loopw [7] (fun v7 ws => ∃ j : Nat, j ≤ i ∧ v7 = .int .i64 j ∧ Hid (∀ q, q < j → nth P q ≠ nth P i) ∧ w.grownBy ws none) (fun v7 _ => i - (intOf v7).toNat)
          case atStart => exact ⟨0, Nat.zero_le _, rfl, (fun q h => by omega), GS⟩
          case round =>
            obtain ⟨j, hj', rfl, HJ, GR⟩ := hrel
            by_cases hj : j < i
            · have ljj : (j : Int) < (i : Int) := by omega
              have ljm : (j : Int) < (m : Int) := by omega
              obtain ⟨hb2, ho2, hha2, _, hc⟩ := (HR.out.keep GR).at' (by omega)
              injection hha2 with hha2
              injection hha2 with hha2 hha3
              subst hha2
              subst hha3
              have e1 := hc i _ (ppI_at P (by rw [HL.out]; exact hi))
              have e2 := hc j _ (ppI_at P (by rw [HL.out]; omega))
              have HNE : Hid (nth P i = nth P j → ¬ Dist P) := fun h hd => hd i j hj (by rw [HL.out]; exact hi) h.symm
              have HJ2 : Hid (nth P i ≠ nth P j → ∀ q, q < j + 1 → nth P q ≠ nth P i) := fun h q hq => by
                by_cases e : q = j
                · rw [e]; exact fun h2 => h h2.symm
                · exact HJ.out q (by omega)
              clear hc HJ
              generalize nth P i = x at *
              generalize nth P j = y at *
              refine wp_seq_k fun K5 hK5 => ?_
              have HK5 : Hid _ := hK5
              clear hK5
              go_wp2
              refine HK5.out _ _ ?_
              clear HK5
              refine wp_seq_k fun K6 hK6 => ?_
              have HK6 : Hid _ := hK6
              clear hK6
              refine wp_block ?_
              refine wp_seq_k fun K7 hK7 => ?_
              have HK7 : Hid _ := hK7
              clear hK7
              have Gd := grown_drew wr none
              have SS : wr.drew.cell? ⟨hb, ho + i, none⟩ = some (.int .i64 (x : Int)) ∧ wr.drew.cell? ⟨hb, ho + j, none⟩ = some (.int .i64 (y : Int)) := ⟨cell_drew _ e1, cell_drew _ e2⟩
              refine wp_regionM (fun wz => wz.cell? ⟨hb, ho + i, none⟩ = some (.int .i64 (x : Int)) ∧ wz.cell? ⟨hb, ho + j, none⟩ = some (.int .i64 (y : Int))) [] #[false, false, false, false, false, false, false, false, false] rfl (by kernel_rfl) ?_
              generalize wr.drew = wd at *
              refine wpAnyY_takeF 0 (.slice (some ⟨hb, ho, none⟩) m cap) rfl (by kernel_rfl) (fun _ _ _ h => h) rfl (by intro wz; go_simp; try rfl) ?_
              try simp only [List.getElem_toArray, List.getElem_cons_succ, List.getElem_cons_zero, Act.put, List.setIfInBounds_toArray, List.set_cons_zero, List.set_cons_succ]
              refine wpAnyY_takeF 1 (.int .i64 (i : Int)) rfl (by kernel_rfl) (fun _ _ _ h => h) rfl (by intro wz; go_simp; try rfl) ?_
              try simp only [List.getElem_toArray, List.getElem_cons_succ, List.getElem_cons_zero, Act.put, List.setIfInBounds_toArray, List.set_cons_zero, List.set_cons_succ]
              refine wpAnyY_takeF 2 (.pointer (some ⟨hb, ho + i, none⟩)) rfl (by kernel_rfl) (fun _ _ _ h => h) rfl (by intro wz; go_simp; try rfl) ?_
              try simp only [List.getElem_toArray, List.getElem_cons_succ, List.getElem_cons_zero, Act.put, List.setIfInBounds_toArray, List.set_cons_zero, List.set_cons_succ]
              refine wpAnyY_take [] 3 (.int .i64 (x : Int)) rfl (by kernel_rfl) (fun _ _ _ h => h) SS rfl (by rintro wz ⟨z1, z2⟩; go_simp) ?_
              try simp only [List.getElem_toArray, List.getElem_cons_succ, List.getElem_cons_zero, Act.put, List.setIfInBounds_toArray, List.set_cons_zero, List.set_cons_succ]
              refine wpAnyY_takeF 4 (.slice (some ⟨hb, ho, none⟩) m cap) rfl (by kernel_rfl) (fun _ _ _ h => h) rfl (by intro wz; go_simp; try rfl) ?_
              try simp only [List.getElem_toArray, List.getElem_cons_succ, List.getElem_cons_zero, Act.put, List.setIfInBounds_toArray, List.set_cons_zero, List.set_cons_succ]
              refine wpAnyY_takeF 5 (.int .i64 (j : Int)) rfl (by kernel_rfl) (fun _ _ _ h => h) rfl (by intro wz; go_simp; try rfl) ?_
              try simp only [List.getElem_toArray, List.getElem_cons_succ, List.getElem_cons_zero, Act.put, List.setIfInBounds_toArray, List.set_cons_zero, List.set_cons_succ]
              refine wpAnyY_takeF 6 (.pointer (some ⟨hb, ho + j, none⟩)) rfl (by kernel_rfl) (fun _ _ _ h => h) rfl (by intro wz; go_simp; try rfl) ?_
              try simp only [List.getElem_toArray, List.getElem_cons_succ, List.getElem_cons_zero, Act.put, List.setIfInBounds_toArray, List.set_cons_zero, List.set_cons_succ]
              refine wpAnyY_take [] 7 (.int .i64 (y : Int)) rfl (by kernel_rfl) (fun _ _ _ h => h) SS rfl (by rintro wz ⟨z1, z2⟩; go_simp) ?_
              try simp only [List.getElem_toArray, List.getElem_cons_succ, List.getElem_cons_zero, Act.put, List.setIfInBounds_toArray, List.set_cons_zero, List.set_cons_succ]
              refine wpAnyY_oneB 8 rfl (by kernel_rfl) (fun KK hKK => ?_)
              go_simp
              refine hKK _ _ (fun h _ => h) ?_
              try simp only [List.getElem_toArray, List.getElem_cons_succ, List.getElem_cons_zero, Act.put, List.setIfInBounds_toArray, List.set_cons_zero, List.set_cons_succ]
              refine wpAnyY_doneB (by kernel_rfl) ?_ _
              refine HK7.out _ _ ?_
              clear HK7
              by_cases hxy : x = y
              · have HN : Hid _ := HNE.out hxy
                subst hxy
                clear HNE HJ2
                go_wp2
                (try simp only [Exit.inBlock, Exit.then])
                first | go_ret | skip
                exact ⟨.inl ⟨rfl, HN.out⟩, grown_trans GR Gd⟩
              · have HJ3 : Hid _ := HJ2.out hxy
                have lxy : ¬ (x : Int) = (y : Int) := by omega
                have lxb : ((x : Int) == (y : Int)) = false := beq_false_of_ne lxy
                clear HJ2 HNE
                go_wp2
                (try simp only [Exit.inBlock, Exit.then])
                refine HK6.out _ _ ?_
                clear HK6
                go_wp2
                go_roundw
                case rel => exact ⟨j + 1, by omega, by go_num, HJ3.out, grown_trans GR Gd⟩
                case measure => simp [intOf] <;> omega
            · have ljj : ¬ (j : Int) < (i : Int) := by omega
              have HI2 : Hid (∀ q j, j < q → q < i + 1 → nth P j ≠ nth P q) := fun q j' h1 h2 => by
                by_cases e : q = i
                · rw [e]; exact HJ.out j' (by omega)
                · exact HI.out q j' h1 (by omega)
              clear HI HJ
              go_wp2
              (try simp only [Exit.inBlock, Exit.then])
              refine HK4.out _ _ ?_
              clear HK4
              go_wp2
              go_roundw
              case rel => exact ⟨i + 1, by omega, by go_num, HI2.out, GR⟩
              case measure => simp [intOf] <;> omega
        · have lii : ¬ (i : Int) < (m : Int) := by omega
          have HD : Hid (Dist P) := fun q j h1 h2 => HI.out q j h1 (by rw [HL.out] at h2; omega)
          clear HI
          go_wp2
          (try simp only [Exit.inBlock, Exit.then])
          refine HK2.out _ _ ?_
          clear HK2
          go_wp2
          first | go_ret | skip
          exact ⟨.inr ⟨rfl, HD.out⟩, GS⟩
set_option maxHeartbeats 8000000 in
theorem mark_bad [Add GF] [Mul GF] [OfNat GF 0] [OfNat GF 1] [L : Nonempty GL] (a : Option Addr) (m cap n : Nat) (L : List Int) (w : World) (hL : L.length = m) (hR : RdX w a m cap (zI L)) (hn : n ≤ 255) (hb : BadH n L) :
    Calls Tryd.prog 13 #[.slice a m cap, .int .i64 (n : Int)] w fun e w' => e = .returned (.tuple #[.slice none 0 0, .int .i64 2]) ∧ w.grownBy w' none := by
  have hmx := hR.max
  have hle := hR.le
  unfold maxLen at hmx
  have HB : Hid _ := hb
  have HR : Hid _ := hR
  have HL : Hid _ := hL
  clear hb hR hL
  go_enter Tryd.func13, Tryd.ntmps13
  refine wp_seq_k fun K0 hK0 => ?_
  have HK0 : Hid _ := hK0
  clear hK0
  go_wp2
  refine HK0.out _ _ ?_
  clear HK0
  refine wp_seq_k fun K1 hK1 => ?_
  have HK1 : Hid _ := hK1
  clear hK1
  go_wp2
  go_loopw [13] (fun v5 wr => ∃ k : Nat, k ≤ m ∧ v5 = .int .i64 k ∧ Hid (∀ i, i < k → 0 ≤ L.getD i 0 ∧ L.getD i 0 < (n : Int)) ∧ w.grownBy wr none) (fun v5 _ => m - (intOf v5).toNat)
  case atStart => exact ⟨0, Nat.zero_le _, rfl, (fun i h => by omega), World.grownBy.refl _ _⟩
  case round =>
    obtain ⟨k, hk', rfl, HK, GR⟩ := hrel
    by_cases hk : k < m
    · have lkk : (k : Int) < (m : Int) := by omega
      obtain ⟨hb, ho, hha, _, hc⟩ := (HR.out.keep GR).at' (by omega)
      have e1 := hc k _ (zI_at L (by rw [HL.out]; exact hk))
      subst hha
      have HK2 : Hid (0 ≤ L.getD k 0 → L.getD k 0 < (n : Int) → ∀ i, i < k + 1 → 0 ≤ L.getD i 0 ∧ L.getD i 0 < (n : Int)) := fun h1 h2 i hi => by
        by_cases e : i = k
        · rw [e]; exact ⟨h1, h2⟩
        · exact HK.out i (by omega)
      clear hc HK HR
      generalize L.getD k 0 = x at *
      by_cases h1 : x < 0
      · go_wp2
        (try simp only [Exit.inBlock, Exit.then])
        refine bodyPost_ret (results_2v rfl _ _ _) rfl ?_
        exact ⟨rfl, GR⟩
      · by_cases h2 : (n : Int) ≤ x
        · go_wp2
          (try simp only [Exit.inBlock, Exit.then])
          refine bodyPost_ret (results_2v rfl _ _ _) rfl ?_
          exact ⟨rfl, GR⟩
        · have HK3 : Hid _ := HK2.out (by omega) (by omega)
          clear HK2
          go_wp2
          go_roundw
          case rel => exact ⟨k + 1, by omega, by go_num, HK3.out, GR⟩
          case measure => simp [intOf] <;> omega
    · exfalso
      obtain ⟨i, h1, h2⟩ := HB.out
      rw [HL.out] at h1
      have := HK.out i (by omega)
      omega
set_option maxHeartbeats 16000000 in
theorem mark_twice [Add GF] [Mul GF] [OfNat GF 0] [OfNat GF 1] [L : Nonempty GL] (a : Option Addr) (m cap n : Nat) (P : List Nat) (w : World) (hL : P.length = m) (hR : RdX w a m cap (ppI P)) (hn : n ≤ 255) (hp : ∀ p, p ∈ P → p < n) (hd : ¬ Dist P) :
    Calls Tryd.prog 13 #[.slice a m cap, .int .i64 (n : Int)] w fun e w' => e = .returned (.tuple #[.slice none 0 0, .int .i64 4]) ∧ w.grownBy w' none := by
  have hmx := hR.max
  have hle := hR.le
  unfold maxLen at hmx
  have HR : Hid _ := hR
  have HL : Hid _ := hL
  have HP : Hid _ := hp
  have HD : Hid _ := hd
  clear hR hL hp hd
  go_enter Tryd.func13, Tryd.ntmps13
  refine wp_seq_k fun K0 hK0 => ?_
  have HK0 : Hid _ := hK0
  clear hK0
  go_wp2
  refine HK0.out _ _ ?_
  clear HK0
  refine wp_seq_k fun K1 hK1 => ?_
  have HK1 : Hid _ := hK1
  clear hK1
  go_wp2
  go_loopw [13] (fun v5 wr => ∃ k : Nat, k ≤ m ∧ v5 = .int .i64 k ∧ w.grownBy wr none) (fun v5 _ => m - (intOf v5).toNat)
  case atStart => exact ⟨0, Nat.zero_le _, rfl, World.grownBy.refl _ _⟩
  case round =>
    obtain ⟨k, hk', rfl, GR⟩ := hrel
    by_cases hk : k < m
    · have lkk : (k : Int) < (m : Int) := by omega
      obtain ⟨hb, ho, hha, _, hc⟩ := (HR.out.keep GR).at' (by omega)
      have e1 := hc k _ (ppI_at P (by rw [HL.out]; exact hk))
      have hx := HP.out (nth P k) (nth_mem (by rw [HL.out]; exact hk))
      subst hha
      clear hc HR
      generalize nth P k = x at *
      have lx1 : ¬ (x : Int) < 0 := by omega
      have lx2 : ¬ (n : Int) ≤ (x : Int) := by omega
      go_wp2
      go_roundw
      case rel => exact ⟨k + 1, by omega, by go_num, GR⟩
      case measure => simp [intOf] <;> omega
    · have lkk : ¬ (k : Int) < (m : Int) := by omega
      clear hk hk'
      go_wp2
      (try simp only [Exit.inBlock, Exit.then])
      refine HK1.out _ _ ?_
      clear HK1
      refine wp_seq_k fun K2 hK2 => ?_
      have HK2 : Hid _ := hK2
      clear hK2
      go_wp2_with (at_make; refine wpList_mkBool _ rfl _ _ rfl _ _ n rfl rfl rfl rfl (by omega) ?_; intro w1 hb1 hg1)
      refine HK2.out _ _ ?_
      clear HK2
      have GW1 := grown_trans GR hg1
      have hgb : w.heap.size ≤ wr.heap.size := GR.size
      generalize wr.heap.size = gm at *
      refine wp_seq_k fun K3 hK3 => ?_
      have HK3 : Hid _ := hK3
      clear hK3
      go_wp2
      go_loopw [29] (fun v29 ws => ∃ q : Nat, q ≤ m ∧ v29 = .int .i64 q ∧ w.grownBy ws none ∧ BlkB ws gm (mkN P n q) ∧ Hid (∀ i j, j < i → i < q → nth P j ≠ nth P i)) (fun v29 _ => m - (intOf v29).toNat)
      case atStart => exact ⟨0, Nat.zero_le _, rfl, GW1, hb1, fun i j _ h => by omega⟩
      case round =>
        obtain ⟨q, hq', rfl, GR, hB, HI⟩ := hrel
        by_cases hq : q < m
        · have lqq : (q : Int) < (m : Int) := by omega
          obtain ⟨hb, ho, hha, _, hc⟩ := (HR.out.keep GR).at' (by omega)
          subst hha
          have e1 := hc q _ (ppI_at P (by rw [HL.out]; exact hq))
          have hpn := HP.out (nth P q) (nth_mem (by rw [HL.out]; exact hq))
          have hml := mkN_len P n q
          have hcb := hB.cell (nth P q) (by rw [hml]; exact hpn)
          have hfb := hB.free (nth P q)
          have HS : Hid _ := hB.set (nth P q) true
          have HBM : Hid _ := bat_mk P n (fun i hi => HP.out _ (nth_mem hi)) q (by rw [HL.out]; omega) (nth P q)
          have lpn : ((nth P q : Nat) : Int) < (n : Int) := by omega
          clear hc hml
          obtain ⟨t, ht⟩ : ∃ t, bat (mkN P n q) (nth P q) = t := ⟨_, rfl⟩
          rw [ht] at hcb
          cases t with
          | true =>
            clear ht HS hB
            go_wp2
            (try simp only [Exit.inBlock, Exit.then])
            refine bodyPost_ret (results_2v rfl _ _ _) rfl ?_
            exact ⟨rfl, GR⟩
          | false =>
            have HI2 : Hid (∀ i j, j < i → i < q + 1 → nth P j ≠ nth P i) := fun i j h1 h2 => by
              by_cases e : i = q
              · intro h3
                rw [e] at h3 h1
                have := HBM.out.2 ⟨j, h1, h3⟩
                rw [ht] at this; cases this
              · exact HI.out i j h1 (by omega)
            have G5 := grown_far GR (grown_set _ gm (nth P q) (.bool true)) (fun z e => by have e := Option.some.inj e; subst e; exact hgb)
            have HG5 : Hid _ := G5
            clear ht HI HBM G5 hB
            go_wp2
            go_roundw
            case rel => exact ⟨q + 1, by omega, by go_num, HG5.out, HS.out, HI2.out⟩
            case measure => simp [intOf] <;> omega
        · exfalso
          exact HD.out (fun i j h1 h2 => HI.out i j h1 (by rw [HL.out] at h2; omega))
end

section
open GF
/-- the value of the locator at a place -/
def lv [Add GF] [Mul GF] [OfNat GF 0] [OfNat GF 1] [L : Nonempty GL] (x : Nat → GF) (n p i : Nat) : GF := 1 + sum i (fun j => x j * pw (xp n p) (j + 1))
theorem lv_succ [Add GF] [Mul GF] [OfNat GF 0] [OfNat GF 1] [L : Nonempty GL] (x : Nat → GF) (n p i : Nat) : lv x n p (i + 1) = lv x n p i + x i * (pw (xp n p) i * xp n p) := by
  show 1 + (sum i (fun j => x j * pw (xp n p) (j + 1)) + x i * pw (xp n p) (i + 1)) = 1 + sum i (fun j => x j * pw (xp n p) (j + 1)) + _
  rw [add_assoc, pw_succ]
def prX [Add GF] [Mul GF] [OfNat GF 0] [OfNat GF 1] [L : Nonempty GL] (x : Nat → GF) (n e : Nat) (Hs : List Nat) (p : Nat) : Bool := ((lv x n p e).v == 0) && !(decide (p ∈ Hs))
def fndX [Add GF] [Mul GF] [OfNat GF 0] [OfNat GF 1] [L : Nonempty GL] (x : Nat → GF) (n e : Nat) (Hs : List Nat) (k : Nat) : List Nat := (List.range k).filter (prX x n e Hs)
theorem fndX_succ [Add GF] [Mul GF] [OfNat GF 0] [OfNat GF 1] [L : Nonempty GL] (x : Nat → GF) (n e : Nat) (Hs : List Nat) (k : Nat) : fndX x n e Hs (k + 1) = fndX x n e Hs k ++ (if prX x n e Hs k = true then [k] else []) := by
  unfold fndX
  rw [List.range_succ, List.filter_append]
  congr 1
  cases h : prX x n e Hs k <;> simp [h]
set_option maxHeartbeats 16000000 in
theorem wa_t31 [Add GF] [Mul GF] [OfNat GF 0] [OfNat GF 1] [L : Nonempty GL] {u0 u1 u4 u5 u6 u7 u8 u9 u11 u12 u13 u14 u16 u17 u18 u19 u20 u22 u25 u26 u27 u28 u29 u30 u31 u32 u33 u34 u35 u36 u37 u38 u39 u40 u41 u42 u43 u44 u45 u46 u47 u48 u49 u50 u51 u52 u53 u54 u55 u56 u57 u58 u59 u60 u61 u62 u63 u64 u65 u66 u67 u68 u69 u70 u71 u72 u73 u74 u75 u76 u77 u78 u79 u80 u81 u82 u83 u84 u85 u86 u87 u88 u89 u90 u91 u92 u93 u94 u95 u96 u97 u98 u99 u100 u101 u102 u103 u104 u105 u106 u107 u108 u109 u110 u111 u112 u113 u114 u115 u116 u117 u118 u119 u120 u121 u122 u123 u124 u125 u126 u127 u128 u129 u130 u131 u132 u133 u134 u135 u136 u137 u138 u139 u140 u141 u142 u143 u144 u145 u146 u147 u148 u149 u150 u151 u152 u153 u154 u155 u156 u157 u158 u159 u160 u161 u162 u163 u164 u165 u166 u167 u168 u169 u170 : Value} (Q : Exit → Act → World → Prop) (hPn : ∀ c (a1 a2 : Act) w, a1.defers = a2.defers → Q (.panic c) a1 w → Q (.panic c) a2 w) (wB w : World) (GB : wB.grownBy w none) (n e f p : Nat) (hn : n ≤ 255) (he : e ≤ 64) (hf : f ≤ 64) (hp : p < n) (x : Nat → GF) (la : Option Addr) (lc : Nat) (hL : 0 < e → ∃ g0, la = some ⟨g0, 0, none⟩ ∧ ∀ w', wB.grownBy w' none → ∀ j, j < e → w'.cell? ⟨g0, j, none⟩ = some (.int .u8 ((x j).v : Int)))
    (Hs : List Nat) (hfl : Hs.length = f) (ha : Option Addr) (ch : Nat) (hH : 0 < f → ∃ hb ho, ha = some ⟨hb, ho, none⟩ ∧ ∀ w', wB.grownBy w' none → ∀ i, i < f → w'.cell? ⟨hb, ho + i, none⟩ = some (.int .i64 (nth Hs i : Nat)))
    (L : List Nat) (hLl : L.length ≤ 255) (aa : Option Addr) (ca : Nat) (hA : AnsX 3 w wB.heap.size aa L.length ca (ppI L))
    (hQ : ∀ v25 v26 v27 v28 v29 v30 v118 v119 v120 v121 v122 v123 v124 v125 v126 v127 v128 v129 v130 v131 v132 v133 v134 v135 v136 v137 v138 v139 v140 v141 v142 v143 v144 v145 v146 v147 v148 v149 v150 v151 v152 v153 v154 v155 v156 v157 v158 v159 v160 v161 v162 v163 v164 v165 (L' : List Nat) (aa' : Option Addr) (ca' : Nat) (w' : World), L' = L ++ (if prX x n e Hs p = true then [p] else []) → AnsX 3 w' wB.heap.size aa' L'.length ca' (ppI L') → wB.grownBy w' none → Q .normal (Act.mk (List.toArray (u0 :: u1 :: (.slice ha f ch) :: (.int .i64 (e : Int)) :: u4 :: u5 :: u6 :: u7 :: u8 :: u9 :: (.int .i64 (n : Int)) :: u11 :: u12 :: u13 :: u14 :: (.int .i64 (f : Int)) :: u16 :: u17 :: u18 :: u19 :: u20 :: (.slice la e lc) :: u22 :: (.slice aa' L'.length ca') :: (.int .i64 ((p : Int) + 1)) :: v25 :: v26 :: v27 :: v28 :: v29 :: v30 :: u31 :: u32 :: u33 :: u34 :: u35 :: u36 :: u37 :: u38 :: u39 :: u40 :: u41 :: u42 :: u43 :: u44 :: u45 :: u46 :: u47 :: u48 :: u49 :: u50 :: u51 :: u52 :: u53 :: u54 :: u55 :: u56 :: u57 :: u58 :: u59 :: u60 :: u61 :: u62 :: u63 :: u64 :: u65 :: u66 :: u67 :: u68 :: u69 :: u70 :: u71 :: u72 :: u73 :: u74 :: u75 :: u76 :: u77 :: u78 :: u79 :: u80 :: u81 :: u82 :: u83 :: u84 :: u85 :: u86 :: u87 :: u88 :: u89 :: u90 :: u91 :: u92 :: u93 :: u94 :: u95 :: u96 :: u97 :: u98 :: u99 :: u100 :: u101 :: u102 :: u103 :: u104 :: u105 :: u106 :: u107 :: u108 :: u109 :: u110 :: u111 :: u112 :: u113 :: u114 :: u115 :: u116 :: u117 :: v118 :: v119 :: v120 :: v121 :: v122 :: v123 :: v124 :: v125 :: v126 :: v127 :: v128 :: v129 :: v130 :: v131 :: v132 :: v133 :: v134 :: v135 :: v136 :: v137 :: v138 :: v139 :: v140 :: v141 :: v142 :: v143 :: v144 :: v145 :: v146 :: v147 :: v148 :: v149 :: v150 :: v151 :: v152 :: v153 :: v154 :: v155 :: v156 :: v157 :: v158 :: v159 :: v160 :: v161 :: v162 :: v163 :: v164 :: v165 :: u166 :: u167 :: u168 :: u169 :: u170 :: [])) []) w') :
    Code.wp Tryd.prog (tailR 31 (Tryd.f10.body.getD .skip)) Q (Act.mk (List.toArray (u0 :: u1 :: (.slice ha f ch) :: (.int .i64 (e : Int)) :: u4 :: u5 :: u6 :: u7 :: u8 :: u9 :: (.int .i64 (n : Int)) :: u11 :: u12 :: u13 :: u14 :: (.int .i64 (f : Int)) :: u16 :: u17 :: u18 :: u19 :: u20 :: (.slice la e lc) :: u22 :: (.slice aa L.length ca) :: (.int .i64 (p : Int)) :: u25 :: u26 :: u27 :: u28 :: u29 :: u30 :: u31 :: u32 :: u33 :: u34 :: u35 :: u36 :: u37 :: u38 :: u39 :: u40 :: u41 :: u42 :: u43 :: u44 :: u45 :: u46 :: u47 :: u48 :: u49 :: u50 :: u51 :: u52 :: u53 :: u54 :: u55 :: u56 :: u57 :: u58 :: u59 :: u60 :: u61 :: u62 :: u63 :: u64 :: u65 :: u66 :: u67 :: u68 :: u69 :: u70 :: u71 :: u72 :: u73 :: u74 :: u75 :: u76 :: u77 :: u78 :: u79 :: u80 :: u81 :: u82 :: u83 :: u84 :: u85 :: u86 :: u87 :: u88 :: u89 :: u90 :: u91 :: u92 :: u93 :: u94 :: u95 :: u96 :: u97 :: u98 :: u99 :: u100 :: u101 :: u102 :: u103 :: u104 :: u105 :: u106 :: u107 :: u108 :: u109 :: u110 :: u111 :: u112 :: u113 :: u114 :: u115 :: u116 :: u117 :: u118 :: u119 :: u120 :: u121 :: u122 :: u123 :: u124 :: u125 :: u126 :: u127 :: u128 :: u129 :: u130 :: u131 :: u132 :: u133 :: u134 :: u135 :: u136 :: u137 :: u138 :: u139 :: u140 :: u141 :: u142 :: u143 :: u144 :: u145 :: u146 :: u147 :: u148 :: u149 :: u150 :: u151 :: u152 :: u153 :: u154 :: u155 :: u156 :: u157 :: u158 :: u159 :: u160 :: u161 :: u162 :: u163 :: u164 :: u165 :: u166 :: u167 :: u168 :: u169 :: u170 :: [])) []) w := by
  conv => enter [2]; whnf
  have HQ : Hid _ := hQ
  have HA0 : Hid _ := hA
  have HLL : Hid _ := hL
  have HHH : Hid _ := hH
  have HFL : Hid _ := hfl
  have HPW : Hid (∀ (z : Int) (wz : World), z = (p : Int) + 1 - n → Calls Tryd.prog 25 #[.int .i64 z] wz fun e w' => e = .returned (.int .u8 ((xp n p).v : Int)) ∧ w' = wz) := fun z wz hz => by
    have h := rpower_any z wz (by omega) (by omega)
    rw [hz] at h
    rw [hz]
    exact h
  have HLV : Hid _ := lv_succ x n p
  have HPX : Hid (∀ i, pw (xp n p) (i + 1) = pw (xp n p) i * xp n p) := fun i => pw_succ _ _
  have lpn : (p : Int) < (n : Int) := by omega
  have HLV0 : Hid (lv x n p 0 = 1) := by
    show (1 : GF) + 0 = 1
    exact add_zero _
  clear hQ hA hL hH hfl
  obtain ⟨y, hy⟩ : ∃ y, xp n p = y := ⟨_, rfl⟩
  rw [hy] at HPW HLV HPX
  clear hy
  refine wp_seq_k fun K0 hK0 => ?_
  have HK0 : Hid _ := hK0
  clear hK0
  refine wp_block ?_
  refine wp_seq_k fun K1 hK1 => ?_
  have HK1 : Hid _ := hK1
  clear hK1
  go_wp2_with (go_at_call 25; refine Calls.mono (HPW.out _ _ (by omega)) ?_; rintro e9 wx ⟨rfl, hwx⟩; rw [hwx]; clear hwx)
  refine HK1.out _ _ ?_
  clear HK1
  refine wp_seq_k fun K2 hK2 => ?_
  have HK2 : Hid _ := hK2
  clear hK2
  go_wp2
  refine HK2.out _ _ ?_
  clear HK2
  refine wp_seq_k fun K3 hK3 => ?_
  have HK3 : Hid _ := hK3
  clear hK3
  go_wp2
  go_loopw [26, 27, 28] (fun v26 v27 v28 wr => ∃ (i : Nat) (a b : GF), i ≤ e ∧ v28 = .int .i64 i ∧ v26 = .int .u8 (a.v : Int) ∧ v27 = .int .u8 (b.v : Int) ∧ Hid (a = lv x n p i) ∧ Hid (b = pw y i) ∧ w.grownBy wr none) (fun _ _ v28 _ => e - (intOf v28).toNat)
  case atStart => exact ⟨0, 1, 1, Nat.zero_le _, rfl, congrArg (fun k : Nat => Value.int .u8 (k : Int)) one_v.symm, congrArg (fun k : Nat => Value.int .u8 (k : Int)) one_v.symm, HLV0.out.symm, (pw_zero y).symm, World.grownBy.refl _ _⟩
  case round =>
    obtain ⟨i, a, b, hi', rfl, rfl, rfl, Ha, Hb, GR⟩ := hrel
    by_cases hi : i < e
    · have lii : (i : Int) < (e : Int) := by omega
      obtain ⟨g0, hla, hcx⟩ := HLL.out (by omega)
      have cx := hcx wr (grown_trans GB GR) i hi
      subst hla
      have Ha2 : Hid (a + x i * (b * y) = lv x n p (i + 1)) := by show _ = _; rw [HLV.out, Ha.out, Hb.out]
      have Hb2 : Hid (b * y = pw y (i + 1)) := by show _ = _; rw [HPX.out, Hb.out]
      clear hcx Ha Hb HLL
      generalize x i = xi at *
      have hx3 : bits .xor .u8 (a.v : Int) ((xi * (b * y) : GF).v : Int) = ((a + xi * (b * y) : GF).v : Int) := by rw [u8_xor_nat _ _ (GF.h _) (GF.h _), add_v]
      have HM1 : Hid _ := gmul_any b y
      have HM2 : Hid _ := gmul_any xi (b * y)
      obtain ⟨by', hby⟩ : ∃ z, b * y = z := ⟨_, rfl⟩
      rw [hby] at hx3 HM1 HM2 Ha2 Hb2
      clear hby
      obtain ⟨xm, hxm⟩ : ∃ z, xi * by' = z := ⟨_, rfl⟩
      rw [hxm] at hx3 HM2 Ha2
      clear hxm
      obtain ⟨a2, ha2⟩ : ∃ z, a + xm = z := ⟨_, rfl⟩
      rw [ha2] at hx3 Ha2
      clear ha2
      refine wp_seq_k fun K4 hK4 => ?_
      have HK4 : Hid _ := hK4
      clear hK4
      go_wp2
      refine HK4.out _ _ ?_
      clear HK4
      refine wp_seq_k fun K5 hK5 => ?_
      have HK5 : Hid _ := hK5
      clear hK5
      refine wp_block ?_
      have s1 : True := trivial
      go_wp2_with (first
        | (have _t := s1; clear s1; go_at_call 26; refine Calls.mono (HM1.out _) ?_; rintro e9 wx ⟨rfl, hwx⟩; rw [hwx]; clear hwx; have s2 : True := trivial)
        | (have _t := s2; clear s2; go_at_call 26; refine Calls.mono (HM2.out _) ?_; rintro e9 wx ⟨rfl, hwx⟩; rw [hwx]; clear hwx))
      (try simp only [Exit.inBlock, Exit.then])
      refine HK5.out _ _ ?_
      clear HK5
      go_wp2
      go_roundw
      case rel => exact ⟨i + 1, a2, by', by omega, by go_num, rfl, rfl, Ha2.out, Hb2.out, GR⟩
      case measure => simp [intOf] <;> omega
    · have lii : ¬ (i : Int) < (e : Int) := by omega
      have HAE : Hid (a = lv x n p e) := by
        show a = _
        rw [Ha.out, show i = e by omega]
      clear Ha Hb hi hi'
      go_wp2
      (try simp only [Exit.inBlock, Exit.then])
      refine HK3.out _ _ ?_
      clear HK3
      refine wp_seq_k fun K4 hK4 => ?_
      have HK4 : Hid _ := hK4
      clear hK4
      go_wp2
      refine HK4.out _ _ ?_
      clear HK4
      refine wp_seq_k fun K5 hK5 => ?_
      have HK5 : Hid _ := hK5
      clear hK5
      go_wp2
      have G0 := GR
      clear GR
      go_loopw [29, 30] (fun v29 v30 ws => ∃ (q : Nat) (t : Bool), q ≤ f ∧ v30 = .int .i64 q ∧ v29 = .bool t ∧ Hid (t = true ↔ ∃ k, k < q ∧ nth Hs k = p) ∧ w.grownBy ws none) (fun _ v30 _ => f - (intOf v30).toNat)
      case atStart => exact ⟨0, false, Nat.zero_le _, rfl, rfl, ⟨(fun h => by cases h), fun ⟨k, h, _⟩ => by omega⟩, G0⟩
      case round =>
        obtain ⟨q, t, hq', rfl, rfl, HT, GR⟩ := hrel
        by_cases hq : q < f
        · have lqq : (q : Int) < (f : Int) := by omega
          obtain ⟨hb, ho, hha, hch⟩ := HHH.out (by omega)
          have chq := hch _ (grown_trans GB GR) q hq
          subst hha
          have HT2 : Hid (∀ t', t' = (t || decide (nth Hs q = p)) → (t' = true ↔ ∃ k, k < q + 1 ∧ nth Hs k = p)) := fun t' h => by
            rw [h, Bool.or_eq_true, decide_eq_true_iff, HT.out]
            constructor
            · rintro (⟨k, h1, h2⟩ | h1)
              · exact ⟨k, by omega, h2⟩
              · exact ⟨q, by omega, h1⟩
            · rintro ⟨k, h1, h2⟩
              by_cases h3 : k = q
              · right; rw [← h3]; exact h2
              · left; exact ⟨k, by omega, h2⟩
          clear hch HT HHH
          generalize nth Hs q = z at *
          cases t with
          | true =>
            have HT3 : Hid _ := HT2.out true (by rw [Bool.true_or])
            clear HT2
            go_wp2
            go_roundw
            case rel => exact ⟨q + 1, true, by omega, by go_num, rfl, HT3.out, GR⟩
            case measure => simp [intOf] <;> omega
          | false =>
            by_cases hzp : z = p
            · have HT3 : Hid _ := HT2.out true (by rw [Bool.false_or, decide_eq_true hzp])
              subst hzp
              clear HT2
              go_wp2
              go_roundw
              case rel => exact ⟨q + 1, true, by omega, by go_num, by simp, HT3.out, GR⟩
              case measure => simp [intOf] <;> omega
            · have HT3 : Hid _ := HT2.out false (by rw [Bool.false_or, decide_eq_false hzp])
              have lzp : ¬ (z : Int) = (p : Int) := by omega
              have lzb : ((z : Int) == (p : Int)) = false := beq_false_of_ne lzp
              clear HT2
              go_wp2
              go_roundw
              case rel => exact ⟨q + 1, false, by omega, by go_num, by first | rfl | simp [lzb], HT3.out, GR⟩
              case measure => simp [intOf] <;> omega
        · have lqq : ¬ (q : Int) < (f : Int) := by omega
          have HTE : Hid (t = decide (p ∈ Hs)) := by
            show t = _
            rw [Bool.eq_iff_iff, decide_eq_true_iff, HT.out]
            constructor
            · rintro ⟨k, h1, h2⟩
              rw [← h2]
              exact nth_mem (by rw [HFL.out]; omega)
            · intro h
              obtain ⟨k, h1, h2⟩ := mem_nth h
              rw [HFL.out] at h1
              exact ⟨k, by omega, h2⟩
          have HPR : Hid (prX x n e Hs p = ((a.v == 0) && !t)) := by
            show prX x n e Hs p = _
            unfold prX
            rw [HTE.out, HAE.out]
          have GWR := grown_trans GB GR
          have hAr := HA0.out.keep GR
          have hlo := GWR.size
          clear HTE HAE HT hq hq' HA0
          go_wp2
          (try simp only [Exit.inBlock, Exit.then])
          refine HK5.out _ _ ?_
          clear HK5
          by_cases hav : a.v = 0
          · have hai : ((a.v : Int) == 0) = true := by rw [hav]; rfl
            cases t with
            | true =>
              have HN : Hid (L = L ++ (if prX x n e Hs p = true then [p] else [])) := by
                show L = _
                rw [HPR.out, Bool.not_true, Bool.and_false, if_neg (by decide), List.append_nil]
              have hav2 : (a.v : Int) = 0 := by omega
              clear HPR
              go_wp2
              (try simp only [Exit.inBlock, Exit.then])
              refine HK0.out _ _ ?_
              clear HK0
              go_wp2
              exact HQ.out _ _ _ _ _ _ _ _ _ _ _ _ _ _ _ _ _ _ _ _ _ _ _ _ _ _ _ _ _ _ _ _ _ _ _ _ _ _ _ _ _ _ _ _ _ _ _ _ _ _ _ _ _ _ L _ _ _ HN.out hAr GWR
            | false =>
              have HN : Hid (L ++ [p] = L ++ (if prX x n e Hs p = true then [p] else [])) := by
                show _ = _
                rw [HPR.out, hav, if_pos (by decide)]
              have hav2 : (a.v : Int) = 0 := by omega
              have HAR : Hid _ := hAr
              clear HPR hAr
              go_wp2_with (at_builtin; refine wpList_psX Tryd.elJ _ (.int .i64 (p : Int)) rfl rfl _ _ rfl aa L.length ca wB.heap.size _ rfl HAR.out hlo rfl (by omega) ?_; intro gx cx w6 hA6 g6 hx6)
              have hA7 : AnsX 3 w6 wB.heap.size (some ⟨gx, 0, none⟩) (L ++ [p]).length cx (ppI (L ++ [p])) := by
                rw [List.length_append]
                unfold ppI at hA6 ⊢
                rw [List.map_append]
                exact hA6
              have G6 := grown_far GWR g6 (fun y9 e9 => HAR.out.new y9 e9)
              have hll : (L.length + 1) = (L ++ [p]).length := by rw [List.length_append]; rfl
              have HA7 : Hid _ := hA7
              have HLE : Hid _ := hll
              clear hA7 hA6 HAR g6 hx6 hll
              (try simp only [Exit.inBlock, Exit.then])
              refine HK0.out _ _ ?_
              clear HK0
              go_wp2
              rw [HLE.out]
              exact HQ.out _ _ _ _ _ _ _ _ _ _ _ _ _ _ _ _ _ _ _ _ _ _ _ _ _ _ _ _ _ _ _ _ _ _ _ _ _ _ _ _ _ _ _ _ _ _ _ _ _ _ _ _ _ _ (L ++ [p]) _ _ _ HN.out HA7.out G6
          · have hai : ((a.v : Int) == 0) = false := beq_false_of_ne (fun h => hav (by omega))
            have hav2 : ¬ (a.v : Int) = 0 := fun h => hav (by omega)
            have HN : Hid (L = L ++ (if prX x n e Hs p = true then [p] else [])) := by
              show L = _
              rw [HPR.out, beq_false_of_ne hav, Bool.false_and, if_neg (by decide), List.append_nil]
            clear HPR
            go_wp2
            (try simp only [Exit.inBlock, Exit.then])
            refine HK0.out _ _ ?_
            clear HK0
            go_wp2
            exact HQ.out _ _ _ _ _ _ _ _ _ _ _ _ _ _ _ _ _ _ _ _ _ _ _ _ _ _ _ _ _ _ _ _ _ _ _ _ _ _ _ _ _ _ _ _ _ _ _ _ _ _ _ _ _ _ L _ _ _ HN.out hAr GWR
end
end Go.Proofs.YtdcfgaibppenaaaDoor
