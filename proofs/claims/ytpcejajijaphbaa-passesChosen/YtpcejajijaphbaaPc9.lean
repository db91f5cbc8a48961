import Derived.Test.YtpcejajijaphbaaPc8
import Derived.Test.YtpcejajijaphbaaPc3
namespace Go.Proofs.Ytpcejajijaphbaa
open Go.RowKit
set_option maxRecDepth 100000
set_option linter.unusedVariables false
set_option linter.unusedSimpArgs false

section
theorem din_any (n a b : Int) (w : World) : Calls Try.prog 11 #[.int .i64 n, .int .i64 a, .int .i64 b] w fun e w' => e = .returned (.bool (decide (a ≤ n) && decide (n ≤ b))) ∧ w' = w := by
  by_cases h1 : a ≤ n
  · rw [decide_eq_true h1, Bool.true_and]
    go_enter Try.func11, Try.ntmps11
    go_wp2
    first | go_ret | skip
    exact ⟨rfl, rfl⟩
  · rw [decide_eq_false h1, Bool.false_and]
    go_enter Try.func11, Try.ntmps11
    go_wp2
    first | go_ret | skip
    exact ⟨rfl, rfl⟩
set_option maxHeartbeats 8000000 in
theorem chosen_no (w : World) (la : Option Addr) (ln lc : Nat) (F : Nat → Pa) (g : Int) (hP : RdPa w la ln lc F) (h64 : ∀ i, i < ln → (F i).in64) (hz : ¬ ChE ln F g 0) :
    Calls Try.prog 5 #[.slice la ln lc, .int .i64 g] w fun e w' => ∃ z : Int, e = .returned (.tuple #[.slice none 0 0, .int .i64 0, .int .i64 z]) ∧ ChE ln F g z ∧ w.grownBy w' none := by
  have hmx := hP.max
  have hple := hP.le
  unfold maxLen at hmx
  by_cases hl : 200 < ln
  · have l2 : (200 : Int) < (ln : Int) := by omega
    have HC : Hid (ChE ln F g 1) := ⟨fun _ => rfl, fun h => absurd hl (by omega), fun h => absurd hl (by omega)⟩
    clear hz
    go_enter Try.func5, Try.ntmps5
    go_wp2
    (try simp only [Exit.inBlock, Exit.then])
    refine bodyPost_ret (results_tmp3 rfl _ _ _) rfl ?_
    exact ⟨1, rfl, HC.out, World.grownBy.refl _ _⟩
  · have l2 : ¬ (200 : Int) < (ln : Int) := by omega
    have HG := fun wz => din_any g 0 1000 wz
    obtain ⟨b, hb⟩ : ∃ b, (decide (0 ≤ g) && decide (g ≤ 1000)) = b := ⟨_, rfl⟩
    rw [hb] at HG
    have HBG : Hid (b = true ↔ (0 ≤ g ∧ g ≤ 1000)) := by show b = true ↔ _; rw [← hb, Bool.and_eq_true_iff, decide_eq_true_iff, decide_eq_true_iff]
    clear hb
    cases b with
    | false =>
      have HC : Hid (ChE ln F g 2) := ⟨fun h => absurd h hl, fun _ _ => rfl, fun _ h => absurd (HBG.out.2 h) (by decide)⟩
      clear hz HBG
      go_enter Try.func5, Try.ntmps5
      go_wp2_with (go_at_call 11; refine (HG _).mono ?_; rintro e wx ⟨rfl, hwx⟩; rw [hwx]; clear hwx)
      (try simp only [Exit.inBlock, Exit.then])
      refine bodyPost_ret (results_tmp3 rfl _ _ _) rfl ?_
      exact ⟨2, rfl, HC.out, World.grownBy.refl _ _⟩
    | true =>
      have HC : Hid ((∃ i, i < ln ∧ paB (F i) = false) → ChE ln F g 2) := fun h => ⟨fun h => absurd h hl, fun _ _ => rfl, (fun _ _ h2 => by obtain ⟨i, h1, h3⟩ := h; rw [h2 i h1] at h3; cases h3)⟩
      have HE : Hid (¬ ∀ i, i < ln → paB (F i) = true) := fun h => hz ⟨fun h => absurd h hl, (fun _ h2 => by
        rcases h2 with h2 | ⟨i, h1, h3⟩
        · exact absurd (HBG.out.1 rfl) h2
        · rw [h i h1] at h3; cases h3), fun _ _ _ => rfl⟩
      clear hz HBG
      go_enter Try.func5, Try.ntmps5
      go_wp2_with (go_at_call 11; refine (HG _).mono ?_; rintro e wx ⟨rfl, hwx⟩; rw [hwx]; clear hwx)
      go_loopw [23, 7] (fun v23 v7 wr => ∃ k : Nat, k ≤ ln ∧ v7 = .int .i64 k ∧ Hid (∀ i, i < k → paB (F i) = true) ∧ w.grownBy wr none) (fun v23 v7 _ => ln - (intOf v7).toNat)
      case atStart => exact ⟨0, Nat.zero_le _, rfl, (fun i h => absurd h (by omega)), World.grownBy.refl _ _⟩
      case round =>
        obtain ⟨k, hk, rfl, HK, GR⟩ := hrel
        by_cases hlt : k < ln
        · have lk : (k : Int) < (ln : Int) := by omega
          obtain ⟨lb, lf, hla, _, hlr⟩ := (hP.keep GR).at' (by omega)
          have hrk := hlr k hlt
          subst hla
          clear hlr
          have HKk : Hid (paB (F k) = true → ∀ i, i < k + 1 → paB (F i) = true) := fun h i hi => by
            by_cases e : i = k
            · rw [e]; exact h
            · exact HK.out i (by omega)
          have HCk : Hid (paB (F k) = false → ChE ln F g 2) := fun h => HC.out ⟨k, hlt, h⟩
          clear HC HK HE
          obtain ⟨p, hp⟩ : ∃ p, F k = p := ⟨_, rfl⟩
          rw [hp] at hrk HKk HCk
          clear hp
          obtain ⟨p0, p1, p2, p3⟩ := p
          unfold paB at HKk HCk
          dsimp only [Pa.cells] at hrk HKk HCk
          have HA := fun wz => din_any p0 0 31 wz
          have HB := fun wz => din_any p1 0 1000000 wz
          have HD := fun wz => din_any p3 0 1000000 wz
          obtain ⟨a, ha⟩ : ∃ a, (decide (0 ≤ p0) && decide (p0 ≤ 31)) = a := ⟨_, rfl⟩
          obtain ⟨b, hb⟩ : ∃ b, (decide (0 ≤ p1) && decide (p1 ≤ 1000000)) = b := ⟨_, rfl⟩
          obtain ⟨d, hd⟩ : ∃ d, (decide (0 ≤ p3) && decide (p3 ≤ 1000000)) = d := ⟨_, rfl⟩
          rw [ha] at HA
          rw [hb] at HB
          rw [hd] at HD
          rw [ha, hb, hd] at HKk HCk
          clear ha hb hd
          have GA := World.grownBy_alloc wr (.cells #[.int .i64 p0, .int .i64 p1, .int .i64 p2, .int .i64 p3] 29) none
          cases a with
          | false =>
            have EC : Hid _ := HCk.out rfl
            clear HKk HCk
            have s1 : True := trivial
            go_wp2_with (first
              | (have _t := s1; clear s1; refine wpList_load_mid rfl _ (.tmp 31) rfl lb (lf + k * 4) rfl [.int .i64 p0, .int .i64 p1, .int .i64 p2, .int .i64 p3] _ hrk Try.underlying29 rfl Try.info_pa ?_; have s2 : True := trivial)
              | (have _t := s2; clear s2; go_at_call 11; refine (HA _).mono ?_; rintro e wx ⟨rfl, hwx⟩; rw [hwx]; clear hwx; have s3 : True := trivial))
            (try simp only [Exit.inBlock, Exit.then])
            refine bodyPost_ret (results_tmp3 rfl _ _ _) rfl ?_
            exact ⟨2, rfl, EC.out, grown_trans GR GA⟩
          | true =>
            cases b with
            | false =>
              have EC : Hid _ := HCk.out rfl
              clear HKk HCk
              have s1 : True := trivial
              go_wp2_with (first
                | (have _t := s1; clear s1; refine wpList_load_mid rfl _ (.tmp 31) rfl lb (lf + k * 4) rfl [.int .i64 p0, .int .i64 p1, .int .i64 p2, .int .i64 p3] _ hrk Try.underlying29 rfl Try.info_pa ?_; have s2 : True := trivial)
                | (have _t := s2; clear s2; go_at_call 11; refine (HA _).mono ?_; rintro e wx ⟨rfl, hwx⟩; rw [hwx]; clear hwx; have s3 : True := trivial)
                | (have _t := s3; clear s3; go_at_call 11; refine (HB _).mono ?_; rintro e wx ⟨rfl, hwx⟩; rw [hwx]; clear hwx; have s4 : True := trivial))
              (try simp only [Exit.inBlock, Exit.then])
              refine bodyPost_ret (results_tmp3 rfl _ _ _) rfl ?_
              exact ⟨2, rfl, EC.out, grown_trans GR GA⟩
            | true =>
              by_cases c1 : p2 ≤ p1
              · have cc : (decide (p1 + 1 ≤ p2) && decide (p2 ≤ 1000000)) = false := by rw [decide_eq_false (by omega), Bool.false_and]
                rw [cc] at HKk HCk
                have EC : Hid _ := HCk.out rfl
                clear HKk HCk
                have s1 : True := trivial
                go_wp2_with (first
                  | (have _t := s1; clear s1; refine wpList_load_mid rfl _ (.tmp 31) rfl lb (lf + k * 4) rfl [.int .i64 p0, .int .i64 p1, .int .i64 p2, .int .i64 p3] _ hrk Try.underlying29 rfl Try.info_pa ?_; have s2 : True := trivial)
                  | (have _t := s2; clear s2; go_at_call 11; refine (HA _).mono ?_; rintro e wx ⟨rfl, hwx⟩; rw [hwx]; clear hwx; have s3 : True := trivial)
                  | (have _t := s3; clear s3; go_at_call 11; refine (HB _).mono ?_; rintro e wx ⟨rfl, hwx⟩; rw [hwx]; clear hwx; have s4 : True := trivial))
                (try simp only [Exit.inBlock, Exit.then])
                refine bodyPost_ret (results_tmp3 rfl _ _ _) rfl ?_
                exact ⟨2, rfl, EC.out, grown_trans GR GA⟩
              · by_cases c2 : p2 ≤ 1000000
                · have cc : (decide (p1 + 1 ≤ p2) && decide (p2 ≤ 1000000)) = true := by rw [decide_eq_true (show p1 + 1 ≤ p2 by omega), decide_eq_true c2]; rfl
                  rw [cc] at HKk HCk
                  cases d with
                  | false =>
                    have EC : Hid _ := HCk.out rfl
                    clear HKk HCk
                    have s1 : True := trivial
                    go_wp2_with (first
                      | (have _t := s1; clear s1; refine wpList_load_mid rfl _ (.tmp 31) rfl lb (lf + k * 4) rfl [.int .i64 p0, .int .i64 p1, .int .i64 p2, .int .i64 p3] _ hrk Try.underlying29 rfl Try.info_pa ?_; have s2 : True := trivial)
                      | (have _t := s2; clear s2; go_at_call 11; refine (HA _).mono ?_; rintro e wx ⟨rfl, hwx⟩; rw [hwx]; clear hwx; have s3 : True := trivial)
                      | (have _t := s3; clear s3; go_at_call 11; refine (HB _).mono ?_; rintro e wx ⟨rfl, hwx⟩; rw [hwx]; clear hwx; have s4 : True := trivial)
                      | (have _t := s4; clear s4; go_at_call 11; refine (HD _).mono ?_; rintro e wx ⟨rfl, hwx⟩; rw [hwx]; clear hwx; have s5 : True := trivial))
                    (try simp only [Exit.inBlock, Exit.then])
                    refine bodyPost_ret (results_tmp3 rfl _ _ _) rfl ?_
                    exact ⟨2, rfl, EC.out, grown_trans GR GA⟩
                  | true =>
                    have EK : Hid _ := HKk.out rfl
                    clear HKk HCk
                    have s1 : True := trivial
                    go_wp2_with (first
                      | (have _t := s1; clear s1; refine wpList_load_mid rfl _ (.tmp 31) rfl lb (lf + k * 4) rfl [.int .i64 p0, .int .i64 p1, .int .i64 p2, .int .i64 p3] _ hrk Try.underlying29 rfl Try.info_pa ?_; have s2 : True := trivial)
                      | (have _t := s2; clear s2; go_at_call 11; refine (HA _).mono ?_; rintro e wx ⟨rfl, hwx⟩; rw [hwx]; clear hwx; have s3 : True := trivial)
                      | (have _t := s3; clear s3; go_at_call 11; refine (HB _).mono ?_; rintro e wx ⟨rfl, hwx⟩; rw [hwx]; clear hwx; have s4 : True := trivial)
                      | (have _t := s4; clear s4; go_at_call 11; refine (HD _).mono ?_; rintro e wx ⟨rfl, hwx⟩; rw [hwx]; clear hwx; have s5 : True := trivial))
                    go_roundw
                    case rel => exact ⟨k + 1, by omega, by go_num, EK, grown_trans GR GA⟩
                    case measure => simp [intOf] <;> omega
                · have cc : (decide (p1 + 1 ≤ p2) && decide (p2 ≤ 1000000)) = false := by rw [decide_eq_false c2, Bool.and_false]
                  rw [cc] at HKk HCk
                  have EC : Hid _ := HCk.out rfl
                  clear HKk HCk
                  have s1 : True := trivial
                  go_wp2_with (first
                    | (have _t := s1; clear s1; refine wpList_load_mid rfl _ (.tmp 31) rfl lb (lf + k * 4) rfl [.int .i64 p0, .int .i64 p1, .int .i64 p2, .int .i64 p3] _ hrk Try.underlying29 rfl Try.info_pa ?_; have s2 : True := trivial)
                    | (have _t := s2; clear s2; go_at_call 11; refine (HA _).mono ?_; rintro e wx ⟨rfl, hwx⟩; rw [hwx]; clear hwx; have s3 : True := trivial)
                    | (have _t := s3; clear s3; go_at_call 11; refine (HB _).mono ?_; rintro e wx ⟨rfl, hwx⟩; rw [hwx]; clear hwx; have s4 : True := trivial))
                  (try simp only [Exit.inBlock, Exit.then])
                  refine bodyPost_ret (results_tmp3 rfl _ _ _) rfl ?_
                  exact ⟨2, rfl, EC.out, grown_trans GR GA⟩
        · obtain rfl : k = ln := by omega
          exact absurd HK.out HE.out
end

section
theorem cell_drew {w : World} (a : Addr) {v : Value} (h : w.cell? a = some v) : w.drew.cell? a = some v := h
/-- the first of places, as it is read -/
structure Hd1 (w : World) (p : Option Addr) (n c : Nat) (h : Int) : Prop where
  le : n ≤ c
  max : c ≤ maxLen
  at' : 0 < n → ∃ b off, p = some ⟨b, off, none⟩ ∧ b < w.heap.size ∧ w.cell? ⟨b, off, none⟩ = some (.int .i64 h)
set_option maxHeartbeats 16000000 in
theorem dbet_any (a b : Rv) (pa pb : Option Addr) (ca cb : Nat) (w : World) (ha : Hd1 w pa a.1.length ca (hdP a : Int)) (hb : Hd1 w pb b.1.length cb (hdP b : Int)) (hh : a.1.length = b.1.length → 0 < a.1.length → hdP a ≠ hdP b) :
    Calls Try.prog 12 #[.agg #[.int .i64 a.2, .int .i64 (a.1.length : Int), .slice pa a.1.length ca], .agg #[.int .i64 b.2, .int .i64 (b.1.length : Int), .slice pb b.1.length cb]] w fun e w' => e = .returned (.bool (btB a b)) ∧ w.grownBy w' none := by
  have hbt := bt_iff a b
  have hma := ha.max
  have hla := ha.le
  unfold maxLen at hma
  have Ga := World.grownBy_alloc w (.cells #[.int .i64 a.2, .int .i64 (a.1.length : Int), .slice pa a.1.length ca] 42) none
  have ba := BxS.new w 42 #[.int .i64 a.2, .int .i64 (a.1.length : Int), .slice pa a.1.length ca]
  obtain ⟨w1, hw1⟩ : ∃ w1, w.alloc (.cells #[.int .i64 a.2, .int .i64 (a.1.length : Int), .slice pa a.1.length ca] 42) = w1 := ⟨_, rfl⟩
  rw [hw1] at Ga ba
  have Gb := World.grownBy_alloc w1 (.cells #[.int .i64 b.2, .int .i64 (b.1.length : Int), .slice pb b.1.length cb] 42) none
  have bb := BxS.new w1 42 #[.int .i64 b.2, .int .i64 (b.1.length : Int), .slice pb b.1.length cb]
  obtain ⟨w2, hw2⟩ : ∃ w2, w1.alloc (.cells #[.int .i64 b.2, .int .i64 (b.1.length : Int), .slice pb b.1.length cb] 42) = w2 := ⟨_, rfl⟩
  rw [hw2] at Gb bb
  have ba2 := ba.keep Gb (by simp)
  have G2 := grown_trans Ga Gb
  obtain ⟨tt, htt⟩ : ∃ tt, btB a b = tt := ⟨_, rfl⟩
  rw [htt] at hbt ⊢
  have HBT : Hid _ := hbt
  clear hbt htt
  have HH : Hid _ := hh
  have HA : Hid _ := ha
  have HB : Hid _ := hb
  clear hh ha hb
  generalize hwa : a.2 = x at *
  generalize hwb : b.2 = y at *
  generalize hna : a.1.length = n at *
  generalize hnb : b.1.length = m at *
  go_enter Try.func12, Try.ntmps12
  refine wp_seq_k fun K0 hK0 => ?_
  have HK0 : Hid _ := hK0
  clear hK0
  go_wp2
  refine HK0.out _ _ ?_
  clear HK0
  generalize w.heap.size = g1 at *
  generalize w1.heap.size = g2 at *
  have z1 : w2.cell? ⟨g1, 0, none⟩ = some (.int .i64 x) := ba2.cell 0 (by show 0 < 3; decide)
  have z2 : w2.cell? ⟨g1, 1, none⟩ = some (.int .i64 (n : Int)) := ba2.cell 1 (by show 1 < 3; decide)
  have z3 : w2.cell? ⟨g1, 2, none⟩ = some (.slice pa n ca) := ba2.cell 2 (by show 2 < 3; decide)
  have y1 : w2.cell? ⟨g2, 0, none⟩ = some (.int .i64 y) := bb.cell 0 (by show 0 < 3; decide)
  have y2 : w2.cell? ⟨g2, 1, none⟩ = some (.int .i64 (m : Int)) := bb.cell 1 (by show 1 < 3; decide)
  have y3 : w2.cell? ⟨g2, 2, none⟩ = some (.slice pb m cb) := bb.cell 2 (by show 2 < 3; decide)
  clear hw1 hw2
  by_cases c1 : x = y
  · subst c1
    by_cases c2 : n = m
    · subst c2
      by_cases c3 : 0 < n
      · have c4 : (0 : Int) < (n : Int) := by omega
        obtain ⟨ob, oo, rfl, hob, hz⟩ := HA.out.at' c3
        obtain ⟨qb, qo, rfl, hqb, hy⟩ := HB.out.at' c3
        have hz2 := (World.cell?_of_block (G2.block _ hob (by simp))).trans hz
        have hy2 := (World.cell?_of_block (G2.block _ hqb (by simp))).trans hy
        have HN := HH.out rfl c3
        have e : Hid (tt = decide (hdP a < hdP b)) := by
          show tt = decide (hdP a < hdP b)
          rw [Bool.eq_iff_iff, decide_eq_true_iff, HBT.out]
          omega
        clear HBT
        go_wp2
        refine wp_loop_once ?_
        refine wp_seq_k fun K1 hK1 => ?_
        have HK1 : Hid _ := hK1
        clear hK1
        go_wp2
        refine HK1.out _ _ ?_
        clear HK1
        refine wp_seq_k fun K2 hK2 => ?_
        have HK2 : Hid _ := hK2
        clear hK2
        refine wp_block ?_
        refine wp_seq_k fun K3 hK3 => ?_
        have HK3 : Hid _ := hK3
        clear hK3
        have Gdw3 := grown_drew w2 none
        have SS : w2.drew.cell? ⟨g1, 2, none⟩ = some (.slice (some ⟨ob, oo, none⟩) n ca) ∧ w2.drew.cell? ⟨g2, 2, none⟩ = some (.slice (some ⟨qb, qo, none⟩) n cb) ∧ w2.drew.cell? ⟨ob, oo, none⟩ = some (.int .i64 (hdP a : Int)) ∧ w2.drew.cell? ⟨qb, qo, none⟩ = some (.int .i64 (hdP b : Int)) := ⟨cell_drew _ z3, cell_drew _ y3, cell_drew _ hz2, cell_drew _ hy2⟩
        obtain ⟨z3, y3, hz2, hy2⟩ := SS
        have SS : w2.drew.cell? ⟨g1, 2, none⟩ = some (.slice (some ⟨ob, oo, none⟩) n ca) ∧ w2.drew.cell? ⟨g2, 2, none⟩ = some (.slice (some ⟨qb, qo, none⟩) n cb) ∧ w2.drew.cell? ⟨ob, oo, none⟩ = some (.int .i64 (hdP a : Int)) ∧ w2.drew.cell? ⟨qb, qo, none⟩ = some (.int .i64 (hdP b : Int)) := ⟨z3, y3, hz2, hy2⟩
        refine wp_regionM (fun wz => wz.cell? ⟨g1, 2, none⟩ = some (.slice (some ⟨ob, oo, none⟩) n ca) ∧ wz.cell? ⟨g2, 2, none⟩ = some (.slice (some ⟨qb, qo, none⟩) n cb) ∧ wz.cell? ⟨ob, oo, none⟩ = some (.int .i64 (hdP a : Int)) ∧ wz.cell? ⟨qb, qo, none⟩ = some (.int .i64 (hdP b : Int))) [] #[false, false, false, false, false, false, false, false, false, false, false] rfl (by kernel_rfl) ?_
        generalize w2.drew = w3 at *
        refine wpAnyY_take [] 0 (.pointer (some ⟨g1, 2, none⟩)) rfl (by kernel_rfl) (fun _ _ _ h => h) SS rfl (by rintro wz ⟨z1, z2, z3, z4⟩; go_simp; try rfl) ?_
        try simp only [List.getElem_toArray, List.getElem_cons_succ, List.getElem_cons_zero, Act.put, List.setIfInBounds_toArray, List.set_cons_zero, List.set_cons_succ]
        refine wpAnyY_take [] 1 (.slice (some ⟨ob, oo, none⟩) n ca) rfl (by kernel_rfl) (fun _ _ _ h => h) SS rfl (by rintro wz ⟨z1, z2, z3, z4⟩; go_simp; try rfl) ?_
        try simp only [List.getElem_toArray, List.getElem_cons_succ, List.getElem_cons_zero, Act.put, List.setIfInBounds_toArray, List.set_cons_zero, List.set_cons_succ]
        refine wpAnyY_take [] 2 (.int .i64 0) rfl (by kernel_rfl) (fun _ _ _ h => h) SS rfl (by rintro wz ⟨z1, z2, z3, z4⟩; go_simp; try rfl) ?_
        try simp only [List.getElem_toArray, List.getElem_cons_succ, List.getElem_cons_zero, Act.put, List.setIfInBounds_toArray, List.set_cons_zero, List.set_cons_succ]
        refine wpAnyY_take [] 3 (.pointer (some ⟨ob, oo, none⟩)) rfl (by kernel_rfl) (fun _ _ _ h => h) SS rfl (by rintro wz ⟨z1, z2, z3, z4⟩; go_simp; try rfl) ?_
        try simp only [List.getElem_toArray, List.getElem_cons_succ, List.getElem_cons_zero, Act.put, List.setIfInBounds_toArray, List.set_cons_zero, List.set_cons_succ]
        refine wpAnyY_take [] 4 (.int .i64 (hdP a : Int)) rfl (by kernel_rfl) (fun _ _ _ h => h) SS rfl (by rintro wz ⟨z1, z2, z3, z4⟩; go_simp; try rfl) ?_
        try simp only [List.getElem_toArray, List.getElem_cons_succ, List.getElem_cons_zero, Act.put, List.setIfInBounds_toArray, List.set_cons_zero, List.set_cons_succ]
        refine wpAnyY_take [] 5 (.pointer (some ⟨g2, 2, none⟩)) rfl (by kernel_rfl) (fun _ _ _ h => h) SS rfl (by rintro wz ⟨z1, z2, z3, z4⟩; go_simp; try rfl) ?_
        try simp only [List.getElem_toArray, List.getElem_cons_succ, List.getElem_cons_zero, Act.put, List.setIfInBounds_toArray, List.set_cons_zero, List.set_cons_succ]
        refine wpAnyY_take [] 6 (.slice (some ⟨qb, qo, none⟩) n cb) rfl (by kernel_rfl) (fun _ _ _ h => h) SS rfl (by rintro wz ⟨z1, z2, z3, z4⟩; go_simp; try rfl) ?_
        try simp only [List.getElem_toArray, List.getElem_cons_succ, List.getElem_cons_zero, Act.put, List.setIfInBounds_toArray, List.set_cons_zero, List.set_cons_succ]
        refine wpAnyY_take [] 7 (.int .i64 0) rfl (by kernel_rfl) (fun _ _ _ h => h) SS rfl (by rintro wz ⟨z1, z2, z3, z4⟩; go_simp; try rfl) ?_
        try simp only [List.getElem_toArray, List.getElem_cons_succ, List.getElem_cons_zero, Act.put, List.setIfInBounds_toArray, List.set_cons_zero, List.set_cons_succ]
        refine wpAnyY_take [] 8 (.pointer (some ⟨qb, qo, none⟩)) rfl (by kernel_rfl) (fun _ _ _ h => h) SS rfl (by rintro wz ⟨z1, z2, z3, z4⟩; go_simp; try rfl) ?_
        try simp only [List.getElem_toArray, List.getElem_cons_succ, List.getElem_cons_zero, Act.put, List.setIfInBounds_toArray, List.set_cons_zero, List.set_cons_succ]
        refine wpAnyY_take [] 9 (.int .i64 (hdP b : Int)) rfl (by kernel_rfl) (fun _ _ _ h => h) SS rfl (by rintro wz ⟨z1, z2, z3, z4⟩; go_simp; try rfl) ?_
        try simp only [List.getElem_toArray, List.getElem_cons_succ, List.getElem_cons_zero, Act.put, List.setIfInBounds_toArray, List.set_cons_zero, List.set_cons_succ]
        refine wpAnyY_oneB 10 rfl (by kernel_rfl) (fun KK hKK => ?_)
        go_simp
        refine hKK _ _ (fun h _ => h) ?_
        try simp only [List.getElem_toArray, List.getElem_cons_succ, List.getElem_cons_zero, Act.put, List.setIfInBounds_toArray, List.set_cons_zero, List.set_cons_succ]
        refine wpAnyY_doneB (by kernel_rfl) ?_ _
        refine HK3.out _ _ ?_
        clear HK3
        refine wp_cond_true (by go_simp; omega) ?_
        refine wp_seq_k fun K4 hK4 => ?_
        have HK4 : Hid _ := hK4
        clear hK4
        have Gdw4 := grown_drew w3 none
        have SS : w3.drew.cell? ⟨g1, 2, none⟩ = some (.slice (some ⟨ob, oo, none⟩) n ca) ∧ w3.drew.cell? ⟨g2, 2, none⟩ = some (.slice (some ⟨qb, qo, none⟩) n cb) ∧ w3.drew.cell? ⟨ob, oo, none⟩ = some (.int .i64 (hdP a : Int)) ∧ w3.drew.cell? ⟨qb, qo, none⟩ = some (.int .i64 (hdP b : Int)) := ⟨cell_drew _ z3, cell_drew _ y3, cell_drew _ hz2, cell_drew _ hy2⟩
        obtain ⟨z3, y3, hz2, hy2⟩ := SS
        have SS : w3.drew.cell? ⟨g1, 2, none⟩ = some (.slice (some ⟨ob, oo, none⟩) n ca) ∧ w3.drew.cell? ⟨g2, 2, none⟩ = some (.slice (some ⟨qb, qo, none⟩) n cb) ∧ w3.drew.cell? ⟨ob, oo, none⟩ = some (.int .i64 (hdP a : Int)) ∧ w3.drew.cell? ⟨qb, qo, none⟩ = some (.int .i64 (hdP b : Int)) := ⟨z3, y3, hz2, hy2⟩
        refine wp_regionM (fun wz => wz.cell? ⟨g1, 2, none⟩ = some (.slice (some ⟨ob, oo, none⟩) n ca) ∧ wz.cell? ⟨g2, 2, none⟩ = some (.slice (some ⟨qb, qo, none⟩) n cb) ∧ wz.cell? ⟨ob, oo, none⟩ = some (.int .i64 (hdP a : Int)) ∧ wz.cell? ⟨qb, qo, none⟩ = some (.int .i64 (hdP b : Int))) [] #[false, false, false, false, false, false, false, false, false, false, false, false] rfl (by kernel_rfl) ?_
        generalize w3.drew = w4 at *
        refine wpAnyY_take [] 0 (.pointer (some ⟨g1, 2, none⟩)) rfl (by kernel_rfl) (fun _ _ _ h => h) SS rfl (by rintro wz ⟨z1, z2, z3, z4⟩; go_simp; try rfl) ?_
        try simp only [List.getElem_toArray, List.getElem_cons_succ, List.getElem_cons_zero, Act.put, List.setIfInBounds_toArray, List.set_cons_zero, List.set_cons_succ]
        refine wpAnyY_take [] 1 (.slice (some ⟨ob, oo, none⟩) n ca) rfl (by kernel_rfl) (fun _ _ _ h => h) SS rfl (by rintro wz ⟨z1, z2, z3, z4⟩; go_simp; try rfl) ?_
        try simp only [List.getElem_toArray, List.getElem_cons_succ, List.getElem_cons_zero, Act.put, List.setIfInBounds_toArray, List.set_cons_zero, List.set_cons_succ]
        refine wpAnyY_take [] 2 (.int .i64 0) rfl (by kernel_rfl) (fun _ _ _ h => h) SS rfl (by rintro wz ⟨z1, z2, z3, z4⟩; go_simp; try rfl) ?_
        try simp only [List.getElem_toArray, List.getElem_cons_succ, List.getElem_cons_zero, Act.put, List.setIfInBounds_toArray, List.set_cons_zero, List.set_cons_succ]
        refine wpAnyY_take [] 3 (.pointer (some ⟨ob, oo, none⟩)) rfl (by kernel_rfl) (fun _ _ _ h => h) SS rfl (by rintro wz ⟨z1, z2, z3, z4⟩; go_simp; try rfl) ?_
        try simp only [List.getElem_toArray, List.getElem_cons_succ, List.getElem_cons_zero, Act.put, List.setIfInBounds_toArray, List.set_cons_zero, List.set_cons_succ]
        refine wpAnyY_take [] 4 (.int .i64 (hdP a : Int)) rfl (by kernel_rfl) (fun _ _ _ h => h) SS rfl (by rintro wz ⟨z1, z2, z3, z4⟩; go_simp; try rfl) ?_
        try simp only [List.getElem_toArray, List.getElem_cons_succ, List.getElem_cons_zero, Act.put, List.setIfInBounds_toArray, List.set_cons_zero, List.set_cons_succ]
        refine wpAnyY_take [] 5 (.pointer (some ⟨g2, 2, none⟩)) rfl (by kernel_rfl) (fun _ _ _ h => h) SS rfl (by rintro wz ⟨z1, z2, z3, z4⟩; go_simp; try rfl) ?_
        try simp only [List.getElem_toArray, List.getElem_cons_succ, List.getElem_cons_zero, Act.put, List.setIfInBounds_toArray, List.set_cons_zero, List.set_cons_succ]
        refine wpAnyY_take [] 6 (.slice (some ⟨qb, qo, none⟩) n cb) rfl (by kernel_rfl) (fun _ _ _ h => h) SS rfl (by rintro wz ⟨z1, z2, z3, z4⟩; go_simp; try rfl) ?_
        try simp only [List.getElem_toArray, List.getElem_cons_succ, List.getElem_cons_zero, Act.put, List.setIfInBounds_toArray, List.set_cons_zero, List.set_cons_succ]
        refine wpAnyY_take [] 7 (.int .i64 0) rfl (by kernel_rfl) (fun _ _ _ h => h) SS rfl (by rintro wz ⟨z1, z2, z3, z4⟩; go_simp; try rfl) ?_
        try simp only [List.getElem_toArray, List.getElem_cons_succ, List.getElem_cons_zero, Act.put, List.setIfInBounds_toArray, List.set_cons_zero, List.set_cons_succ]
        refine wpAnyY_take [] 8 (.pointer (some ⟨qb, qo, none⟩)) rfl (by kernel_rfl) (fun _ _ _ h => h) SS rfl (by rintro wz ⟨z1, z2, z3, z4⟩; go_simp; try rfl) ?_
        try simp only [List.getElem_toArray, List.getElem_cons_succ, List.getElem_cons_zero, Act.put, List.setIfInBounds_toArray, List.set_cons_zero, List.set_cons_succ]
        refine wpAnyY_take [] 9 (.int .i64 (hdP b : Int)) rfl (by kernel_rfl) (fun _ _ _ h => h) SS rfl (by rintro wz ⟨z1, z2, z3, z4⟩; go_simp; try rfl) ?_
        try simp only [List.getElem_toArray, List.getElem_cons_succ, List.getElem_cons_zero, Act.put, List.setIfInBounds_toArray, List.set_cons_zero, List.set_cons_succ]
        refine wpAnyY_oneB 10 rfl (by kernel_rfl) (fun KK hKK => ?_)
        go_simp
        refine hKK _ _ (fun h _ => h) ?_
        try simp only [List.getElem_toArray, List.getElem_cons_succ, List.getElem_cons_zero, Act.put, List.setIfInBounds_toArray, List.set_cons_zero, List.set_cons_succ]
        refine wpAnyY_oneB 11 rfl (by kernel_rfl) (fun KK hKK => ?_)
        go_simp
        refine hKK _ _ (fun h _ => h) ?_
        try simp only [List.getElem_toArray, List.getElem_cons_succ, List.getElem_cons_zero, Act.put, List.setIfInBounds_toArray, List.set_cons_zero, List.set_cons_succ]
        refine wpAnyY_doneB (by kernel_rfl) ?_ _
        refine HK4.out _ _ ?_
        clear HK4
        go_wp2
        first | go_ret | skip
        refine ⟨?_, grown_trans G2 (grown_trans Gdw3 Gdw4)⟩
        rw [e.out]
        rfl
      · have c4 : ¬ (0 : Int) < (n : Int) := by omega
        go_wp2
        refine wp_loop_once ?_
        go_wp2
        first | go_ret | skip
        refine ⟨?_, G2⟩
        have e : tt = false := by
          cases tt with
          | false => rfl
          | true =>
            have h0 := HBT.out.1 rfl
            have h1 : hdP a = 0 := by unfold hdP; rw [List.length_eq_zero_iff.1 (show a.1.length = 0 by omega)]; rfl
            have h2 : hdP b = 0 := by unfold hdP; rw [List.length_eq_zero_iff.1 (show b.1.length = 0 by omega)]; rfl
            omega
        rw [e]
        rfl
    · have c4 : ¬ (n : Int) = (m : Int) := by omega
      have e : Hid (tt = decide (n < m)) := by
        show tt = decide (n < m)
        rw [Bool.eq_iff_iff, decide_eq_true_iff, HBT.out]
        omega
      clear HBT
      go_wp2
      first | go_ret | skip
      refine ⟨?_, G2⟩
      rw [e.out]
      rfl
  · have e : Hid (tt = decide (y < x)) := by
      show tt = decide (y < x)
      rw [Bool.eq_iff_iff, decide_eq_true_iff, HBT.out]
      omega
    clear HBT
    go_wp2
    first | go_ret | skip
    refine ⟨?_, G2⟩
    rw [e.out]
    rfl
end
end Go.Proofs.Ytpcejajijaphbaa
