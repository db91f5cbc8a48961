import Derived.Test.YtpcejajijaphbaaPc14
import Derived.Laws.AppendOwnNone
import Derived.Deep.DeepAppendWide
import Derived.Test.YtpcejajijaphbaaPc10
import Derived.Test.YtpcejajijaphbaaPc3
import Derived.Test.YtpcejajijaphbaaPc2
namespace Go.Proofs.Ytpcejajijaphbaa
open Go.RowKit
set_option maxRecDepth 100000
set_option linter.unusedVariables false
set_option linter.unusedSimpArgs false

section
theorem Try.elBc : ElT 36 4 (.bool false) 1 := ⟨Try.underlying36, by kernel_rfl, rfl, by decide⟩
set_option maxHeartbeats 32000000 in
theorem chosen_ok (w : World) (la : Option Addr) (ln lc : Nat) (F : Nat → Pa) (g : Int) (hP : RdPa w la ln lc F) (hok : ∀ i, (F i).ok) (h2 : ln ≤ 200) (hg : 0 ≤ g ∧ g ≤ 1000) :
    Calls Try.prog 5 #[.slice la ln lc, .int .i64 g] w fun e w' => ∃ (R : Nat → Rv) (W : Rv) (p : Option Addr) (c : Nat), (∃ D, DI F g ln ln D R W) ∧ e = .returned (.tuple #[.slice p W.1.length c, .int .i64 W.2, .int .i64 0]) ∧ Pl w' w.heap.size W p c ∧ w.grownBy w' none := by
  have hmx := hP.max
  have hple := hP.le
  unfold maxLen at hmx
  have hlc : ln ≤ lc ∧ lc ≤ 9223372036854775807 := ⟨hple, by omega⟩
  have l2 : ¬ (200 : Int) < (ln : Int) := by omega
  have HOK : Hid _ := hok
  have HG := fun wz => din_any g 0 1000 wz
  rw [show (decide (0 ≤ g) && decide (g ≤ 1000)) = true from by rw [decide_eq_true hg.1, decide_eq_true hg.2]; rfl] at HG
  clear hok
  go_enter Try.func5, Try.ntmps5
  refine wp_seq_k fun K0 hK0 => ?_
  have HK0 : Hid _ := hK0
  clear hK0
  go_wp2
  refine HK0.out _ _ ?_
  clear HK0
  refine wp_seq_k fun K1 hK1 => ?_
  have HK1 : Hid _ := hK1
  clear hK1
  go_wp2
  refine HK1.out _ _ ?_
  clear HK1
  refine wp_seq_k fun K2 hK2 => ?_
  have HK2 : Hid _ := hK2
  clear hK2
  go_wp2_with (go_at_call 11; refine (HG _).mono ?_; rintro e wx ⟨rfl, hwx⟩; rw [hwx]; clear hwx)
  refine HK2.out _ _ ?_
  clear HK2
  refine wp_seq_k fun K3 hK3 => ?_
  have HK3 : Hid _ := hK3
  clear hK3
  go_wp2
  go_loopw [7] (fun v7 wr => ∃ k : Nat, k ≤ ln ∧ v7 = .int .i64 k ∧ w.grownBy wr none) (fun v7 _ => ln - (intOf v7).toNat)
  case atStart => exact ⟨0, Nat.zero_le _, rfl, World.grownBy.refl _ _⟩
  case round =>
    obtain ⟨k, hk, rfl, GR⟩ := hrel
    by_cases hlt : k < ln
    · have lk : (k : Int) < (ln : Int) := by omega
      obtain ⟨lb, lf, hla, _, hlr⟩ := (hP.keep GR).at' (by omega)
      have hrk := hlr k hlt
      subst hla
      clear hlr
      have hk1 := HOK.out k
      obtain ⟨p, hp⟩ : ∃ p, F k = p := ⟨_, rfl⟩
      rw [hp] at hrk hk1
      clear hp
      obtain ⟨p0, p1, p2, p3⟩ := p
      dsimp only [Pa.cells] at hrk
      obtain ⟨q0, q1, q2, q3⟩ := hk1
      dsimp only at q0 q1 q2 q3
      have HA := fun wz => din_any p0 0 31 wz
      have HB := fun wz => din_any p1 0 1000000 wz
      have HD := fun wz => din_any p3 0 1000000 wz
      rw [show (decide (0 ≤ p0) && decide (p0 ≤ 31)) = true from by rw [decide_eq_true q0.1, decide_eq_true q0.2]; rfl] at HA
      rw [show (decide (0 ≤ p1) && decide (p1 ≤ 1000000)) = true from by rw [decide_eq_true q1.1, decide_eq_true q1.2]; rfl] at HB
      rw [show (decide (0 ≤ p3) && decide (p3 ≤ 1000000)) = true from by rw [decide_eq_true q3.1, decide_eq_true q3.2]; rfl] at HD
      have GA := World.grownBy_alloc wr (.cells #[.int .i64 p0, .int .i64 p1, .int .i64 p2, .int .i64 p3] 29) none
      have c1 : ¬ p2 ≤ p1 := by omega
      have c2 : ¬ 1000000 < p2 := by omega
      clear q0 q1 q3
      have s1 : True := trivial
      go_wp2_with (first
        | (have _t := s1; clear s1; refine wpList_load_mid rfl _ (.tmp 31) rfl lb (lf + k * 4) rfl [.int .i64 p0, .int .i64 p1, .int .i64 p2, .int .i64 p3] _ hrk Try.underlying29 rfl Try.info_pa ?_; have s2 : True := trivial)
        | (have _t := s2; clear s2; go_at_call 11; refine (HA _).mono ?_; rintro e wx ⟨rfl, hwx⟩; rw [hwx]; clear hwx; have s3 : True := trivial)
        | (have _t := s3; clear s3; go_at_call 11; refine (HB _).mono ?_; rintro e wx ⟨rfl, hwx⟩; rw [hwx]; clear hwx; have s4 : True := trivial)
        | (have _t := s4; clear s4; go_at_call 11; refine (HD _).mono ?_; rintro e wx ⟨rfl, hwx⟩; rw [hwx]; clear hwx; have s5 : True := trivial))
      go_roundw
      case rel => exact ⟨k + 1, by omega, by go_num, grown_trans GR GA⟩
      case measure => simp [intOf] <;> omega
    · have lk : ¬ (k : Int) < (ln : Int) := by omega
      clear hlt
      go_wp2
      (try simp only [Exit.inBlock, Exit.then])
      refine HK3.out _ _ ?_
      clear HK3
      refine wp_seq_k fun K4 hK4 => ?_
      have HK4 : Hid _ := hK4
      clear hK4
      go_wp2_with (at_make; refine wpList_mkCh wr rfl _ _ rfl ln rfl rfl (by omega) ?_; intro w1 A1 bA1 hs1 G1)
      refine HK4.out _ _ ?_
      clear HK4
      refine wp_seq_k fun K5 hK5 => ?_
      have HK5 : Hid _ := hK5
      clear hK5
      go_wp2_with (at_make; refine wpList_mkXR Try.elBc rfl rfl w1 rfl _ _ rfl ln rfl rfl (by omega) ?_; intro w2 hU2 G2)
      refine HK5.out _ _ ?_
      clear HK5
      have T2 : TB w2 w.heap.size wr.heap.size ln (fun _ => false) (fun _ => ([], 0)) (fun _ => none) (fun _ => 0) := ⟨GR.size, ⟨A1, bA1.keep G2 (by simp), hs1, fun i _ h => by cases h⟩, fun i _ h => by cases h⟩
      have D2 : TD w2 w.heap.size w1.heap.size ln (fun _ => false) := by
        obtain ⟨B, bB⟩ : ∃ B, BxS w2 w1.heap.size 4 B := by
          obtain ⟨cs, fr, h⟩ := hU2.ty
          rcases hU2.own.2 with ⟨h1, _⟩ | ⟨g9, c9, cur, h1, _, h3, _⟩
          · cases h1
          · injection h1 with e1 e2 e3
            injection e1 with e1
            injection e1 with e1
            subst e1
            exact ⟨cur, h3⟩
        refine ⟨Nat.le_trans GR.size G1.size, B, bB, ?_, fun i hi => ?_⟩
        · rcases hU2.own.2 with ⟨h1, _⟩ | ⟨g9, c9, cur, h1, _, h3, _, _, h6, _⟩
          · cases h1
          · injection h1 with e1 e2 e3
            injection e1 with e1
            injection e1 with e1
            subst e1
            subst e3
            have e : B = cur := by
              unfold BxS at bB
              rw [h3] at bB
              injection bB with bB
              injection bB with bB
              exact bB.symm
            rw [e, h6, Nat.mul_one]
        · have h := hU2.cell i (.bool false) (by rw [List.getElem?_replicate, if_pos hi])
          rw [cell_of_row _ _ _ _ _ _ bB] at h
          exact h
      have hgs : wr.heap.size < w1.heap.size := bA1.lt
      have hgs2 : w1.heap.size ≤ w2.heap.size := G2.size
      have G12 := grown_trans (grown_trans GR G1) G2
      have hlo1 := GR.size
      clear hU2 bA1 hs1
      generalize wr.heap.size = gb at *
      generalize w1.heap.size = gd at *
      refine wp_seq_k fun K6 hK6 => ?_
      have HK6 : Hid _ := hK6
      clear hK6
      go_wp2
      refine HK6.out _ _ ?_
      clear HK6
      have b3 := BxS.new w2 42 (chA ([], 0) none 0)
      have G3 := World.grownBy_alloc w2 (.cells (chA ([], 0) none 0) 42) none
      have W3 : CB (w2.alloc (.cells (chA ([], 0) none 0) 42)) w.heap.size w2.heap.size ([], 0) none 0 := ⟨G12.size, b3, Pl.none _ _⟩
      clear b3
      have e3 : w2.alloc (.cells (chA ([], 0) none 0) 42) = w2.alloc (.cells #[.int .i64 0, .int .i64 0, .slice none 0 0] 42) := rfl
      rw [e3] at G3 W3
      clear e3
      have T3 := T2.keep G3
      have D3 := D2.keep G3
      have G13 := grown_trans G12 G3
      have hne : gb ≠ w2.heap.size := by omega
      have HT3 : Hid _ := T3
      have HD3 : Hid _ := D3
      have HW3 : Hid _ := W3
      clear T2 D2 T3 D3 W3 G3 G1 G2 G12
      generalize w2.alloc (.cells #[.int .i64 0, .int .i64 0, .slice none 0 0] 42) = w3 at *
      generalize w2.heap.size = ga at *
      clear hgs hgs2
      refine wp_seq_k fun K7 hK7 => ?_
      have HK7 : Hid _ := hK7
      clear hK7
      go_wp2
      go_loopw [69] (fun v69 wr => ∃ (q : Nat) (D : Nat → Bool) (R : Nat → Rv) (P : Nat → Option Addr) (C : Nat → Nat) (W : Rv) (pw : Option Addr) (cw : Nat), q ≤ ln ∧ v69 = .int .i64 q ∧ Hid (DI F g ln q D R W) ∧ Hid (∀ j, D j = true → j < ln) ∧ TB wr w.heap.size gb ln D R P C ∧ TD wr w.heap.size gd ln D ∧ CB wr w.heap.size ga W pw cw ∧ w.grownBy wr none) (fun v69 _ => ln - (intOf v69).toNat)
      case atStart => exact ⟨0, _, _, _, _, ([], 0), none, 0, Nat.zero_le _, rfl, DI.first F g ln _, (fun j h => by cases h), HT3.out, HD3.out, HW3.out, G13⟩
      case round =>
        clear HT3 HD3 HW3
        obtain ⟨q, D, R, P, C, W, pw, cw, hq, rfl, HI, HDN, hTT, hDD, hWW, GR2⟩ := hrel
        have HTT : Hid _ := hTT
        have HDD : Hid _ := hDD
        have HWW : Hid _ := hWW
        clear hTT hDD hWW
        by_cases hqlt : q < ln
        · have lq : (q : Int) < (ln : Int) := by omega
          obtain ⟨lb, lf, hla, _, hlr⟩ := hP.at' (by omega)
          subst hla
          have HLR : Hid _ := hlr
          clear hlr
          refine wp_seq_k fun K8 hK8 => ?_
          have HK8 : Hid _ := hK8
          clear hK8
          go_wp2
          refine HK8.out _ _ ?_
          clear HK8
          refine wp_seq_k fun K9 hK9 => ?_
          have HK9 : Hid _ := hK9
          clear hK9
          go_wp2
          refine HK9.out _ _ ?_
          clear HK9
          refine wp_seq_k fun K10 hK10 => ?_
          have HK10 : Hid _ := hK10
          clear hK10
          refine wp_block ?_
          refine wp_seq_k fun K11 hK11 => ?_
          have HK11 : Hid _ := hK11
          clear hK11
          go_wp2
          refine HK11.out _ _ ?_
          clear HK11
          refine wp_seq_k fun K12 hK12 => ?_
          have HK12 : Hid _ := hK12
          clear hK12
          go_wp2
          go_loopw [12, 13] (fun v12 v13 ws => ∃ (i : Nat) (z : Int), i ≤ ln ∧ v13 = .int .i64 i ∧ v12 = .int .i64 z ∧ Hid (Lt F D i z) ∧ wr.grownBy ws none) (fun _ v13 _ => ln - (intOf v13).toNat)
          case atStart => exact ⟨0, -1, Nat.zero_le _, rfl, rfl, Lt.first F D, World.grownBy.refl _ _⟩
          case round =>
            obtain ⟨i, z, hi, rfl, rfl, HL, GS⟩ := hrel
            by_cases hilt : i < ln
            · have lii : (i : Int) < (ln : Int) := by omega
              have DS := HDD.out.keep GS
              have GBS := grown_trans GR2 GS
              refine wp_seq_k fun K13 hK13 => ?_
              have HK13 : Hid _ := hK13
              clear hK13
              go_wp2
              refine HK13.out _ _ ?_
              clear HK13
              refine ch_t20 _ (by intro c a1 a2 w9 hd h; exact ⟨by rw [← hd]; exact h.1, h.2⟩) w wr lb lf ln lc F g HLR.out hlc h2 GBS gd w.heap.size D DS i hilt z HL.out ?_
              intro v75 v76 v77 v78 v79 v80 v81 v82 v83 v84 v85 v86 v87 v88 v89 v90 v91 v92 v93 v94 v95 v96 v97 v98 v99 z' HZ' Gz
              have HZ9 : Hid _ := HZ'
              clear HZ'
              (try simp only [Exit.inBlock, Exit.then])
              (try dsimp only)
              go_roundw
              case rel => exact ⟨i + 1, z', by omega, by go_num, rfl, HZ9.out, grown_trans GS Gz⟩
              case measure => simp [intOf] <;> omega
            · have lii : ¬ (i : Int) < (ln : Int) := by omega
              have hil : i = ln := by omega
              have HL2 : Hid (Lt F D ln z) := by
                show Lt F D ln z
                rw [← hil]
                exact HL.out
              clear HL hil hilt
              obtain ⟨k, hz, hk, hDk, hmaxk⟩ := Lt.last HI.out hqlt HL2.out
              subst hz
              have TS := HTT.out.keep GS
              have DS := HDD.out.keep GS
              have WS := HWW.out.keep GS
              have GBS := grown_trans GR2 GS
              clear HL2
              go_wp2
              (try simp only [Exit.inBlock, Exit.then])
              refine HK12.out _ _ ?_
              clear HK12
              refine ch_t22 _ (by intro c a1 a2 w9 hd h; exact ⟨by rw [← hd]; exact h.1, h.2⟩) w wr lb lf ln lc F g HLR.out hlc h2 GBS hg HOK.out gb gd ga w.heap.size GBS.size (Nat.le_refl _) q hqlt D R P C W HI.out TS k hk HDN.out hDk hmaxk DS pw cw WS hne ?_
              intro v14 v15 v16 v100 v101 v102 v103 v104 v105 v106 v107 v108 v109 v110 v111 v112 v113 v114 v115 v116 v117 v118 v119 v120 v121 v122 v123 v124 v125 v126 v127 v128 v129 v130 v131 v132 v133 v134 v135 v136 v137 v138 v139 v140 v141 v142 v143 v144 v145 v146 v147 v148 v149 v150 v151 v152 v153 v154 v155 v156 v157 v158 v159 v160 v161 v162 v163 v164 v165 v166 v167 v168 v169 v170 v171 v172 v173 v174 v175 v176 v177 v178 v179 v180 v181 v182 v183 v184 v185 v186 v187 W' R' P' C' pw' cw' w9 hI9 T9 D9 W9 G9 _
              have HI9 : Hid _ := hI9
              have HT9 : Hid _ := T9
              have HD9 : Hid _ := D9
              have HW9 : Hid _ := W9
              have HN9 : Hid (∀ j, setB D k j = true → j < ln) := fun j hj => by
                by_cases e : j = k
                · rw [e]; exact hk
                · rw [show setB D k j = D j from if_neg e] at hj
                  exact HDN.out j hj
              clear hI9 T9 D9 W9 TS DS WS HTT HDD HWW HI HDN
              (try simp only [Exit.inBlock, Exit.then])
              refine HK10.out _ _ ?_
              clear HK10
              go_wp2
              go_roundw
              case rel => exact ⟨q + 1, _, R', P', C', W', pw', cw', by omega, by go_num, HI9.out, HN9.out, HT9.out, HD9.out, HW9.out, G9⟩
              case measure => simp [intOf] <;> omega
        · have lq : ¬ (q : Int) < (ln : Int) := by omega
          have hql : q = ln := by omega
          have HI2 : Hid (DI F g ln ln D R W) := by
            show DI F g ln ln D R W
            have h := HI.out
            rw [hql] at h
            exact h
          clear HI hql hqlt
          have a0 : wr.cell? ⟨ga, 0, none⟩ = some (.int .i64 W.2) := HWW.out.bx.cell 0 (by show 0 < 3; decide)
          have a2 : wr.cell? ⟨ga, 2, none⟩ = some (.slice pw W.1.length cw) := HWW.out.bx.cell 2 (by show 2 < 3; decide)
          go_wp2
          (try simp only [Exit.inBlock, Exit.then])
          refine HK7.out _ _ ?_
          clear HK7
          refine wp_seq_k fun K8 hK8 => ?_
          have HK8 : Hid _ := hK8
          clear hK8
          have Gd := grown_drew wr none
          have SS : wr.drew.cell? ⟨ga, 0, none⟩ = some (.int .i64 W.2) ∧ wr.drew.cell? ⟨ga, 2, none⟩ = some (.slice pw W.1.length cw) := ⟨cell_drew _ a0, cell_drew _ a2⟩
          refine wp_regionM (fun wz => wz.cell? ⟨ga, 0, none⟩ = some (.int .i64 W.2) ∧ wz.cell? ⟨ga, 2, none⟩ = some (.slice pw W.1.length cw)) [] #[false, false, false, false, false, false, false] rfl (by kernel_rfl) ?_
          generalize wr.drew = wd at *
          refine wpAnyY_takeF 0 (.pointer (some ⟨ga, 2, none⟩)) rfl (by kernel_rfl) (fun _ _ _ h => h) rfl (by intro wz; go_simp; try rfl) ?_
          try simp only [List.getElem_toArray, List.getElem_cons_succ, List.getElem_cons_zero, Act.put, List.setIfInBounds_toArray, List.set_cons_zero, List.set_cons_succ]
          refine wpAnyY_take [] 1 (.slice pw W.1.length cw) rfl (by kernel_rfl) (fun _ _ _ h => h) SS rfl (by rintro wz ⟨z1, z2⟩; go_simp) ?_
          try simp only [List.getElem_toArray, List.getElem_cons_succ, List.getElem_cons_zero, Act.put, List.setIfInBounds_toArray, List.set_cons_zero, List.set_cons_succ]
          refine wpAnyY_takeF 2 (.pointer (some ⟨ga, 0, none⟩)) rfl (by kernel_rfl) (fun _ _ _ h => h) rfl (by intro wz; go_simp; try rfl) ?_
          try simp only [List.getElem_toArray, List.getElem_cons_succ, List.getElem_cons_zero, Act.put, List.setIfInBounds_toArray, List.set_cons_zero, List.set_cons_succ]
          refine wpAnyY_take [] 3 (.int .i64 W.2) rfl (by kernel_rfl) (fun _ _ _ h => h) SS rfl (by rintro wz ⟨z1, z2⟩; go_simp) ?_
          try simp only [List.getElem_toArray, List.getElem_cons_succ, List.getElem_cons_zero, Act.put, List.setIfInBounds_toArray, List.set_cons_zero, List.set_cons_succ]
          refine wpAnyY_oneB 4 rfl (by kernel_rfl) (fun KK hKK => ?_)
          go_simp
          refine hKK _ _ (fun h _ => h) ?_
          try simp only [List.getElem_toArray, List.getElem_cons_succ, List.getElem_cons_zero, Act.put, List.setIfInBounds_toArray, List.set_cons_zero, List.set_cons_succ]
          refine wpAnyY_oneB 5 rfl (by kernel_rfl) (fun KK hKK => ?_)
          go_simp
          refine hKK _ _ (fun h _ => h) ?_
          try simp only [List.getElem_toArray, List.getElem_cons_succ, List.getElem_cons_zero, Act.put, List.setIfInBounds_toArray, List.set_cons_zero, List.set_cons_succ]
          refine wpAnyY_oneB 6 rfl (by kernel_rfl) (fun KK hKK => ?_)
          go_simp
          refine hKK _ _ (fun h _ => h) ?_
          try simp only [List.getElem_toArray, List.getElem_cons_succ, List.getElem_cons_zero, Act.put, List.setIfInBounds_toArray, List.set_cons_zero, List.set_cons_succ]
          refine wpAnyY_doneB (by kernel_rfl) ?_ _
          refine HK8.out _ _ ?_
          clear HK8
          go_wp2
          refine bodyPost_ret (results_tmp3 rfl _ _ _) rfl ?_
          exact ⟨R, W, pw, cw, ⟨D, HI2.out⟩, rfl, HWW.out.pl.keep Gd, grown_trans GR2 Gd⟩
end

section
theorem Try.elNc : ElT 23 3 (.int .i64 0) 8 := ⟨Try.underlying23, by kernel_rfl, rfl, by decide⟩
theorem wpList_psYc {t e : TypeId} {z : Value} {by' : Nat} (E : ElT t e z by') (w : World) (u : Value) (h1 : u.oneCell' = true) {ops : Array Oper} {rest : List Oper} {o : Oper} {a : Act} {Q : Exit → Act → World → Prop} (hg : o.guard = none) (s x : Operand)
    (hop : o.op = Op.call { callee := .builtin .append, args := #[s, x], argTypes := #[t, t] }) (ao : Option Addr) (m co lo : Nat) (D : List Value) (hs : a.eval s = .slice ao m co)
    (hA : AnsX e w lo ao m co D) (hlo : lo ≤ w.heap.size) (hx : a.eval x = .slice (some ⟨w.heap.size, 0, none⟩) 1 1) (hb : (m + 1) * by' ≤ 140737488351400) (hb3 : m + 1 ≤ 140737488351400)
    (hK : ∀ gx cx w', AnsX e w' lo (some ⟨gx, 0, none⟩) (m + 1) cx (D ++ [u]) → w.grownBy w' (Value.slice ao m co).ownBlock → ((Value.slice ao m co).ownBlock = some gx ∨ w.heap.size ≤ gx) → wpList Try.prog ops Q rest (a.put o.dst (.slice (some ⟨gx, 0, none⟩) (m + 1) cx)) w') :
    wpList Try.prog ops Q (o :: rest) a (w.alloc (.cells #[u] e)) := by
  obtain ⟨i0, hi, hz0, hz1, hz2⟩ := info_parts E.inf
  have gA := World.grownBy_alloc w (.cells #[u] e) none
  have hR := rdX_one w e u h1
  have hpos := E.pos
  refine wpList_apS _ hg s x t e i0 z 1 by' E.und hi hz0 hz1 hz2 E.one (by decide) hop (.slice ao m co) m D hs (hA.own.alloc _) ⟨w.heap.size, 0, none⟩ 1 1 [u] hx rfl ?_ hR.one (by decide) (by unfold maxLen; omega) (by omega) ?_
  · intro j v hv
    obtain ⟨b, off, e', _, hc⟩ := hR.at' (by decide)
    cases e'
    rw [addr_add]
    exact hc j v hv
  · intro g c w' hgx hgr hown
    have hsz := gA.size
    refine hK g c w' ⟨hown, ?_, fun y hy => ?_⟩ (grown_trans (grown_weak gA _) hgr) ?_
    · intro v hv
      rcases List.mem_append.1 hv with h | h
      · exact hA.one v h
      · exact hR.one v h
    · have e' : g = y := Option.some.inj hy
      subst e'
      rcases hgx with h | h
      · exact hA.new g h
      · omega
    · rcases hgx with h | h
      · exact .inl h
      · exact .inr (by omega)
set_option maxHeartbeats 4000000 in
theorem over_anyX (mk : Int) (a : Option Addr) (n cap lo : Nat) (S : List Value) (w : World) (h : AnsX 3 w lo a n cap S) (hn : n ≤ 17592186043904) :
    Calls Try.prog 8 #[.slice a n cap, .int .i64 mk] w fun e w' => e = .returned (.tuple #[]) ∧ w.grownBy w' (Value.slice a n cap).ownBlock := by
  have hm2 := h.max
  unfold maxLen at hm2
  go_enter Try.func8, Try.ntmps8
  go_wp2
  go_loopw [4] (fun i wr => ∃ (k : Nat) (X : List Value), k ≤ n ∧ i = .int .i64 k ∧ w.grownBy wr (Value.slice a n cap).ownBlock ∧ AnsX 3 wr lo a n cap X) (fun i _ => n - (intOf i).toNat)
  case atStart => exact ⟨0, _, by omega, rfl, World.grownBy.refl _ _, h⟩
  case round =>
    obtain ⟨k, X, hk, rfl, hgr, hA⟩ := hrel
    by_cases hlt : k < n
    · have hlt' : (k : Int) < (n : Int) := by omega
      rcases hA.cases with ⟨_, h0, _⟩ | ⟨g, e, _, _⟩
      · omega
      subst e
      have hc := hA.cell k _ (List.getElem?_eq_getElem (by rw [hA.len]; exact hlt))
      have hf := hA.free k
      have R := hA.set k (.int .i64 mk) rfl
      go_wp2
      go_roundw
      case rel => exact ⟨k + 1, _, by omega, by go_num, grown_trans hgr (grown_set _ _ _ _), R⟩
      case measure => simp [intOf]; omega
    · have hlt' : ¬ (k : Int) < (n : Int) := by omega
      go_wp2
      go_loopw [0, 5] (fun v i wq => ∃ (q : Nat) (b : Option Addr) (m c : Nat) (Y : List Value), q ≤ 20 ∧ m = n + q ∧ i = .int .i64 q ∧ v = .slice b m c ∧ w.grownBy wq (Value.slice a n cap).ownBlock ∧ AnsX 3 wq 0 b m c Y ∧ (∀ y, (Value.slice b m c).ownBlock = some y → (Value.slice a n cap).ownBlock = some y ∨ w.heap.size ≤ y)) (fun _ i _ => 20 - (intOf i).toNat)
      case atStart => exact ⟨0, a, n, cap, X, by omega, rfl, rfl, rfl, hgr, hA.low (Nat.zero_le _), fun y hy => .inl hy⟩
      case round =>
        obtain ⟨q, b, m, c, Y, hq, hmq, rfl, rfl, hgq, hY, hb⟩ := hrel
        by_cases hlq : q < 20
        · have hlq' : (q : Int) < 20 := by omega
          have hsz := hgq.size
          go_wp2_with (at_builtin; refine wpList_psYc Try.elNc wr (.int .i64 mk) rfl rfl _ _ rfl b m c 0 Y rfl hY (Nat.zero_le _) rfl (by omega) (by omega) ?_; intro gx cx w2 hA2 hg2 hx2)
          go_roundw
          case rel =>
            refine ⟨q + 1, some ⟨gx, 0, none⟩, m + 1, cx, _, by omega, by omega, by go_num, by rw [hmq], ?_, hA2, ?_⟩
            · cases hbo : (Value.slice b m c).ownBlock with
              | none => rw [hbo] at hg2; exact grown_trans hgq (grown_weak hg2 _)
              | some y => rw [hbo] at hg2; exact grown_new hgq hg2 (hb y hbo)
            · intro y hy
              have e : gx = y := Option.some.inj hy
              subst e
              rcases hx2 with h | h
              · exact hb gx h
              · exact .inr (by omega)
          case measure => simp [intOf]; omega
        · have hlq' : ¬ (q : Int) < 20 := by omega
          go_wp2
          go_end0
          exact ⟨rfl, hgq⟩
theorem Try.info_paC : (Try.prog.info? 29).map (fun i => (i.zero, i.size, i.bytes)) = some (some (.agg #[.int .i64 0, .int .i64 0, .int .i64 0, .int .i64 0]), 4, 32) := by kernel_rfl
def flC (Ps : List Pa) : List Value := Ps.flatMap Pa.cells
theorem flC_len (Ps : List Pa) : (flC Ps).length = Ps.length * 4 := by
  induction Ps with
  | nil => rfl
  | cons p Ps ih => show (p.cells ++ flC Ps).length = _; rw [List.length_append, ih]; simp [Pa.cells]; omega
theorem flC_at (Ps : List Pa) : ∀ (i j : Nat) (p : Pa), Ps[i]? = some p → j < 4 → (flC Ps)[i * 4 + j]? = p.cells[j]? := by
  induction Ps with
  | nil => intro i j p h; cases h
  | cons q Ps ih =>
    intro i j p h hj
    show (q.cells ++ flC Ps)[i * 4 + j]? = _
    cases i with
    | zero =>
      have h : q = p := Option.some.inj h
      rw [List.getElem?_append_left (by simp [Pa.cells]; omega), h]
      simp
    | succ i =>
      rw [List.getElem?_append_right (by simp [Pa.cells]; omega)]
      have e : (i + 1) * 4 + j - q.cells.length = i * 4 + j := by simp [Pa.cells]; omega
      rw [e]
      exact ih i j p h hj
theorem flC_one (Ps : List Pa) : ∀ u, u ∈ flC Ps → u.oneCell' = true := by
  intro u hu
  obtain ⟨p, _, h⟩ := List.mem_flatMap.1 hu
  simp only [Pa.cells, List.mem_cons, List.not_mem_nil, or_false] at h
  rcases h with rfl | rfl | rfl | rfl <;> rfl
/-- 'append([]api.Pass(nil), l...)' -/
theorem wpList_clP {w : World} {ops : Array Oper} {rest : List Oper} {o : Oper} {a : Act} {Q : Exit → Act → World → Prop} (hg : o.guard = none) (s x : Operand)
    (hop : o.op = Op.call { callee := .builtin .append, args := #[s, x], argTypes := #[22, 22] }) (hs : a.eval s = .slice none 0 0)
    (la : Option Addr) (ln lc : Nat) (F : Nat → Pa) (hx : a.eval x = .slice la ln lc) (hR : RdPa w la ln lc F) (hn0 : la = none → ln = 0 ∧ lc = 0) (hb : ln * 32 ≤ 140737488351232)
    (hK : ∀ a' c' w', RdPa w' a' ln c' F → w.grownBy w' none → wpList Try.prog ops Q rest (a.put o.dst (.slice a' ln c')) w') :
    wpList Try.prog ops Q (o :: rest) a w := by
  obtain ⟨i0, hi, hz0, hz1, hz2⟩ := info_parts Try.info_paC
  cases la with
  | none =>
    obtain ⟨e1, e2⟩ := hn0 rfl
    subst e1
    subst e2
    refine wpList_append_own_none hg s x _ hop 0 29 i0 4 Try.underlying22 hi (.slice none 0 0) 0 [] hs (World.ownsRow_nil _ _ _ _) hx ?_
    exact hK none 0 w ⟨Nat.le_refl _, Nat.zero_le _, fun h => by omega⟩ (World.grownBy.refl _ _)
  | some ad =>
    have hl : (flC ((List.range ln).map F)).length = ln * 4 := by rw [flC_len, List.length_map, List.length_range]
    have hat : ∀ i j, i < ln → j < 4 → (flC ((List.range ln).map F))[i * 4 + j]? = (F i).cells[j]? := fun i j hi hj => flC_at _ i j (F i) (by rw [List.getElem?_map, List.getElem?_range hi]; rfl) hj
    refine wpList_append_own_wide w hg s x _ hop 0 29 i0 _ 4 32 Try.underlying22 hi hz0 hz1 hz2 rfl (by decide) (.slice none 0 0) 0 [] hs (World.ownsRow_nil _ _ _ _) ad ln lc (flC ((List.range ln).map F)) hx hl ?_ (flC_one _) (by unfold maxLen; omega) (by omega) (Nat.zero_le _) ?_
    · intro j u hu
      have hj : j < ln * 4 := by rw [← hl]; exact (List.getElem?_eq_some_iff.1 hu).1
      obtain ⟨b, off, e', _, hc⟩ := hR.at' (by omega)
      cases e'
      rw [addr_add]
      have h1 := hat (j / 4) (j % 4) (by omega) (by omega)
      rw [show j / 4 * 4 + j % 4 = j by omega, hu] at h1
      have := hc (j / 4) (by omega) (j % 4) u h1.symm
      rw [show off + j / 4 * 4 + j % 4 = off + j by omega] at this
      exact this
    · intro v' w' hown hgr _
      rw [Nat.zero_add, List.nil_append] at hown
      rcases hown.2 with ⟨h1, h2⟩ | ⟨g, cap', cur, h1, _, h3, h4, h5, h6, h7⟩
      · subst h1
        subst h2
        exact hK none 0 w' ⟨Nat.le_refl _, Nat.zero_le _, fun h => by omega⟩ hgr
      · subst h1
        refine hK (some ⟨g, 0, none⟩) cap' w' ⟨h4, h5, fun h0 => ⟨g, 0, rfl, (Array.getElem?_eq_some_iff.1 h3).1, fun i hi j v hv => ?_⟩⟩ hgr
        have hj : j < 4 := (List.getElem?_eq_some_iff.1 hv).1
        have h8 := hown.cells (g := g) rfl (i * 4 + j) v (by rw [hat i j hi hj]; exact hv)
        rw [addr_add] at h8
        rw [Nat.add_assoc]
        exact h8
set_option maxHeartbeats 1000000 in
theorem sameX_any (a b : Option Addr) (cap cap' lo lo' : Nat) (L : List Nat) (w : World) (h : AnsX 3 w lo a L.length cap (ppL L)) (k : AnsX 3 w lo' b L.length cap' (ppL L)) :
    Calls Try.prog 7 #[.slice a L.length cap, .slice b L.length cap'] w fun e w' => e = .returned (.bool true) ∧ w.grownBy w' none := by
  have hm1 := h.max
  unfold maxLen at hm1
  obtain ⟨n, hn⟩ : ∃ n, L.length = n := ⟨_, rfl⟩
  have HN : Hid _ := hn
  rw [hn] at h k hm1 ⊢
  clear hn
  have HA : Hid _ := AnsX.rd h
  have HB : Hid _ := AnsX.rd k
  clear h k
  go_enter Try.func7, Try.ntmps7
  go_wp2
  go_loopw [5] (fun i wr => ∃ q : Nat, q ≤ n ∧ i = .int .i64 q ∧ w.grownBy wr none) (fun i _ => n - (intOf i).toNat)
  case atStart => exact ⟨0, by omega, rfl, World.grownBy.refl _ _⟩
  case round =>
    obtain ⟨q, hq, rfl, hgr⟩ := hrel
    by_cases hlt : q < n
    · obtain ⟨b1, o1, e1, _, hc1⟩ := (RdX.keep HA.out hgr).at' (by omega)
      obtain ⟨b2, o2, e2, _, hc2⟩ := (RdX.keep HB.out hgr).at' (by omega)
      subst e1
      subst e2
      have hx : (ppL L)[q]? = some (.int .i64 ((L[q]'(by rw [HN.out]; exact hlt) : Nat) : Int)) := by unfold ppL; rw [List.getElem?_map, List.getElem?_eq_getElem (by rw [HN.out]; exact hlt)]; rfl
      have c1 := hc1 q _ hx
      have c2 := hc2 q _ hx
      have hqi : (q : Int) < (n : Int) := by omega
      clear hc1 hc2 hx
      generalize ((L[q]'(by rw [HN.out]; exact hlt) : Nat) : Int) = x at *
      go_wp2
      go_quiet (fail)
      go_wp2
      go_roundw
      case rel => exact ⟨q + 1, by omega, by go_num, grown_trans hgr (grown_drewN _ _ _)⟩
      case measure => simp [intOf]; omega
    · have hqi : ¬ (q : Int) < (n : Int) := by omega
      go_wp2
      go_ret
      exact ⟨rfl, hgr⟩
set_option maxHeartbeats 16000000 in
theorem chosen_law (w : World) (la : Option Addr) (ln lc : Nat) (F : Nat → Pa) (g : Int) (hP : RdPa w la ln lc F) (hn0 : la = none → ln = 0 ∧ lc = 0) (hb : ln * 32 ≤ 140737488351232) (L : List Nat) (wo z : Int) (hL : L.length ≤ 1000)
    (hC : ∀ wz, RdPa wz la ln lc F → Calls Try.prog 5 #[.slice la ln lc, .int .i64 g] wz fun e w' => ∃ p c, e = .returned (.tuple #[.slice p L.length c, .int .i64 wo, .int .i64 z]) ∧ AnsX 3 w' wz.heap.size p L.length c (ppL L) ∧ wz.grownBy w' none)
    (hH : ∀ wz a c, RdPa wz a ln c F → Calls Try.prog 6 #[.slice a ln c, .int .i64 g] wz fun e w' => ∃ p c, e = .returned (.tuple #[.slice p L.length c, .int .i64 wo, .int .i64 z]) ∧ AnsX 3 w' wz.heap.size p L.length c (ppL L) ∧ wz.grownBy w' none) :
    Calls Try.prog 3 #[.slice la ln lc, .int .i64 g] w fun e w' => e = .returned (.bool true) ∧ w.grownBy w' none := by
  have hmx := hP.max
  have hle := hP.le
  unfold maxLen at hmx
  have HC : Hid _ := hC
  have HH : Hid _ := hH
  clear hC hH
  go_enter Try.func3, Try.ntmps3
  refine wp_seq_k fun K0 hK0 => ?_
  have HK0 : Hid _ := hK0
  clear hK0
  go_wp2
  refine HK0.out _ _ ?_
  clear HK0
  refine wp_seq_k fun K1 hK1 => ?_
  have HK1 : Hid _ := hK1
  clear hK1
  go_wp2_with (at_builtin; refine wpList_clP rfl _ _ rfl rfl la ln lc F rfl hP hn0 hb ?_; intro ha hc w1 hP1 G1)
  refine HK1.out _ _ ?_
  clear HK1
  have hP1l := hP.keep G1
  refine wp_seq_k fun K2 hK2 => ?_
  have HK2 : Hid _ := hK2
  clear hK2
  go_wp2_with (go_at_call 5; refine Calls.mono (HC.out w1 hP1l) ?_; rintro e w2 ⟨pC, cC, rfl, hA2, G2⟩)
  refine HK2.out _ _ ?_
  clear HK2
  have hP2 := hP1.keep G2
  refine wp_seq_k fun K3 hK3 => ?_
  have HK3 : Hid _ := hK3
  clear hK3
  go_wp2_with (go_at_call 6; refine Calls.mono (HH.out w2 ha hc hP2) ?_; rintro e w3 ⟨pA, cA, rfl, hA3, G3⟩)
  refine HK3.out _ _ ?_
  clear HK3
  have hP3 := hP2.keep G3
  refine wp_seq_k fun K4 hK4 => ?_
  have HK4 : Hid _ := hK4
  clear hK4
  go_wp2_with (go_at_call 6; refine Calls.mono (HH.out w3 ha hc hP3) ?_; rintro e w4 ⟨pB, cB, rfl, hA4, G4⟩)
  refine HK4.out _ _ ?_
  clear HK4
  have hP4 := hP3.keep G4
  have hL4 := (((hP1l.keep G2).keep G3).keep G4)
  have hA24 := (hA2.keep G3).keep G4
  have hA34 := hA3.keep G4
  have H1 : Hid _ := sameX_any pA pC cA cC _ _ L w4 hA34 hA24
  have GW4 := grown_trans (grown_trans (grown_trans G1 G2) G3) G4
  refine wp_seq_k fun K5 hK5 => ?_
  have HK5 : Hid _ := hK5
  clear hK5
  have s1 : True := trivial
  go_wp2_with (first
    | (have _t := s1; clear s1; go_at_call 7; refine Calls.mono H1.out ?_; rintro e w5 ⟨rfl, G5⟩; have s2 : True := trivial)
    | (have _t := s2; clear s2; go_at_call 7; refine Calls.mono (sameX_any pB pC cB cC _ _ L w5 (hA4.keep G5) (hA24.keep G5)) ?_; rintro e w6 ⟨rfl, G6⟩))
  refine HK5.out _ _ ?_
  clear HK5
  have G46 := grown_trans G5 G6
  have hP6 := hP4.keep G46
  have hL6 := hL4.keep G46
  have hC6 := hA24.keep G46
  have hA6 := hA34.keep G46
  have hB6 := hA4.keep G46
  have GW6 := grown_trans GW4 G46
  have hs3 := G3.size
  have hs34 := hA34.lt
  have hs24 := (hA2.keep G3).lt
  have hs2 := hA2.lt
  have hA3l := hA3.lt
  clear hA2 hA3 hA4 hA24 hA34 H1 hP1 hP2 hP3 hP4 hL4 hP1l
  refine wp_seq_k fun K6 hK6 => ?_
  have HK6 : Hid _ := hK6
  clear hK6
  go_wp2
  go_loopw [15] (fun v15 wr => ∃ i : Nat, i ≤ ln ∧ v15 = .int .i64 i ∧ w6.grownBy wr none) (fun v15 _ => ln - (intOf v15).toNat)
  case atStart => exact ⟨0, Nat.zero_le _, rfl, World.grownBy.refl _ _⟩
  case round =>
    obtain ⟨i, hi, rfl, GR⟩ := hrel
    by_cases hlt : i < ln
    · have lii : (i : Int) < (ln : Int) := by omega
      obtain ⟨lb, lf, hla, _, hlr⟩ := (hL6.keep GR).at' (by omega)
      obtain ⟨hb, ho, hha, _, hhr⟩ := (hP6.keep GR).at' (by omega)
      have rl := hlr i hlt
      have rh := hhr i hlt
      subst hla
      subst hha
      clear hlr hhr
      have hhm := hP6.max
      have hhl := hP6.le
      unfold maxLen at hhm
      obtain ⟨p, hp⟩ : ∃ p, F i = p := ⟨_, rfl⟩
      rw [hp] at rl rh
      clear hp
      obtain ⟨p0, p1, p2, p3⟩ := p
      dsimp only [Pa.cells] at rl rh
      refine wp_seq_k fun K7 hK7 => ?_
      have HK7 : Hid _ := hK7
      clear hK7
      go_wp2
      refine HK7.out _ _ ?_
      clear HK7
      refine wp_seq_k fun K8 hK8 => ?_
      have HK8 : Hid _ := hK8
      clear hK8
      refine wp_block ?_
      refine wp_seq_k fun K9 hK9 => ?_
      have HK9 : Hid _ := hK9
      clear hK9
      have Gd := grown_drew wr none
      have SS : wr.drew.rangeAt hb (ho + i * 4) [.int .i64 p0, .int .i64 p1, .int .i64 p2, .int .i64 p3] ∧ wr.drew.rangeAt lb (lf + i * 4) [.int .i64 p0, .int .i64 p1, .int .i64 p2, .int .i64 p3] := ⟨(World.rangeAt_drew ..).2 rh, (World.rangeAt_drew ..).2 rl⟩
      refine wp_regionM (fun wz => wz.rangeAt hb (ho + i * 4) [.int .i64 p0, .int .i64 p1, .int .i64 p2, .int .i64 p3] ∧ wz.rangeAt lb (lf + i * 4) [.int .i64 p0, .int .i64 p1, .int .i64 p2, .int .i64 p3]) [] #[false, false, false, false, false, false, false, false, false] rfl (by kernel_rfl) ?_
      generalize wr.drew = wd at *
      refine wpAnyY_takeF 0 (.slice (some ⟨hb, ho, none⟩) ln hc) rfl (by kernel_rfl) (fun _ _ _ h => h) rfl (by intro wz; go_simp; try rfl) ?_
      try simp only [List.getElem_toArray, List.getElem_cons_succ, List.getElem_cons_zero, Act.put, List.setIfInBounds_toArray, List.set_cons_zero, List.set_cons_succ]
      refine wpAnyY_takeF 1 (.int .i64 (i : Int)) rfl (by kernel_rfl) (fun _ _ _ h => h) rfl (by intro wz; go_simp; try rfl) ?_
      try simp only [List.getElem_toArray, List.getElem_cons_succ, List.getElem_cons_zero, Act.put, List.setIfInBounds_toArray, List.set_cons_zero, List.set_cons_succ]
      refine wpAnyY_takeF 2 (.pointer (some ⟨hb, ho + i * 4, none⟩)) rfl (by kernel_rfl) (fun _ _ _ h => h) rfl (by intro wz; go_simp; try rfl) ?_
      try simp only [List.getElem_toArray, List.getElem_cons_succ, List.getElem_cons_zero, Act.put, List.setIfInBounds_toArray, List.set_cons_zero, List.set_cons_succ]
      refine wpAnyY_take [] 3 (.agg #[.int .i64 p0, .int .i64 p1, .int .i64 p2, .int .i64 p3]) rfl (by kernel_rfl) (fun _ _ _ h => h) SS rfl (by rintro wz ⟨z1, z2⟩; exact ldMR rfl rfl z1 Try.underlying29 rfl Try.info_pa) ?_
      try simp only [List.getElem_toArray, List.getElem_cons_succ, List.getElem_cons_zero, Act.put, List.setIfInBounds_toArray, List.set_cons_zero, List.set_cons_succ]
      refine wpAnyY_takeF 4 (.slice (some ⟨lb, lf, none⟩) ln lc) rfl (by kernel_rfl) (fun _ _ _ h => h) rfl (by intro wz; go_simp; try rfl) ?_
      try simp only [List.getElem_toArray, List.getElem_cons_succ, List.getElem_cons_zero, Act.put, List.setIfInBounds_toArray, List.set_cons_zero, List.set_cons_succ]
      refine wpAnyY_takeF 5 (.int .i64 (i : Int)) rfl (by kernel_rfl) (fun _ _ _ h => h) rfl (by intro wz; go_simp; try rfl) ?_
      try simp only [List.getElem_toArray, List.getElem_cons_succ, List.getElem_cons_zero, Act.put, List.setIfInBounds_toArray, List.set_cons_zero, List.set_cons_succ]
      refine wpAnyY_takeF 6 (.pointer (some ⟨lb, lf + i * 4, none⟩)) rfl (by kernel_rfl) (fun _ _ _ h => h) rfl (by intro wz; go_simp; try rfl) ?_
      try simp only [List.getElem_toArray, List.getElem_cons_succ, List.getElem_cons_zero, Act.put, List.setIfInBounds_toArray, List.set_cons_zero, List.set_cons_succ]
      refine wpAnyY_take [] 7 (.agg #[.int .i64 p0, .int .i64 p1, .int .i64 p2, .int .i64 p3]) rfl (by kernel_rfl) (fun _ _ _ h => h) SS rfl (by rintro wz ⟨z1, z2⟩; exact ldMR rfl rfl z2 Try.underlying29 rfl Try.info_pa) ?_
      try simp only [List.getElem_toArray, List.getElem_cons_succ, List.getElem_cons_zero, Act.put, List.setIfInBounds_toArray, List.set_cons_zero, List.set_cons_succ]
      refine wpAnyY_takeF 8 (.bool false) rfl (by kernel_rfl) (fun _ _ _ h => h) rfl (by intro wz; go_simp) ?_
      try simp only [List.getElem_toArray, List.getElem_cons_succ, List.getElem_cons_zero, Act.put, List.setIfInBounds_toArray, List.set_cons_zero, List.set_cons_succ]
      refine wpAnyY_doneB (by kernel_rfl) ?_ _
      refine HK9.out _ _ ?_
      clear HK9
      go_wp2
      (try simp only [Exit.inBlock, Exit.then])
      refine HK8.out _ _ ?_
      clear HK8
      go_wp2
      go_roundw
      case rel => exact ⟨i + 1, by omega, by go_num, grown_trans GR Gd⟩
      case measure => simp [intOf] <;> omega
    · have lii : ¬ (i : Int) < (ln : Int) := by omega
      have HO : Hid _ := over_anyX (-7) pA L.length cA _ (ppL L) wr (hA6.keep GR) (by omega)
      have hC7 := hC6.keep GR
      have hB7 := hB6.keep GR
      go_wp2
      (try simp only [Exit.inBlock, Exit.then])
      refine HK6.out _ _ ?_
      clear HK6
      refine wp_seq_k fun K7 hK7 => ?_
      have HK7 : Hid _ := hK7
      clear hK7
      go_wp2_with (go_at_call 8; refine Calls.mono HO.out ?_; rintro e w8 ⟨rfl, G8⟩)
      refine HK7.out _ _ ?_
      clear HK7
      have hC8 := hC7.kept G8 (by
        cases e1 : (Value.slice pC L.length cC).ownBlock with
        | none => exact .inl rfl
        | some y =>
          refine .inr (fun e2 => ?_)
          have h1 := hs2 y e1
          have h2 := hA6.new y e2.symm
          omega)
      have hB8 := hB7.kept G8 (by
        cases e1 : (Value.slice pB L.length cB).ownBlock with
        | none => exact .inl rfl
        | some y =>
          refine .inr (fun e2 => ?_)
          have h1 := hA3l y e2.symm
          have h2 := hB6.new y e1
          omega)
      have HS : Hid _ := sameX_any pB pC cB cC _ _ L w8 hB8 hC8
      go_wp2_with (go_at_call 7; refine Calls.mono HS.out ?_; rintro e w9 ⟨rfl, G9⟩)
      first | go_ret | skip
      exact ⟨rfl, grown_trans (grown_far (grown_trans GW6 GR) G8 (fun y e => Nat.le_trans (grown_trans G1 G2).size (hA6.new y e))) G9⟩
end
end Go.Proofs.Ytpcejajijaphbaa
