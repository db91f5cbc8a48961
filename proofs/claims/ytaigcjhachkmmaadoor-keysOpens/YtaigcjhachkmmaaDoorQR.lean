import Derived.Test.YtaigcjhachkmmaaDoorQOn
namespace Go.Proofs.YtaigcjhachkmmaaDoor
open Go.RowKit
set_option maxRecDepth 100000
set_option linter.unusedVariables false
set_option linter.unusedSimpArgs false
theorem wpAnyZ_twoO {P : Program} {ops : Array Oper} {Q : Exit → Act → World → Prop} {md : Region.Mode} {S : World → Prop} {Z : List Nat} (i j : Nat) {o o' : Oper} {fuel : Nat} {listed : Array Bool} {a : Act} {w : World} (ho : ops[i]? = some o) (ho' : ops[j]? = some o') (hr : (Region.ready md ops listed == [i, j]) = true)
    (h : ∀ K' : Act → World → Prop, (∀ a w, (i ∉ Z → S w) → wpAnyZ P md ops Q S Z fuel (listed.setIfInBounds i true) a w → K' a w) → if Region.wanted o (yielded ops a.tmps) = true then Oper.wp P o a w K' Q else K' (a.put o.dst undef) w)
    (h' : ∀ K' : Act → World → Prop, (∀ a w, (j ∉ Z → S w) → wpAnyZ P md ops Q S Z fuel (listed.setIfInBounds j true) a w → K' a w) → if Region.wanted o' (yielded ops a.tmps) = true then Oper.wp P o' a w K' Q else K' (a.put o'.dst undef) w) :
    wpAnyZ P md ops Q S Z (fuel + 1) listed a w := by
  have hr := eq_of_beq hr
  refine ⟨fun h0 => (by rw [hr] at h0; cases h0), fun k hk => ?_⟩
  rw [hr] at hk
  rcases List.mem_cons.1 hk with e | hk
  · subst e
    exact wpOp_step ho (fun K' hK => h K' (fun a w hS hW => hK a w ⟨hS, hW⟩))
  · have e := List.mem_singleton.1 hk
    subst e
    exact wpOp_step ho' (fun K' hK => h' K' (fun a w hS hW => hK a w ⟨hS, hW⟩))
set_option maxHeartbeats 64000000 in
theorem open_any (a : Option Addr) (n c : Nat) (R : List Kd) (b : Option Addr) (nb cb : Nat) (B : List Nat) (w : World) (hL : Lin w) (h : RdG w a n c R) (hb : Rd w b nb cb B) :
    Calls Tryd.prog 9 #[.agg #[.slice a n c], .slice b nb cb] w fun e w' => ∃ (a' : Option Addr) (n' c' : Nat) (ks' : List Kw) (ya : Option Addr) (yn yc : Nat), e = .returned (.tuple #[.agg #[.slice a' n' c'], .slice ya yn yc, .int .i64 (onI R B : Int), .int .i64 (onE R B : Int)]) ∧ OwG w' w.heap.size a' n' c' ks' (onV R B) ∧ Ans w' w.heap.size ya yn yc (onY R B) ∧ w.grownBy w' none := by
  have hlR := h.len
  have hlB := hb.len
  have b0 := BxS.new w 24 #[.slice a n c]
  have g0 := World.grownBy_alloc w (.cells #[.slice a n c] 24) none
  generalize hw0 : w.alloc (.cells #[.slice a n c] 24) = w0 at b0 g0
  have hz0 : w0.heap.size = w.heap.size + 1 := by rw [← hw0]; simp
  have b1 := BxS.new w0 24 #[.slice none 0 0]
  have g1 := World.grownBy_alloc w0 (.cells #[.slice none 0 0] 24) none
  generalize hw1 : w0.alloc (.cells #[.slice none 0 0] 24) = w1 at b1 g1
  rw [hz0] at b1
  have sz1 : w.heap.size + 2 ≤ w1.heap.size := by rw [← hw1]; simp [hz0]
  have p0 := b0.keep g1 (by simp)
  have G1 := grown_trans g0 g1
  have x0 : w1.cell? ⟨w.heap.size, 0, none⟩ = some (.slice a n c) := p0.cell 0 (by show 0 < 1; decide)
  have i1 := Tryd.info_rg1
  have s0 : True := trivial
  have kM := ringMayBe_any a n c R w1 (h.keep G1)
  cases hB : rmB R with
  | false =>
    have e1 : onE R B = 11 := by unfold onE; rw [hB]; rfl
    have HE : Hid (onE R B = 11) := e1
    have HV : Hid (onV R B = []) := by show _ = _; unfold onV; rw [hB]; rfl
    have HY : Hid (onY R B = []) := by show _ = _; unfold onY; rw [e1]; rfl
    have HI : Hid (onI R B = 0) := by show _ = _; unfold onI; rw [e1]; rfl
    rw [hB] at kM
    clear e1
    go_enter Tryd.func9, Tryd.ntmps9
    go_wp2_with (first
      | (go_at_call 20; have _t := s0; clear s0; refine kM.mono ?_; rintro e w2 ⟨rfl, y2⟩; have q0 := p0.keep y2 (by simp); have q1 := b1.keep y2 (by simp); have z2 := y2.size; clear x0; have x0 : w2.cell? ⟨w.heap.size, 0, none⟩ = some (.slice a n c) := q0.cell 0 (by show 0 < 1; decide); have s1 : True := trivial)
      | (have _t := s1; clear s1; refine wpList_stX _ rfl _ (.tmp 4) (.tmp 16) rfl (w.heap.size + 1) _ _ rfl rfl q1 i1 rfl (by simp [Value.oneCell']) ?_; intro w9 b9 u9; skip))
    refine bodyPost_ret (results_cell4 rfl _ _ _ ⟨w.heap.size + 1, 0, none⟩ _ (.slice none 0 0) (.int .i64 0) (.int .i64 11) rfl (BxS.load (t := 24) b9 Tryd.underlying24 i1) rfl rfl rfl) rfl ?_
    rw [HV.out, HE.out, HY.out, HI.out]
    have GF := grown_far (grown_trans G1 y2) u9 (fun q e => by have e := Option.some.inj e; omega)
    exact ⟨none, 0, 0, [], none, 0, 0, rfl, OwG.nil _ _, ansN _ _, GF⟩
  | true =>
    obtain ⟨hl8, hw8⟩ := rm_ok hB
    rw [hB] at kM
    have kC := fun wz hz => copyRing_any a n c R wz hz (fun k hk => by rw [hw8 k hk]; decide) (by omega)
    have kW := fun wz => ywithin_any (nb : Int) 15 1015 wz
    cases hk15 : kwB (nb : Int) 15 1015 with
    | false =>
      obtain ⟨HV, HE, HY, HI⟩ := on_bad (R := R) (B := B) (e := 1) (by unfold onE; rw [hB, hlB, hk15]; rfl) (by decide) hB
      simp only [hk15] at kW
      go_enter Tryd.func9, Tryd.ntmps9
      go_wp2_with (first
        | (go_at_call 20; have _t := s0; clear s0; refine kM.mono ?_; rintro e w2 ⟨rfl, y2⟩; have q0 := p0.keep y2 (by simp); have q1 := b1.keep y2 (by simp); have z2 := y2.size; clear x0; have x0 : w2.cell? ⟨w.heap.size, 0, none⟩ = some (.slice a n c) := q0.cell 0 (by show 0 < 1; decide); have s1 : True := trivial)
        | (go_at_call 21; have _t := s1; clear s1; refine (kC _ (h.keep (grown_trans G1 y2))).mono ?_; rintro e w3 ⟨a3, c3, ks3, rfl, hO3, y3⟩; have q0 := q0.keep y3 (by simp); have q1 := q1.keep y3 (by simp); have z3 := y3.size; clear x0; have s2 : True := trivial)
        | (have _t := s2; clear s2; refine wpList_stX _ rfl _ (.tmp 2) (.tmp 18) rfl w.heap.size _ _ rfl rfl q0 i1 rfl (by simp [Value.oneCell']) ?_; intro w4 q0 u4; have x0 : w4.cell? ⟨w.heap.size, 0, none⟩ = some (.slice a3 n c3) := q0.cell 0 (by show 0 < 1; decide); have hO4 := hO3.far u4 (by omega); have q1 := q1.keep u4 (fun e => by have e := Option.some.inj e; omega); have G4 := grown_far (grown_trans (grown_trans G1 y2) y3) u4 (fun q e => by have e := Option.some.inj e; omega); have z4 := u4.size; have s3 : True := trivial)
        | (go_at_call 22; have _t := s3; clear s3; refine (kW _).mono ?_; rintro e w5 ⟨rfl, hw5⟩; have hw5 := hw5.symm; subst hw5; have s4 : True := trivial)
        | (have _t := s4; clear s4; refine wpList_stX _ rfl _ (.tmp 4) (.tmp 23) rfl (w.heap.size + 1) _ _ rfl rfl q1 i1 rfl (by simp [Value.oneCell']) ?_; intro w9 b9 u9; skip))
      refine bodyPost_ret (results_cell4 rfl _ _ _ ⟨w.heap.size + 1, 0, none⟩ _ (.slice none 0 0) (.int .i64 0) (.int .i64 1) rfl (BxS.load (t := 24) b9 Tryd.underlying24 i1) rfl rfl rfl) rfl ?_
      rw [HV.out, HE.out, HY.out, HI.out]
      have hF := hO4.far u9 (by omega)
      have GF := grown_far G4 u9 (fun q e => by have e := Option.some.inj e; omega)
      first | exact ⟨_, _, _, _, none, 0, 0, rfl, hF.wide (by omega), ansN _ _, GF⟩ | (refine ⟨_, _, _, none, 0, 0, ?_⟩; exact ⟨rfl, ⟨_, hF.wide (by omega)⟩, ansN _ _, GF⟩)
    | true =>
      have hkk := kwB_ok hk15
      simp only [hk15] at kW
      obtain ⟨m, rfl⟩ : ∃ m, nb = m + 8 := ⟨nb - 8, by omega⟩
      obtain ⟨bb, ob, rfl, _, _⟩ := hb.at' (by omega)
      have hle := hb.le
      have hmx := hb.max
      have hmm : maxLen ≤ 9223372036854775807 := by decide
      have m1 : (m : Int) + 8 ≤ (cb : Int) := by omega
      have m2 : (m : Int) ≤ (cb : Int) := by omega
      have m3 : ¬ cb = m := by omega
      have m4 : ¬ cb = 1 := by omega
      have m5 : ¬ cb = 7 := by omega
      have m6 : (7 : Int) ≤ (cb : Int) := by omega
      have m7 : (7 : Int) ≤ (m : Int) := by omega
      have m8 : (7 : Int) ≤ (m : Int) + 8 := by omega
      have m9 : ¬ (m : Int) + 8 ≤ 0 := by omega
      have m10 : (0 : Int) < (m : Int) + 8 := by omega
      have m11 : (1 : Int) ≤ (cb : Int) := by omega
      clear hmm hmx
      obtain ⟨cN, hcN⟩ : ∃ cN : Nat, nuN ((B.drop 1).take 6) 6 = cN := ⟨_, rfl⟩
      have HcN : Hid (nuN ((B.drop 1).take 6) 6 = cN) := hcN
      have hcl : cN < 281474976710656 := by rw [← hcN]; exact nuN_lt (fun x hx => hb.byte x (List.mem_of_mem_drop (List.mem_of_mem_take hx))) 6
      have hwc : wrap64 (cN : Int) = (cN : Int) := wrap64_nat cN (Nat.lt_trans hcl (by decide))
      have hwd : IntKind.i64.wrap (cN : Int) = (cN : Int) := wrap_iz _ hcl
      have hB0 : nth B 0 < 256 := hb.byte.nth 0
      have hwe : IntKind.i64.wrap (nth B 0 : Int) = (nth B 0 : Int) := wrap_iz _ (Nat.lt_trans hB0 (by decide))
      have kF := fun a' c' wz hz => find_any a' n c' R (nth B 0 : Int) wz hz
      have HfX : Hid (fiX R (nth B 0 : Int) = if fiN R (nth B 0 : Int) < R.length then (fiN R (nth B 0 : Int) : Int) else -1) := rfl
      clear hcN
      cases hO : drO R (nth B 0 : Int) with
      | false =>
        obtain ⟨HV, HE, HY, HI⟩ := on_bad (R := R) (B := B) (e := 14) (by unfold onE; rw [hB, hlB, hk15, hO]; rfl) (by decide) hB
        have hfx : fiX R (nth B 0 : Int) = -1 := by rw [HfX.out, if_neg (of_decide_eq_false hO)]
        simp only [hfx] at kF
        go_enter Tryd.func9, Tryd.ntmps9
        go_wp2_with (first
          | (go_at_call 20; have _t := s0; clear s0; refine kM.mono ?_; rintro e w2 ⟨rfl, y2⟩; have q0 := p0.keep y2 (by simp); have q1 := b1.keep y2 (by simp); have z2 := y2.size; clear x0; have x0 : w2.cell? ⟨w.heap.size, 0, none⟩ = some (.slice a n c) := q0.cell 0 (by show 0 < 1; decide); have s1 : True := trivial)
          | (go_at_call 21; have _t := s1; clear s1; refine (kC _ (h.keep (grown_trans G1 y2))).mono ?_; rintro e w3 ⟨a3, c3, ks3, rfl, hO3, y3⟩; have q0 := q0.keep y3 (by simp); have q1 := q1.keep y3 (by simp); have z3 := y3.size; clear x0; have s2 : True := trivial)
          | (have _t := s2; clear s2; refine wpList_stX _ rfl _ (.tmp 2) (.tmp 18) rfl w.heap.size _ _ rfl rfl q0 i1 rfl (by simp [Value.oneCell']) ?_; intro w4 q0 u4; have x0 : w4.cell? ⟨w.heap.size, 0, none⟩ = some (.slice a3 n c3) := q0.cell 0 (by show 0 < 1; decide); have hO4 := hO3.far u4 (by omega); have q1 := q1.keep u4 (fun e => by have e := Option.some.inj e; omega); have G4 := grown_far (grown_trans (grown_trans G1 y2) y3) u4 (fun q e => by have e := Option.some.inj e; omega); have z4 := u4.size; have s3 : True := trivial)
          | (go_at_call 22; have _t := s3; clear s3; refine (kW _).mono ?_; rintro e w5 ⟨rfl, hw5⟩; have hw5 := hw5.symm; subst hw5; have s4 : True := trivial))
        go_quiet (fail)
        have yq := grown_drewN w4 nq none
        have q0 := q0.keep yq (by simp)
        have q1 := q1.keep yq (by simp)
        have hO5 := hO4.keep yq
        have G5 := grown_trans G4 yq
        generalize w4.drewN nq = w5 at *
        clear x0
        have hb5 := hb.keep G5
        go_wp2
        have SS := grown_drew w5 none
        refine wp_regionL (fun wz => w5.grownBy wz none) [] #[false, false, false, false, false, false, false, false, false, false] rfl (by kernel_rfl) ?_
        refine wpAnyZ_take [] 0 (.slice (some ⟨bb, ob, none⟩) (m + 8) cb) rfl (by kernel_rfl) (fun _ _ _ h => h) SS rfl (by intro wz hz; have zb : wz.cell? ⟨bb, ob, none⟩ = some (.int .u8 (nth B 0 : Int)) := (by have := ((hb5.keep hz).at' (by omega)); obtain ⟨_, _, e, _, hc⟩ := this; cases e; exact hc 0 (by omega)); go_simp) ?_
        try simp only [List.getElem_toArray, List.getElem_cons_succ, List.getElem_cons_zero, Act.put, List.setIfInBounds_toArray, List.set_cons_zero, List.set_cons_succ]
        refine wpAnyZ_take [] 1 (.pointer (some ⟨bb, ob, none⟩)) rfl (by kernel_rfl) (fun _ _ _ h => h) SS rfl (by intro wz hz; have zb : wz.cell? ⟨bb, ob, none⟩ = some (.int .u8 (nth B 0 : Int)) := (by have := ((hb5.keep hz).at' (by omega)); obtain ⟨_, _, e, _, hc⟩ := this; cases e; exact hc 0 (by omega)); go_simp) ?_
        try simp only [List.getElem_toArray, List.getElem_cons_succ, List.getElem_cons_zero, Act.put, List.setIfInBounds_toArray, List.set_cons_zero, List.set_cons_succ]
        refine wpAnyZ_take [] 2 (.int .u8 (nth B 0 : Int)) rfl (by kernel_rfl) (fun _ _ _ h => h) SS rfl (by intro wz hz; have zb : wz.cell? ⟨bb, ob, none⟩ = some (.int .u8 (nth B 0 : Int)) := (by have := ((hb5.keep hz).at' (by omega)); obtain ⟨_, _, e, _, hc⟩ := this; cases e; exact hc 0 (by omega)); go_simp) ?_
        try simp only [List.getElem_toArray, List.getElem_cons_succ, List.getElem_cons_zero, Act.put, List.setIfInBounds_toArray, List.set_cons_zero, List.set_cons_succ]
        refine wpAnyZ_take [] 3 (.int .i64 (nth B 0 : Int)) rfl (by kernel_rfl) (fun _ _ _ h => h) SS rfl (by intro wz hz; have zb : wz.cell? ⟨bb, ob, none⟩ = some (.int .u8 (nth B 0 : Int)) := (by have := ((hb5.keep hz).at' (by omega)); obtain ⟨_, _, e, _, hc⟩ := this; cases e; exact hc 0 (by omega)); go_simp) ?_
        try simp only [List.getElem_toArray, List.getElem_cons_succ, List.getElem_cons_zero, Act.put, List.setIfInBounds_toArray, List.set_cons_zero, List.set_cons_succ]
        refine wpAnyZ_take [] 4 (.slice (some ⟨bb, ob, none⟩) (m + 8) cb) rfl (by kernel_rfl) (fun _ _ _ h => h) SS rfl (by intro wz hz; have zb : wz.cell? ⟨bb, ob, none⟩ = some (.int .u8 (nth B 0 : Int)) := (by have := ((hb5.keep hz).at' (by omega)); obtain ⟨_, _, e, _, hc⟩ := this; cases e; exact hc 0 (by omega)); go_simp) ?_
        try simp only [List.getElem_toArray, List.getElem_cons_succ, List.getElem_cons_zero, Act.put, List.setIfInBounds_toArray, List.set_cons_zero, List.set_cons_succ]
        refine wpAnyZ_take [] 5 (.slice (some ⟨bb, ob + 1, none⟩) 6 (cb - 1)) rfl (by kernel_rfl) (fun _ _ _ h => h) SS rfl (by intro wz hz; have zb : wz.cell? ⟨bb, ob, none⟩ = some (.int .u8 (nth B 0 : Int)) := (by have := ((hb5.keep hz).at' (by omega)); obtain ⟨_, _, e, _, hc⟩ := this; cases e; exact hc 0 (by omega)); go_simp) ?_
        try simp only [List.getElem_toArray, List.getElem_cons_succ, List.getElem_cons_zero, Act.put, List.setIfInBounds_toArray, List.set_cons_zero, List.set_cons_succ]
        generalize w5.drew = w6 at *
        refine wpAnyZ_oneB 6 rfl (by kernel_rfl) (fun K hK => ?_)
        go_simp
        go_at_call 23
        refine (number_any _ _ _ _ _ ((hb5.keep SS).part' 1 6 (by omega)) (by decide)).mono ?_
        rintro e w7 ⟨rfl, hw7⟩
        dsimp only
        have hw7 := hw7.symm
        subst hw7
        rw [HcN.out]
        refine hK _ _ (fun _ => SS) ?_
        try simp only [List.getElem_toArray, List.getElem_cons_succ, List.getElem_cons_zero, Act.put, List.setIfInBounds_toArray, List.set_cons_zero, List.set_cons_succ]
        refine wpAnyZ_take [] 7 (.int .i64 (cN : Int)) rfl (by kernel_rfl) (fun _ _ _ h => h) SS rfl (by intro wz hz; go_simp) ?_
        try simp only [List.getElem_toArray, List.getElem_cons_succ, List.getElem_cons_zero, Act.put, List.setIfInBounds_toArray, List.set_cons_zero, List.set_cons_succ]
        refine wpAnyZ_take [] 8 (.int .i64 (nth B 0 : Int)) rfl (by kernel_rfl) (fun _ _ _ h => h) SS rfl (by intro wz hz; go_simp) ?_
        try simp only [List.getElem_toArray, List.getElem_cons_succ, List.getElem_cons_zero, Act.put, List.setIfInBounds_toArray, List.set_cons_zero, List.set_cons_succ]
        refine wpAnyZ_take [] 9 (.int .i64 (cN : Int)) rfl (by kernel_rfl) (fun _ _ _ h => h) SS rfl (by intro wz hz; go_simp) ?_
        try simp only [List.getElem_toArray, List.getElem_cons_succ, List.getElem_cons_zero, Act.put, List.setIfInBounds_toArray, List.set_cons_zero, List.set_cons_succ]
        refine wpAnyZ_doneB (by kernel_rfl) ?_ _
        have q0 := q0.keep SS (by simp)
        have q1 := q1.keep SS (by simp)
        have hO6 := hO5.keep SS
        have G6 := grown_trans G5 SS
        have hb6 := hb.keep G6
        have x0 : w6.cell? ⟨w.heap.size, 0, none⟩ = some (.slice a3 n c3) := q0.cell 0 (by show 0 < 1; decide)
        clear yq
        have s4 : True := trivial
        go_wp2_with (first
          | (go_at_call 24; have _t := s4; clear s4; refine (kF _ _ _ hO6.rd).mono ?_; rintro e w7 ⟨rfl, y7⟩; have q0 := q0.keep y7 (by simp); have q1 := q1.keep y7 (by simp); have hO7 := hO6.keep y7; have G7 := grown_trans G6 y7; clear x0; have x0 : w7.cell? ⟨w.heap.size, 0, none⟩ = some (.slice a3 n c3) := q0.cell 0 (by show 0 < 1; decide); have s5 : True := trivial)
          | (have _t := s5; clear s5; refine wpList_stX _ rfl _ (.tmp 4) (.tmp 61) rfl (w.heap.size + 1) _ _ rfl rfl q1 i1 rfl (by simp [Value.oneCell']) ?_; intro w9 b9 u9; skip))
        refine bodyPost_ret (results_cell4 rfl _ _ _ ⟨w.heap.size + 1, 0, none⟩ _ (.slice none 0 0) (.int .i64 0) (.int .i64 14) rfl (BxS.load (t := 24) b9 Tryd.underlying24 i1) rfl rfl rfl) rfl ?_
        rw [HV.out, HE.out, HY.out, HI.out]
        have hF := hO7.far u9 (by omega)
        have GF := grown_far G7 u9 (fun q e => by have e := Option.some.inj e; omega)
        first | exact ⟨_, _, _, _, none, 0, 0, rfl, hF.wide (by omega), ansN _ _, GF⟩ | (refine ⟨_, _, _, none, 0, 0, ?_⟩; exact ⟨rfl, ⟨_, hF.wide (by omega)⟩, ansN _ _, GF⟩)
      | true =>
        have hjl : fiN R (nth B 0 : Int) < R.length := of_decide_eq_true hO
        obtain ⟨j, hj⟩ : ∃ j, fiN R (nth B 0 : Int) = j := ⟨_, rfl⟩
        have hfx : fiX R (nth B 0 : Int) = (j : Int) := by rw [HfX.out, if_pos hjl, hj]
        rw [hj] at hjl
        simp only [hfx] at kF
        have HJ : Hid (fiN R (nth B 0 : Int) = j) := hj
        obtain ⟨hk8, hkw, hkt, hks⟩ := on_key hB hjl
        have HK0 : Hid (onK R B = R.getD j kd0) := by show _ = _; unfold onK; rw [hj]
        have HT0 : Hid (onT R B = decide (B.drop m = tagL (onW R B) cN (B.take m))) := by show _ = _; unfold onT onC; rw [HcN.out, hlB, Nat.add_sub_cancel]
        have hbT : ∀ wz, w.grownBy wz none → Rd wz (some ⟨bb, ob, none⟩) m cb (B.take m) := fun wz hz => by have := (hb.keep hz).part' 0 m (by omega); simpa using this
        have hbG : ∀ wz, w.grownBy wz none → Rd wz (some ⟨bb, ob + m, none⟩) 8 (cb - m) (B.drop m) := fun wz hz => by
          have := (hb.keep hz).part' m 8 (by omega)
          rwa [List.take_of_length_le (by rw [List.length_drop]; omega)] at this
        clear hj
        go_enter Tryd.func9, Tryd.ntmps9
        go_wp2_with (first
          | (go_at_call 20; have _t := s0; clear s0; refine kM.mono ?_; rintro e w2 ⟨rfl, y2⟩; have q0 := p0.keep y2 (by simp); have q1 := b1.keep y2 (by simp); have z2 := y2.size; clear x0; have x0 : w2.cell? ⟨w.heap.size, 0, none⟩ = some (.slice a n c) := q0.cell 0 (by show 0 < 1; decide); have s1 : True := trivial)
          | (go_at_call 21; have _t := s1; clear s1; refine (kC _ (h.keep (grown_trans G1 y2))).mono ?_; rintro e w3 ⟨a3, c3, ks3, rfl, hO3, y3⟩; have q0 := q0.keep y3 (by simp); have q1 := q1.keep y3 (by simp); have z3 := y3.size; clear x0; have s2 : True := trivial)
          | (have _t := s2; clear s2; refine wpList_stX _ rfl _ (.tmp 2) (.tmp 18) rfl w.heap.size _ _ rfl rfl q0 i1 rfl (by simp [Value.oneCell']) ?_; intro w4 q0 u4; have x0 : w4.cell? ⟨w.heap.size, 0, none⟩ = some (.slice a3 n c3) := q0.cell 0 (by show 0 < 1; decide); have hO4 := hO3.far u4 (by omega); have q1 := q1.keep u4 (fun e => by have e := Option.some.inj e; omega); have G4 := grown_far (grown_trans (grown_trans G1 y2) y3) u4 (fun q e => by have e := Option.some.inj e; omega); have z4 := u4.size; have s3 : True := trivial)
          | (go_at_call 22; have _t := s3; clear s3; refine (kW _).mono ?_; rintro e w5 ⟨rfl, hw5⟩; have hw5 := hw5.symm; subst hw5; have s4 : True := trivial))
        go_quiet (fail)
        have yq := grown_drewN w4 nq none
        have q0 := q0.keep yq (by simp)
        have q1 := q1.keep yq (by simp)
        have hO5 := hO4.keep yq
        have G5 := grown_trans G4 yq
        generalize w4.drewN nq = w5 at *
        clear x0
        have hb5 := hb.keep G5
        go_wp2
        have SS := grown_drew w5 none
        refine wp_regionL (fun wz => w5.grownBy wz none) [] #[false, false, false, false, false, false, false, false, false, false] rfl (by kernel_rfl) ?_
        refine wpAnyZ_take [] 0 (.slice (some ⟨bb, ob, none⟩) (m + 8) cb) rfl (by kernel_rfl) (fun _ _ _ h => h) SS rfl (by intro wz hz; have zb : wz.cell? ⟨bb, ob, none⟩ = some (.int .u8 (nth B 0 : Int)) := (by have := ((hb5.keep hz).at' (by omega)); obtain ⟨_, _, e, _, hc⟩ := this; cases e; exact hc 0 (by omega)); go_simp) ?_
        try simp only [List.getElem_toArray, List.getElem_cons_succ, List.getElem_cons_zero, Act.put, List.setIfInBounds_toArray, List.set_cons_zero, List.set_cons_succ]
        refine wpAnyZ_take [] 1 (.pointer (some ⟨bb, ob, none⟩)) rfl (by kernel_rfl) (fun _ _ _ h => h) SS rfl (by intro wz hz; have zb : wz.cell? ⟨bb, ob, none⟩ = some (.int .u8 (nth B 0 : Int)) := (by have := ((hb5.keep hz).at' (by omega)); obtain ⟨_, _, e, _, hc⟩ := this; cases e; exact hc 0 (by omega)); go_simp) ?_
        try simp only [List.getElem_toArray, List.getElem_cons_succ, List.getElem_cons_zero, Act.put, List.setIfInBounds_toArray, List.set_cons_zero, List.set_cons_succ]
        refine wpAnyZ_take [] 2 (.int .u8 (nth B 0 : Int)) rfl (by kernel_rfl) (fun _ _ _ h => h) SS rfl (by intro wz hz; have zb : wz.cell? ⟨bb, ob, none⟩ = some (.int .u8 (nth B 0 : Int)) := (by have := ((hb5.keep hz).at' (by omega)); obtain ⟨_, _, e, _, hc⟩ := this; cases e; exact hc 0 (by omega)); go_simp) ?_
        try simp only [List.getElem_toArray, List.getElem_cons_succ, List.getElem_cons_zero, Act.put, List.setIfInBounds_toArray, List.set_cons_zero, List.set_cons_succ]
        refine wpAnyZ_take [] 3 (.int .i64 (nth B 0 : Int)) rfl (by kernel_rfl) (fun _ _ _ h => h) SS rfl (by intro wz hz; have zb : wz.cell? ⟨bb, ob, none⟩ = some (.int .u8 (nth B 0 : Int)) := (by have := ((hb5.keep hz).at' (by omega)); obtain ⟨_, _, e, _, hc⟩ := this; cases e; exact hc 0 (by omega)); go_simp) ?_
        try simp only [List.getElem_toArray, List.getElem_cons_succ, List.getElem_cons_zero, Act.put, List.setIfInBounds_toArray, List.set_cons_zero, List.set_cons_succ]
        refine wpAnyZ_take [] 4 (.slice (some ⟨bb, ob, none⟩) (m + 8) cb) rfl (by kernel_rfl) (fun _ _ _ h => h) SS rfl (by intro wz hz; have zb : wz.cell? ⟨bb, ob, none⟩ = some (.int .u8 (nth B 0 : Int)) := (by have := ((hb5.keep hz).at' (by omega)); obtain ⟨_, _, e, _, hc⟩ := this; cases e; exact hc 0 (by omega)); go_simp) ?_
        try simp only [List.getElem_toArray, List.getElem_cons_succ, List.getElem_cons_zero, Act.put, List.setIfInBounds_toArray, List.set_cons_zero, List.set_cons_succ]
        refine wpAnyZ_take [] 5 (.slice (some ⟨bb, ob + 1, none⟩) 6 (cb - 1)) rfl (by kernel_rfl) (fun _ _ _ h => h) SS rfl (by intro wz hz; have zb : wz.cell? ⟨bb, ob, none⟩ = some (.int .u8 (nth B 0 : Int)) := (by have := ((hb5.keep hz).at' (by omega)); obtain ⟨_, _, e, _, hc⟩ := this; cases e; exact hc 0 (by omega)); go_simp) ?_
        try simp only [List.getElem_toArray, List.getElem_cons_succ, List.getElem_cons_zero, Act.put, List.setIfInBounds_toArray, List.set_cons_zero, List.set_cons_succ]
        generalize w5.drew = w6 at *
        refine wpAnyZ_oneB 6 rfl (by kernel_rfl) (fun K hK => ?_)
        go_simp
        go_at_call 23
        refine (number_any _ _ _ _ _ ((hb5.keep SS).part' 1 6 (by omega)) (by decide)).mono ?_
        rintro e w7 ⟨rfl, hw7⟩
        dsimp only
        have hw7 := hw7.symm
        subst hw7
        rw [HcN.out]
        refine hK _ _ (fun _ => SS) ?_
        try simp only [List.getElem_toArray, List.getElem_cons_succ, List.getElem_cons_zero, Act.put, List.setIfInBounds_toArray, List.set_cons_zero, List.set_cons_succ]
        refine wpAnyZ_take [] 7 (.int .i64 (cN : Int)) rfl (by kernel_rfl) (fun _ _ _ h => h) SS rfl (by intro wz hz; go_simp) ?_
        try simp only [List.getElem_toArray, List.getElem_cons_succ, List.getElem_cons_zero, Act.put, List.setIfInBounds_toArray, List.set_cons_zero, List.set_cons_succ]
        refine wpAnyZ_take [] 8 (.int .i64 (nth B 0 : Int)) rfl (by kernel_rfl) (fun _ _ _ h => h) SS rfl (by intro wz hz; go_simp) ?_
        try simp only [List.getElem_toArray, List.getElem_cons_succ, List.getElem_cons_zero, Act.put, List.setIfInBounds_toArray, List.set_cons_zero, List.set_cons_succ]
        refine wpAnyZ_take [] 9 (.int .i64 (cN : Int)) rfl (by kernel_rfl) (fun _ _ _ h => h) SS rfl (by intro wz hz; go_simp) ?_
        try simp only [List.getElem_toArray, List.getElem_cons_succ, List.getElem_cons_zero, Act.put, List.setIfInBounds_toArray, List.set_cons_zero, List.set_cons_succ]
        refine wpAnyZ_doneB (by kernel_rfl) ?_ _
        have q0 := q0.keep SS (by simp)
        have q1 := q1.keep SS (by simp)
        have hO6 := hO5.keep SS
        have G6 := grown_trans G5 SS
        have hb6 := hb.keep G6
        have x0 : w6.cell? ⟨w.heap.size, 0, none⟩ = some (.slice a3 n c3) := q0.cell 0 (by show 0 < 1; decide)
        clear yq
        have s4 : True := trivial
        obtain ⟨kk, hi⟩ : ∃ kk, ks3[j]? = some kk := ⟨_, List.getElem?_eq_getElem (by have := hO6.o.len; omega)⟩
        have hkd : R.getD j kd0 = kk.d := by rw [← hO6.d, List.getD_eq_getElem?_getD, List.getElem?_map, hi]; rfl
        have HK1 : Hid (onK R B = kk.d) := by show _ = _; rw [HK0.out, hkd]
        rw [hkd] at hk8 hkw hkt hks
        clear hkd HK0
        have hmem : kk ∈ ks3 := List.mem_of_getElem? hi
        have hkn : kk.n = 8 := by rw [← (hO6.o.each kk hmem).len]; exact hk8
        obtain ⟨ki, ka, kn, kc, kW, kt, ksn⟩ := kk
        have hkn : kn = 8 := hkn
        subst hkn
        obtain ⟨s, rfl⟩ : ∃ s : Nat, ksn = (s : Int) := ⟨ksn.toNat, by have : 0 ≤ ksn := hks.1; omega⟩
        have hs2 : s < 4611686018427387904 := Int.ofNat_lt.1 hks.2
        have hkt : -1 ≤ kt ∧ kt ≤ 281474976710655 := hkt
        have HK : Hid (onK R B = ⟨ki, kW, kt, (s : Int)⟩) := HK1.out
        have hWW : ∀ i, i < 8 → nthI kW i = (onW R B i : Int) ∧ onW R B i < 4294967296 := by
          intro i hi8
          have h1 : 0 ≤ nthI kW i ∧ nthI kW i ≤ 4294967295 := hkw i hi8
          have h2 : onW R B i = (nthI kW i).toNat := by unfold onW; rw [HK.out]
          rw [h2]; omega
        clear HK1 hkw hks hk8
        obtain ⟨g3, rfl⟩ := hO6.o.someK (by omega)
        have hjn : (j : Int) < (n : Int) := by omega
        have hj0 : ¬ (j : Int) < 0 := by omega
        have hjx : ¬ (n : Int) ≤ (j : Int) := by omega
        obtain ⟨t0, t1, t2, t3⟩ := hO6.o.rd.four hi
        rw [Nat.zero_add] at t0 t1 t2 t3
        dsimp only at t0 t1 t2 t3
        cases hT : onT R B with
        | false =>
          have HTd : Hid (decide (B.drop m = tagL (onW R B) cN (B.take m)) = false) := HT0.out.symm.trans hT
          obtain ⟨HV, HE, HY, HI⟩ := on_bad (R := R) (B := B) (e := 14) (by unfold onE; rw [hB, hlB, hk15, hO, hT]; rfl) (by decide) hB
          go_wp2_with (first
            | (go_at_call 24; have _t := s4; clear s4; refine (kF _ _ _ hO6.rd).mono ?_; rintro e w7 ⟨rfl, y7⟩; have q0 := q0.keep y7 (by simp); have q1 := q1.keep y7 (by simp); have hO7 := hO6.keep y7; have G7 := grown_trans G6 y7; clear x0; have x0 : w7.cell? ⟨w.heap.size, 0, none⟩ = some (.slice (some ⟨g3, 0, none⟩) n c3) := q0.cell 0 (by show 0 < 1; decide); clear t0 t1 t2 t3; obtain ⟨t0, t1, t2, t3⟩ := hO7.o.rd.four hi; rw [Nat.zero_add] at t0 t1 t2 t3; dsimp only at t0 t1 t2 t3; have s5 : True := trivial)
            | (go_at_call 26; have _t := s5; clear s5; refine (tagOf_any ka _ kc cN m cb kW (onW R B) (B.take m) _ (hL.keep G7) (hO7.o.each _ hmem).rd hWW hcl (hbT _ G7) (by omega)).mono ?_; rintro e w8 ⟨a8, c8, rfl, hA8, y8⟩; have q0 := q0.keep y8 (by simp); have q1 := q1.keep y8 (by simp); have hO8 := hO7.keep y8; have G8 := grown_trans G7 y8; clear x0; have x0 : w8.cell? ⟨w.heap.size, 0, none⟩ = some (.slice (some ⟨g3, 0, none⟩) n c3) := q0.cell 0 (by show 0 < 1; decide); clear t0 t1 t2 t3; obtain ⟨t0, t1, t2, t3⟩ := hO8.o.rd.four hi; rw [Nat.zero_add] at t0 t1 t2 t3; dsimp only at t0 t1 t2 t3; have s6 : True := trivial)
            | (go_at_call 25; have _t := s6; clear s6; refine (equalB_any _ _ _ _ _ _ (B.drop m) (tagL (onW R B) cN (B.take m)) _ (hbG _ G8) hA8.rd).mono ?_; rintro e w10 ⟨rfl, y10⟩; rw [HTd.out]; have q0 := q0.keep y10 (by simp); have q1 := q1.keep y10 (by simp); have hO10 := hO8.keep y10; have G10 := grown_trans G8 y10; clear x0; have x0 : w10.cell? ⟨w.heap.size, 0, none⟩ = some (.slice (some ⟨g3, 0, none⟩) n c3) := q0.cell 0 (by show 0 < 1; decide); clear t0 t1 t2 t3; obtain ⟨t0, t1, t2, t3⟩ := hO10.o.rd.four hi; rw [Nat.zero_add] at t0 t1 t2 t3; dsimp only at t0 t1 t2 t3; have s7 : True := trivial)
            | (have _t := s7; clear s7; refine wpList_stX _ rfl _ (.tmp 4) (.tmp 61) rfl (w.heap.size + 1) _ _ rfl rfl q1 i1 rfl (by simp [Value.oneCell']) ?_; intro w9 b9 u9; skip))
          refine bodyPost_ret (results_cell4 rfl _ _ _ ⟨w.heap.size + 1, 0, none⟩ _ (.slice none 0 0) (.int .i64 0) (.int .i64 14) rfl (BxS.load (t := 24) b9 Tryd.underlying24 i1) rfl rfl rfl) rfl ?_
          rw [HV.out, HE.out, HY.out, HI.out]
          have hF := hO10.far u9 (by omega)
          have GF := grown_far G10 u9 (fun q e => by have e := Option.some.inj e; omega)
          first | exact ⟨_, _, _, _, none, 0, 0, rfl, hF.wide (by omega), ansN _ _, GF⟩ | (refine ⟨_, _, _, none, 0, 0, ?_⟩; exact ⟨rfl, ⟨_, hF.wide (by omega)⟩, ansN _ _, GF⟩)
        | true =>
          have HTd : Hid (decide (B.drop m = tagL (onW R B) cN (B.take m)) = true) := HT0.out.symm.trans hT
          have HO0 : Hid (oldB (onK R B).tp (onK R B).sn.toNat (onC B) = oldB kt s cN) := by show _ = _; unfold onC; rw [HK.out, HcN.out]; rfl
          cases hD : oldB kt s cN with
          | true =>
            obtain ⟨HV, HE, HY, HI⟩ := on_bad (R := R) (B := B) (e := 13) (by unfold onE; rw [hB, hlB, hk15, hO, hT, HO0.out, hD]; rfl) (by decide) hB
            have kO := fun wz => tooOld_any ⟨ki, ka, 8, kc, kW, kt, (s : Int)⟩ s cN wz hs2 hkt (Nat.le_of_lt_succ hcl)
            dsimp only at kO
            simp only [hD] at kO
            clear hD
            go_wp2_with (first
              | (go_at_call 24; have _t := s4; clear s4; refine (kF _ _ _ hO6.rd).mono ?_; rintro e w7 ⟨rfl, y7⟩; have q0 := q0.keep y7 (by simp); have q1 := q1.keep y7 (by simp); have hO7 := hO6.keep y7; have G7 := grown_trans G6 y7; clear x0; have x0 : w7.cell? ⟨w.heap.size, 0, none⟩ = some (.slice (some ⟨g3, 0, none⟩) n c3) := q0.cell 0 (by show 0 < 1; decide); clear t0 t1 t2 t3; obtain ⟨t0, t1, t2, t3⟩ := hO7.o.rd.four hi; rw [Nat.zero_add] at t0 t1 t2 t3; dsimp only at t0 t1 t2 t3; have s5 : True := trivial)
              | (go_at_call 26; have _t := s5; clear s5; refine (tagOf_any ka _ kc cN m cb kW (onW R B) (B.take m) _ (hL.keep G7) (hO7.o.each _ hmem).rd hWW hcl (hbT _ G7) (by omega)).mono ?_; rintro e w8 ⟨a8, c8, rfl, hA8, y8⟩; have q0 := q0.keep y8 (by simp); have q1 := q1.keep y8 (by simp); have hO8 := hO7.keep y8; have G8 := grown_trans G7 y8; clear x0; have x0 : w8.cell? ⟨w.heap.size, 0, none⟩ = some (.slice (some ⟨g3, 0, none⟩) n c3) := q0.cell 0 (by show 0 < 1; decide); clear t0 t1 t2 t3; obtain ⟨t0, t1, t2, t3⟩ := hO8.o.rd.four hi; rw [Nat.zero_add] at t0 t1 t2 t3; dsimp only at t0 t1 t2 t3; have s6 : True := trivial)
              | (go_at_call 25; have _t := s6; clear s6; refine (equalB_any _ _ _ _ _ _ (B.drop m) (tagL (onW R B) cN (B.take m)) _ (hbG _ G8) hA8.rd).mono ?_; rintro e w10 ⟨rfl, y10⟩; rw [HTd.out]; have q0 := q0.keep y10 (by simp); have q1 := q1.keep y10 (by simp); have hO10 := hO8.keep y10; have G10 := grown_trans G8 y10; clear x0; have x0 : w10.cell? ⟨w.heap.size, 0, none⟩ = some (.slice (some ⟨g3, 0, none⟩) n c3) := q0.cell 0 (by show 0 < 1; decide); clear t0 t1 t2 t3; obtain ⟨t0, t1, t2, t3⟩ := hO10.o.rd.four hi; rw [Nat.zero_add] at t0 t1 t2 t3; dsimp only at t0 t1 t2 t3; have s7 : True := trivial)
              | (go_at_call 27; have _t := s7; clear s7; refine (kO _).mono ?_; rintro e w11 ⟨rfl, y11⟩; have q0 := q0.keep y11 (by simp); have q1 := q1.keep y11 (by simp); have hO11 := hO10.keep y11; have G11 := grown_trans G10 y11; clear x0; have x0 : w11.cell? ⟨w.heap.size, 0, none⟩ = some (.slice (some ⟨g3, 0, none⟩) n c3) := q0.cell 0 (by show 0 < 1; decide); clear t0 t1 t2 t3; obtain ⟨t0, t1, t2, t3⟩ := hO11.o.rd.four hi; rw [Nat.zero_add] at t0 t1 t2 t3; dsimp only at t0 t1 t2 t3; have s8 : True := trivial)
              | (have _t := s8; clear s8; refine wpList_stX _ rfl _ (.tmp 4) (.tmp 69) rfl (w.heap.size + 1) _ _ rfl rfl q1 i1 rfl (by simp [Value.oneCell']) ?_; intro w9 b9 u9; skip))
            refine bodyPost_ret (results_cell4 rfl _ _ _ ⟨w.heap.size + 1, 0, none⟩ _ (.slice none 0 0) (.int .i64 0) (.int .i64 13) rfl (BxS.load (t := 24) b9 Tryd.underlying24 i1) rfl rfl rfl) rfl ?_
            rw [HV.out, HE.out, HY.out, HI.out]
            have hF := hO11.far u9 (by omega)
            have GF := grown_far G11 u9 (fun q e => by have e := Option.some.inj e; omega)
            first | exact ⟨_, _, _, _, none, 0, 0, rfl, hF.wide (by omega), ansN _ _, GF⟩ | (refine ⟨_, _, _, none, 0, 0, ?_⟩; exact ⟨rfl, ⟨_, hF.wide (by omega)⟩, ansN _ _, GF⟩)
          | false =>
            obtain ⟨hd, hne⟩ := oldB_no hD
            obtain ⟨bT, bS, bI⟩ := op_bd hs2 hkt hcl hd hne
            have kO := fun wz => tooOld_any ⟨ki, ka, 8, kc, kW, kt, (s : Int)⟩ s cN wz hs2 hkt (Nat.le_of_lt_succ hcl)
            dsimp only at kO
            simp only [hD] at kO
            have kP := fun wz => opened_any ⟨ki, ka, 8, kc, kW, kt, (s : Int)⟩ s cN wz hs2 hkt (Nat.le_of_lt_succ hcl) hd hne
            dsimp only at kP
            have HE : Hid (onE R B = 0) := by show _ = _; unfold onE; rw [hB, hlB, hk15, hO, hT, HO0.out, hD]; rfl
            have HV : Hid (onV R B = R.set j ⟨ki, kW, opT kt cN, (opS kt s cN : Int)⟩) := by show _ = _; unfold onV; rw [if_pos hB, if_pos HE.out, HJ.out]; unfold onX onC; rw [HK.out, HcN.out]; rfl
            have HY : Hid (onY R B = cvL (onW R B) cN ((B.take m).drop 7)) := by show _ = _; unfold onY onC; rw [if_pos HE.out, HcN.out, hlB, Nat.add_sub_cancel]
            have HI : Hid (onI R B = nth B 0) := by show _ = _; unfold onI; rw [if_pos HE.out]
            have hbH : ∀ wz, w.grownBy wz none → Rd wz (some ⟨bb, ob + 7, none⟩) (m - 7) (cb - 7) ((B.take m).drop 7) := fun wz hz => by
              have := (hbT wz hz).part' 7 (m - 7) (by omega)
              rwa [List.take_of_length_le (by rw [List.length_drop, List.length_take]; omega)] at this
            clear hD
            go_wp2_with (first
              | (go_at_call 24; have _t := s4; clear s4; refine (kF _ _ _ hO6.rd).mono ?_; rintro e w7 ⟨rfl, y7⟩; have q0 := q0.keep y7 (by simp); have q1 := q1.keep y7 (by simp); have hO7 := hO6.keep y7; have G7 := grown_trans G6 y7; clear x0; have x0 : w7.cell? ⟨w.heap.size, 0, none⟩ = some (.slice (some ⟨g3, 0, none⟩) n c3) := q0.cell 0 (by show 0 < 1; decide); clear t0 t1 t2 t3; obtain ⟨t0, t1, t2, t3⟩ := hO7.o.rd.four hi; rw [Nat.zero_add] at t0 t1 t2 t3; dsimp only at t0 t1 t2 t3; have s5 : True := trivial)
              | (go_at_call 26; have _t := s5; clear s5; refine (tagOf_any ka _ kc cN m cb kW (onW R B) (B.take m) _ (hL.keep G7) (hO7.o.each _ hmem).rd hWW hcl (hbT _ G7) (by omega)).mono ?_; rintro e w8 ⟨a8, c8, rfl, hA8, y8⟩; have q0 := q0.keep y8 (by simp); have q1 := q1.keep y8 (by simp); have hO8 := hO7.keep y8; have G8 := grown_trans G7 y8; clear x0; have x0 : w8.cell? ⟨w.heap.size, 0, none⟩ = some (.slice (some ⟨g3, 0, none⟩) n c3) := q0.cell 0 (by show 0 < 1; decide); clear t0 t1 t2 t3; obtain ⟨t0, t1, t2, t3⟩ := hO8.o.rd.four hi; rw [Nat.zero_add] at t0 t1 t2 t3; dsimp only at t0 t1 t2 t3; have s6 : True := trivial)
              | (go_at_call 25; have _t := s6; clear s6; refine (equalB_any _ _ _ _ _ _ (B.drop m) (tagL (onW R B) cN (B.take m)) _ (hbG _ G8) hA8.rd).mono ?_; rintro e w10 ⟨rfl, y10⟩; rw [HTd.out]; have q0 := q0.keep y10 (by simp); have q1 := q1.keep y10 (by simp); have hO10 := hO8.keep y10; have G10 := grown_trans G8 y10; clear x0; have x0 : w10.cell? ⟨w.heap.size, 0, none⟩ = some (.slice (some ⟨g3, 0, none⟩) n c3) := q0.cell 0 (by show 0 < 1; decide); clear t0 t1 t2 t3; obtain ⟨t0, t1, t2, t3⟩ := hO10.o.rd.four hi; rw [Nat.zero_add] at t0 t1 t2 t3; dsimp only at t0 t1 t2 t3; have s7 : True := trivial)
              | (go_at_call 27; have _t := s7; clear s7; refine (kO _).mono ?_; rintro e w11 ⟨rfl, y11⟩; have q0 := q0.keep y11 (by simp); have q1 := q1.keep y11 (by simp); have hO11 := hO10.keep y11; have G11 := grown_trans G10 y11; clear x0; have x0 : w11.cell? ⟨w.heap.size, 0, none⟩ = some (.slice (some ⟨g3, 0, none⟩) n c3) := q0.cell 0 (by show 0 < 1; decide); clear t0 t1 t2 t3; obtain ⟨t0, t1, t2, t3⟩ := hO11.o.rd.four hi; rw [Nat.zero_add] at t0 t1 t2 t3; dsimp only at t0 t1 t2 t3; have s8 : True := trivial))
            have SS := grown_drew w11 none
            refine wp_regionL (fun wz => w11.grownBy wz none) [11] #[false, false, false, false, false, false, false, false, false, false, false, false] rfl (by kernel_rfl) ?_
            refine wpAnyZ_take [11] 0 (.pointer (some ⟨w.heap.size, 0, none⟩)) rfl (by kernel_rfl) (fun _ _ _ h => h) SS rfl (by intro wz hz; have zx : wz.cell? ⟨w.heap.size, 0, none⟩ = some (.slice (some ⟨g3, 0, none⟩) n c3) := (q0.keep hz (by simp)).cell 0 (by show 0 < 1; decide); obtain ⟨y0, y1, y2', y3'⟩ := (hO11.keep hz).o.rd.four hi; rw [Nat.zero_add] at y0 y1 y2' y3'; dsimp only at y0 y1 y2' y3'; go_simp) ?_
            try simp only [List.getElem_toArray, List.getElem_cons_succ, List.getElem_cons_zero, Act.put, List.setIfInBounds_toArray, List.set_cons_zero, List.set_cons_succ]
            refine wpAnyZ_take [11] 1 (.slice (some ⟨g3, 0, none⟩) n c3) rfl (by kernel_rfl) (fun _ _ _ h => h) SS rfl (by intro wz hz; have zx : wz.cell? ⟨w.heap.size, 0, none⟩ = some (.slice (some ⟨g3, 0, none⟩) n c3) := (q0.keep hz (by simp)).cell 0 (by show 0 < 1; decide); obtain ⟨y0, y1, y2', y3'⟩ := (hO11.keep hz).o.rd.four hi; rw [Nat.zero_add] at y0 y1 y2' y3'; dsimp only at y0 y1 y2' y3'; go_simp) ?_
            try simp only [List.getElem_toArray, List.getElem_cons_succ, List.getElem_cons_zero, Act.put, List.setIfInBounds_toArray, List.set_cons_zero, List.set_cons_succ]
            refine wpAnyZ_take [11] 2 (.int .i64 (j : Int)) rfl (by kernel_rfl) (fun _ _ _ h => h) SS rfl (by intro wz hz; have zx : wz.cell? ⟨w.heap.size, 0, none⟩ = some (.slice (some ⟨g3, 0, none⟩) n c3) := (q0.keep hz (by simp)).cell 0 (by show 0 < 1; decide); obtain ⟨y0, y1, y2', y3'⟩ := (hO11.keep hz).o.rd.four hi; rw [Nat.zero_add] at y0 y1 y2' y3'; dsimp only at y0 y1 y2' y3'; go_simp) ?_
            try simp only [List.getElem_toArray, List.getElem_cons_succ, List.getElem_cons_zero, Act.put, List.setIfInBounds_toArray, List.set_cons_zero, List.set_cons_succ]
            refine wpAnyZ_take [11] 3 (.pointer (some ⟨w.heap.size, 0, none⟩)) rfl (by kernel_rfl) (fun _ _ _ h => h) SS rfl (by intro wz hz; have zx : wz.cell? ⟨w.heap.size, 0, none⟩ = some (.slice (some ⟨g3, 0, none⟩) n c3) := (q0.keep hz (by simp)).cell 0 (by show 0 < 1; decide); obtain ⟨y0, y1, y2', y3'⟩ := (hO11.keep hz).o.rd.four hi; rw [Nat.zero_add] at y0 y1 y2' y3'; dsimp only at y0 y1 y2' y3'; go_simp) ?_
            try simp only [List.getElem_toArray, List.getElem_cons_succ, List.getElem_cons_zero, Act.put, List.setIfInBounds_toArray, List.set_cons_zero, List.set_cons_succ]
            refine wpAnyZ_take [11] 4 (.slice (some ⟨g3, 0, none⟩) n c3) rfl (by kernel_rfl) (fun _ _ _ h => h) SS rfl (by intro wz hz; have zx : wz.cell? ⟨w.heap.size, 0, none⟩ = some (.slice (some ⟨g3, 0, none⟩) n c3) := (q0.keep hz (by simp)).cell 0 (by show 0 < 1; decide); obtain ⟨y0, y1, y2', y3'⟩ := (hO11.keep hz).o.rd.four hi; rw [Nat.zero_add] at y0 y1 y2' y3'; dsimp only at y0 y1 y2' y3'; go_simp) ?_
            try simp only [List.getElem_toArray, List.getElem_cons_succ, List.getElem_cons_zero, Act.put, List.setIfInBounds_toArray, List.set_cons_zero, List.set_cons_succ]
            refine wpAnyZ_take [11] 5 (.int .i64 (j : Int)) rfl (by kernel_rfl) (fun _ _ _ h => h) SS rfl (by intro wz hz; have zx : wz.cell? ⟨w.heap.size, 0, none⟩ = some (.slice (some ⟨g3, 0, none⟩) n c3) := (q0.keep hz (by simp)).cell 0 (by show 0 < 1; decide); obtain ⟨y0, y1, y2', y3'⟩ := (hO11.keep hz).o.rd.four hi; rw [Nat.zero_add] at y0 y1 y2' y3'; dsimp only at y0 y1 y2' y3'; go_simp) ?_
            try simp only [List.getElem_toArray, List.getElem_cons_succ, List.getElem_cons_zero, Act.put, List.setIfInBounds_toArray, List.set_cons_zero, List.set_cons_succ]
            refine wpAnyZ_take [11] 6 (.pointer (some ⟨g3, j * 4, none⟩)) rfl (by kernel_rfl) (fun _ _ _ h => h) SS rfl (by intro wz hz; have zx : wz.cell? ⟨w.heap.size, 0, none⟩ = some (.slice (some ⟨g3, 0, none⟩) n c3) := (q0.keep hz (by simp)).cell 0 (by show 0 < 1; decide); obtain ⟨y0, y1, y2', y3'⟩ := (hO11.keep hz).o.rd.four hi; rw [Nat.zero_add] at y0 y1 y2' y3'; dsimp only at y0 y1 y2' y3'; go_simp) ?_
            try simp only [List.getElem_toArray, List.getElem_cons_succ, List.getElem_cons_zero, Act.put, List.setIfInBounds_toArray, List.set_cons_zero, List.set_cons_succ]
            refine wpAnyZ_take [11] 7 (.agg #[.int .i64 ki, .slice ka 8 kc, .int .i64 kt, .int .i64 (s : Int)]) rfl (by kernel_rfl) (fun _ _ _ h => h) SS rfl (by intro wz hz; have zx : wz.cell? ⟨w.heap.size, 0, none⟩ = some (.slice (some ⟨g3, 0, none⟩) n c3) := (q0.keep hz (by simp)).cell 0 (by show 0 < 1; decide); obtain ⟨y0, y1, y2', y3'⟩ := (hO11.keep hz).o.rd.four hi; rw [Nat.zero_add] at y0 y1 y2' y3'; dsimp only at y0 y1 y2' y3'; go_simp) ?_
            try simp only [List.getElem_toArray, List.getElem_cons_succ, List.getElem_cons_zero, Act.put, List.setIfInBounds_toArray, List.set_cons_zero, List.set_cons_succ]
            refine wpAnyZ_take [11] 8 (.int .i64 (cN : Int)) rfl (by kernel_rfl) (fun _ _ _ h => h) SS rfl (by intro wz hz; have zx : wz.cell? ⟨w.heap.size, 0, none⟩ = some (.slice (some ⟨g3, 0, none⟩) n c3) := (q0.keep hz (by simp)).cell 0 (by show 0 < 1; decide); obtain ⟨y0, y1, y2', y3'⟩ := (hO11.keep hz).o.rd.four hi; rw [Nat.zero_add] at y0 y1 y2' y3'; dsimp only at y0 y1 y2' y3'; go_simp) ?_
            try simp only [List.getElem_toArray, List.getElem_cons_succ, List.getElem_cons_zero, Act.put, List.setIfInBounds_toArray, List.set_cons_zero, List.set_cons_succ]
            generalize w11.drew = w12 at *
            refine wpAnyZ_oneB 9 rfl (by kernel_rfl) (fun K hK => ?_)
            go_simp
            go_at_call 28
            refine (kP _).mono ?_
            rintro e w13 ⟨rfl, y13⟩
            dsimp only
            refine hK _ _ (fun _ => grown_trans SS y13) ?_
            try simp only [List.getElem_toArray, List.getElem_cons_succ, List.getElem_cons_zero, Act.put, List.setIfInBounds_toArray, List.set_cons_zero, List.set_cons_succ]
            have hO13 := (hO11.keep SS).keep y13
            refine wpAnyZ_take [11] 10 (.pointer (some ⟨g3, j * 4, none⟩)) rfl (by kernel_rfl) (fun _ _ _ h => h) (grown_trans SS y13) rfl (by intro wz hz; have zx : wz.cell? ⟨w.heap.size, 0, none⟩ = some (.slice (some ⟨g3, 0, none⟩) n c3) := (q0.keep hz (by simp)).cell 0 (by show 0 < 1; decide); obtain ⟨y0, y1, y2', y3'⟩ := (hO11.keep hz).o.rd.four hi; rw [Nat.zero_add] at y0 y1 y2' y3'; dsimp only at y0 y1 y2' y3'; go_simp) ?_
            try simp only [List.getElem_toArray, List.getElem_cons_succ, List.getElem_cons_zero, Act.put, List.setIfInBounds_toArray, List.set_cons_zero, List.set_cons_succ]
            refine wpAnyZ_oneB 11 rfl (by kernel_rfl) (fun K hK => ?_)
            refine step_stKy w13 rfl (.tmp 80) (.tmp 79) rfl g3 j n c3 ks3 ⟨ki, ka, 8, kc, kW, opT kt cN, (opS kt s cN : Int)⟩ rfl rfl hO13.o.own hO13.o.len (by omega) ?_
            intro w14 ho14 u14
            refine hK _ _ (fun h => absurd (List.mem_singleton.2 rfl) h) ?_
            try simp only [List.getElem_toArray, List.getElem_cons_succ, List.getElem_cons_zero, Act.put, List.setIfInBounds_toArray, List.set_cons_zero, List.set_cons_succ]
            refine wpAnyZ_doneB (by kernel_rfl) ?_ _
            have hO14 := hO13.setTs (q := ⟨ki, ka, 8, kc, kW, opT kt cN, (opS kt s cN : Int)⟩) hi ⟨rfl, rfl, rfl, rfl⟩ ⟨(hO13.o.bd _ hmem).1, bT, bI⟩ ho14 u14
            have q0 := ((q0.keep SS (by simp)).keep y13 (by simp)).keep u14 (fun e => by have e := Option.some.inj e; have := hO13.o.new g3 rfl; omega)
            have q1 := ((q1.keep SS (by simp)).keep y13 (by simp)).keep u14 (fun e => by have e := Option.some.inj e; have := hO13.o.new g3 rfl; omega)
            have G14 := grown_far (grown_trans (grown_trans G11 SS) y13) u14 (fun q e => by have e := Option.some.inj e; have := hO13.o.new g3 rfl; omega)
            have hi14 : (ks3.set j ⟨ki, ka, 8, kc, kW, opT kt cN, (opS kt s cN : Int)⟩)[j]? = some ⟨ki, ka, 8, kc, kW, opT kt cN, (opS kt s cN : Int)⟩ := List.getElem?_set_self (by rw [hO13.o.len]; omega)
            have hm14 := List.mem_of_getElem? hi14
            clear x0 t0 t1 t2 t3
            go_wp2
            have S4 := grown_drew w14 none
            have G15 := grown_trans G14 S4
            have hO15 := hO14.keep S4
            have p0 := q0.keep S4 (by simp)
            have p1 := q1.keep S4 (by simp)
            have z15 : w.heap.size + 2 ≤ w14.drew.heap.size := by have := hO15.o.hi (x := g3) (.inl rfl); omega
            have SQ := And.intro p0 hO15
            refine wp_regionL (fun wz => BxS wz w.heap.size 24 #[.slice (some ⟨g3, 0, none⟩) n c3] ∧ OwG wz w2.heap.size (some ⟨g3, 0, none⟩) n c3 (ks3.set j ⟨ki, ka, 8, kc, kW, opT kt cN, (opS kt s cN : Int)⟩) (R.set j ⟨ki, kW, opT kt cN, (opS kt s cN : Int)⟩)) [] #[false, false, false, false, false, false, false, false, false, false, false, false, false, false, false, false] rfl (by kernel_rfl) ?_
            refine wpAnyZ_take [] 0 (.agg #[.slice (some ⟨g3, 0, none⟩) n c3]) rfl (by kernel_rfl) (fun _ _ _ h => h) SQ rfl (by intro wz hz; obtain ⟨hz1, hz2⟩ := hz; have zx : wz.cell? ⟨w.heap.size, 0, none⟩ = some (.slice (some ⟨g3, 0, none⟩) n c3) := hz1.cell 0 (by show 0 < 1; decide); obtain ⟨y0, y1, y2', y3'⟩ := hz2.o.rd.four hi14; rw [Nat.zero_add] at y0 y1 y2' y3'; dsimp only at y0 y1 y2' y3'; go_simp) ?_
            try simp only [List.getElem_toArray, List.getElem_cons_succ, List.getElem_cons_zero, Act.put, List.setIfInBounds_toArray, List.set_cons_zero, List.set_cons_succ]
            refine wpAnyZ_take [] 1 (.pointer (some ⟨w.heap.size, 0, none⟩)) rfl (by kernel_rfl) (fun _ _ _ h => h) SQ rfl (by intro wz hz; obtain ⟨hz1, hz2⟩ := hz; have zx : wz.cell? ⟨w.heap.size, 0, none⟩ = some (.slice (some ⟨g3, 0, none⟩) n c3) := hz1.cell 0 (by show 0 < 1; decide); obtain ⟨y0, y1, y2', y3'⟩ := hz2.o.rd.four hi14; rw [Nat.zero_add] at y0 y1 y2' y3'; dsimp only at y0 y1 y2' y3'; go_simp) ?_
            try simp only [List.getElem_toArray, List.getElem_cons_succ, List.getElem_cons_zero, Act.put, List.setIfInBounds_toArray, List.set_cons_zero, List.set_cons_succ]
            refine wpAnyZ_take [] 2 (.slice (some ⟨g3, 0, none⟩) n c3) rfl (by kernel_rfl) (fun _ _ _ h => h) SQ rfl (by intro wz hz; obtain ⟨hz1, hz2⟩ := hz; have zx : wz.cell? ⟨w.heap.size, 0, none⟩ = some (.slice (some ⟨g3, 0, none⟩) n c3) := hz1.cell 0 (by show 0 < 1; decide); obtain ⟨y0, y1, y2', y3'⟩ := hz2.o.rd.four hi14; rw [Nat.zero_add] at y0 y1 y2' y3'; dsimp only at y0 y1 y2' y3'; go_simp) ?_
            try simp only [List.getElem_toArray, List.getElem_cons_succ, List.getElem_cons_zero, Act.put, List.setIfInBounds_toArray, List.set_cons_zero, List.set_cons_succ]
            refine wpAnyZ_take [] 3 (.int .i64 (j : Int)) rfl (by kernel_rfl) (fun _ _ _ h => h) SQ rfl (by intro wz hz; obtain ⟨hz1, hz2⟩ := hz; have zx : wz.cell? ⟨w.heap.size, 0, none⟩ = some (.slice (some ⟨g3, 0, none⟩) n c3) := hz1.cell 0 (by show 0 < 1; decide); obtain ⟨y0, y1, y2', y3'⟩ := hz2.o.rd.four hi14; rw [Nat.zero_add] at y0 y1 y2' y3'; dsimp only at y0 y1 y2' y3'; go_simp) ?_
            try simp only [List.getElem_toArray, List.getElem_cons_succ, List.getElem_cons_zero, Act.put, List.setIfInBounds_toArray, List.set_cons_zero, List.set_cons_succ]
            refine wpAnyZ_take [] 4 (.pointer (some ⟨g3, j * 4, none⟩)) rfl (by kernel_rfl) (fun _ _ _ h => h) SQ rfl (by intro wz hz; obtain ⟨hz1, hz2⟩ := hz; have zx : wz.cell? ⟨w.heap.size, 0, none⟩ = some (.slice (some ⟨g3, 0, none⟩) n c3) := hz1.cell 0 (by show 0 < 1; decide); obtain ⟨y0, y1, y2', y3'⟩ := hz2.o.rd.four hi14; rw [Nat.zero_add] at y0 y1 y2' y3'; dsimp only at y0 y1 y2' y3'; go_simp) ?_
            try simp only [List.getElem_toArray, List.getElem_cons_succ, List.getElem_cons_zero, Act.put, List.setIfInBounds_toArray, List.set_cons_zero, List.set_cons_succ]
            refine wpAnyZ_take [] 5 (.pointer (some ⟨g3, j * 4 + 1, none⟩)) rfl (by kernel_rfl) (fun _ _ _ h => h) SQ rfl (by intro wz hz; obtain ⟨hz1, hz2⟩ := hz; have zx : wz.cell? ⟨w.heap.size, 0, none⟩ = some (.slice (some ⟨g3, 0, none⟩) n c3) := hz1.cell 0 (by show 0 < 1; decide); obtain ⟨y0, y1, y2', y3'⟩ := hz2.o.rd.four hi14; rw [Nat.zero_add] at y0 y1 y2' y3'; dsimp only at y0 y1 y2' y3'; go_simp) ?_
            try simp only [List.getElem_toArray, List.getElem_cons_succ, List.getElem_cons_zero, Act.put, List.setIfInBounds_toArray, List.set_cons_zero, List.set_cons_succ]
            refine wpAnyZ_take [] 6 (.slice ka 8 kc) rfl (by kernel_rfl) (fun _ _ _ h => h) SQ rfl (by intro wz hz; obtain ⟨hz1, hz2⟩ := hz; have zx : wz.cell? ⟨w.heap.size, 0, none⟩ = some (.slice (some ⟨g3, 0, none⟩) n c3) := hz1.cell 0 (by show 0 < 1; decide); obtain ⟨y0, y1, y2', y3'⟩ := hz2.o.rd.four hi14; rw [Nat.zero_add] at y0 y1 y2' y3'; dsimp only at y0 y1 y2' y3'; go_simp) ?_
            try simp only [List.getElem_toArray, List.getElem_cons_succ, List.getElem_cons_zero, Act.put, List.setIfInBounds_toArray, List.set_cons_zero, List.set_cons_succ]
            refine wpAnyZ_take [] 7 (.int .i64 (cN : Int)) rfl (by kernel_rfl) (fun _ _ _ h => h) SQ rfl (by intro wz hz; obtain ⟨hz1, hz2⟩ := hz; have zx : wz.cell? ⟨w.heap.size, 0, none⟩ = some (.slice (some ⟨g3, 0, none⟩) n c3) := hz1.cell 0 (by show 0 < 1; decide); obtain ⟨y0, y1, y2', y3'⟩ := hz2.o.rd.four hi14; rw [Nat.zero_add] at y0 y1 y2' y3'; dsimp only at y0 y1 y2' y3'; go_simp) ?_
            try simp only [List.getElem_toArray, List.getElem_cons_succ, List.getElem_cons_zero, Act.put, List.setIfInBounds_toArray, List.set_cons_zero, List.set_cons_succ]
            refine wpAnyZ_take [] 8 (.slice (some ⟨bb, ob, none⟩) m cb) rfl (by kernel_rfl) (fun _ _ _ h => h) SQ rfl (by intro wz hz; obtain ⟨hz1, hz2⟩ := hz; have zx : wz.cell? ⟨w.heap.size, 0, none⟩ = some (.slice (some ⟨g3, 0, none⟩) n c3) := hz1.cell 0 (by show 0 < 1; decide); obtain ⟨y0, y1, y2', y3'⟩ := hz2.o.rd.four hi14; rw [Nat.zero_add] at y0 y1 y2' y3'; dsimp only at y0 y1 y2' y3'; go_simp) ?_
            try simp only [List.getElem_toArray, List.getElem_cons_succ, List.getElem_cons_zero, Act.put, List.setIfInBounds_toArray, List.set_cons_zero, List.set_cons_succ]
            refine wpAnyZ_take [] 9 (.slice (some ⟨bb, ob + 7, none⟩) (m - 7) (cb - 7)) rfl (by kernel_rfl) (fun _ _ _ h => h) SQ rfl (by intro wz hz; obtain ⟨hz1, hz2⟩ := hz; have zx : wz.cell? ⟨w.heap.size, 0, none⟩ = some (.slice (some ⟨g3, 0, none⟩) n c3) := hz1.cell 0 (by show 0 < 1; decide); obtain ⟨y0, y1, y2', y3'⟩ := hz2.o.rd.four hi14; rw [Nat.zero_add] at y0 y1 y2' y3'; dsimp only at y0 y1 y2' y3'; go_simp) ?_
            try simp only [List.getElem_toArray, List.getElem_cons_succ, List.getElem_cons_zero, Act.put, List.setIfInBounds_toArray, List.set_cons_zero, List.set_cons_succ]
            refine wpAnyZ_take [] 11 (.int .i64 (nth B 0 : Int)) rfl (by kernel_rfl) (fun _ _ _ h => h) SQ rfl (by intro wz hz; obtain ⟨hz1, hz2⟩ := hz; have zx : wz.cell? ⟨w.heap.size, 0, none⟩ = some (.slice (some ⟨g3, 0, none⟩) n c3) := hz1.cell 0 (by show 0 < 1; decide); obtain ⟨y0, y1, y2', y3'⟩ := hz2.o.rd.four hi14; rw [Nat.zero_add] at y0 y1 y2' y3'; dsimp only at y0 y1 y2' y3'; go_simp) ?_
            try simp only [List.getElem_toArray, List.getElem_cons_succ, List.getElem_cons_zero, Act.put, List.setIfInBounds_toArray, List.set_cons_zero, List.set_cons_succ]
            generalize w14.drew = w15 at *
            refine wpAnyZ_oneB 10 rfl (by kernel_rfl) (fun K hK => ?_)
            go_simp
            go_at_call 29
            refine (hide_any ka _ kc cN (m - 7) (cb - 7) kW (onW R B) ((B.take m).drop 7) _ (hL.keep G15) (hO15.o.each _ hm14).rd hWW hcl (hbH _ G15) (by omega)).mono ?_
            rintro e w16 ⟨a16, c16, rfl, hA16, y16⟩
            dsimp only
            have SX := And.intro (p0.keep y16 (by simp)) (hO15.keep y16)
            refine hK _ _ (fun _ => SX) ?_
            try simp only [List.getElem_toArray, List.getElem_cons_succ, List.getElem_cons_zero, Act.put, List.setIfInBounds_toArray, List.set_cons_zero, List.set_cons_succ]
            refine wpAnyZ_oneB 12 rfl (by kernel_rfl) (fun K hK => ?_)
            refine step_stX _ rfl 24 (.tmp 4) (.tmp 81) rfl (w.heap.size + 1) _ _ rfl rfl (p1.keep y16 (by simp)) i1 rfl (by simp [Value.oneCell']) ?_
            intro w9 b9 u9
            have hO9 := (hO15.keep y16).far u9 (by omega)
            have SX : _ ∧ _ := ⟨SX.1.keep u9 (fun e => by have e := Option.some.inj e; omega), hO9⟩
            refine hK _ _ (fun _ => SX) ?_
            try simp only [List.getElem_toArray, List.getElem_cons_succ, List.getElem_cons_zero, Act.put, List.setIfInBounds_toArray, List.set_cons_zero, List.set_cons_succ]
            refine wpAnyZ_take [] 13 (.slice a16 (m - 7) c16) rfl (by kernel_rfl) (fun _ _ _ h => h) SX rfl (by intro wz hz; go_simp) ?_
            try simp only [List.getElem_toArray, List.getElem_cons_succ, List.getElem_cons_zero, Act.put, List.setIfInBounds_toArray, List.set_cons_zero, List.set_cons_succ]
            refine wpAnyZ_take [] 14 (.int .i64 (nth B 0 : Int)) rfl (by kernel_rfl) (fun _ _ _ h => h) SX rfl (by intro wz hz; go_simp) ?_
            try simp only [List.getElem_toArray, List.getElem_cons_succ, List.getElem_cons_zero, Act.put, List.setIfInBounds_toArray, List.set_cons_zero, List.set_cons_succ]
            refine wpAnyZ_take [] 15 (.int .i64 0) rfl (by kernel_rfl) (fun _ _ _ h => h) SX rfl (by intro wz hz; go_simp) ?_
            try simp only [List.getElem_toArray, List.getElem_cons_succ, List.getElem_cons_zero, Act.put, List.setIfInBounds_toArray, List.set_cons_zero, List.set_cons_succ]
            refine wpAnyZ_doneB (by kernel_rfl) ?_ _
            have GF := grown_far (grown_trans G15 y16) u9 (fun q e => by have e := Option.some.inj e; omega)
            have hY9 := hA16.kept u9 (by
              cases e : (Value.slice a16 (m - 7) c16).ownBlock with
              | none => exact .inl rfl
              | some y => exact .inr (fun e2 => by have := hA16.new y e; have e2 := Option.some.inj e2; omega))
            go_wp2
            refine bodyPost_ret (results_cell4 rfl _ _ _ ⟨w.heap.size + 1, 0, none⟩ _ (.slice a16 (m - 7) c16) (.int .i64 (nth B 0 : Int)) (.int .i64 0) rfl (BxS.load (t := 24) b9 Tryd.underlying24 i1) rfl rfl rfl) rfl ?_
            rw [HV.out, HE.out, HY.out, HI.out]
            have hF2 := hO9.wide (lo' := w.heap.size) (by omega)
            have hY2 : Ans w9 w.heap.size a16 (m - 7) c16 (cvL (onW R B) cN ((B.take m).drop 7)) := ⟨hY9.own, hY9.byte, fun g hg => Nat.le_trans (by omega) (hY9.new g hg)⟩
            refine ⟨some ⟨g3, 0, none⟩, n, c3, _, a16, m - 7, c16, ?_, hF2, hY2, GF⟩
            rfl
end Go.Proofs.YtaigcjhachkmmaaDoor
