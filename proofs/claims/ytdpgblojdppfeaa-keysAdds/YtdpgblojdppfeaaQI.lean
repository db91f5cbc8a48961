import Derived.Test.YtdpgblojdppfeaaQH
namespace Go.Proofs.Ytdpgblojdppfeaa
open Go.RowKit
set_option maxRecDepth 100000
set_option linter.unusedVariables false
set_option linter.unusedSimpArgs false
theorem run_appK0 (w : World) (ty : TypeId) (base : Option Addr) (n cap : Nat) (hle : n ≤ cap) (ad : Addr) (c : Nat) : (Builtin.append_ #[22, 22] ty #[.slice base n cap, .slice (some ad) 0 c]).run Try.prog w = .ok (.slice base n cap) w := by
  obtain ⟨i0, hi, hz0, hz1, hz2⟩ := info_parts Try.info_ky
  exact run_append_nothing w 22 22 ty 27 i0 Try.underlying22 hi base n cap hle _ (Src.ofSlice w Try.underlying22 ad 0 c [] (by simp) (fun j u hu => by cases hu) (fun u hu => by cases hu))
theorem RdK.take {w : World} {g n c : Nat} {ks : List Kw} (h : RdK w (some ⟨g, 0, none⟩) n c ks) (m : Nat) (hm : m ≤ n) : RdK w (some ⟨g, 0, none⟩) m m (ks.take m) := by
  have hl := h.len
  have hle := h.le
  have hmx := h.max
  refine ⟨by rw [List.length_take]; omega, Nat.le_refl _, by omega, fun h0 => ?_, fun k hk => h.ws k (List.mem_of_mem_take hk), fun k hk => h.bd k (List.mem_of_mem_take hk)⟩
  obtain ⟨b, off, e, hb, hc⟩ := h.at' (by omega)
  refine ⟨b, off, e, hb, fun i k hi j hj => hc i k ?_ j hj⟩
  rw [List.getElem?_take] at hi
  split at hi
  · exact hi
  · cases hi
set_option maxHeartbeats 32000000 in
/-- the document's Dropped -/
theorem rdrop_any (a : Option Addr) (n c : Nat) (R : List Kd) (z : Int) (w : World) (h : RdG w a n c R) :
    Calls Try.prog 14 #[.agg #[.slice a n c], .int .i64 z] w fun e w' => ∃ (a' : Option Addr) (n' c' : Nat), e = .returned (.tuple #[.agg #[.slice a' n' c'], .int .i64 (drE R z : Int)]) ∧ RdG w' a' n' c' (drV R z) ∧ w.grownBy w' none := by
  have hlR := h.len
  have b0 := BxS.new w 24 #[.slice a n c]
  have g0 := World.grownBy_alloc w (.cells #[.slice a n c] 24) none
  generalize hw0 : w.alloc (.cells #[.slice a n c] 24) = w0 at b0 g0
  have hz0 : w0.heap.size = w.heap.size + 1 := by rw [← hw0]; simp
  have b1 := BxS.new w0 24 #[.slice none 0 0]
  have g1 := World.grownBy_alloc w0 (.cells #[.slice none 0 0] 24) none
  generalize hw1 : w0.alloc (.cells #[.slice none 0 0] 24) = w1 at b1 g1
  rw [hz0] at b1
  have sz1 : w.heap.size + 2 ≤ w1.heap.size := by rw [← hw1]; simp [hz0]
  have p0 := b0.keep g1 (by simp)
  have G1 := grown_trans g0 g1
  have x0 : w1.cell? ⟨w.heap.size, 0, none⟩ = some (.slice a n c) := p0.cell 0 (by show 0 < 1; decide)
  have i1 := Try.info_rg1
  have s0 : True := trivial
  have kM := rringMay_any a n c R w1 (h.keep G1)
  cases hB : rmB R with
  | false =>
    have e1 : drV R z = [] := by unfold drV; rw [hB]; rfl
    have e2 : drE R z = 11 := by unfold drE; rw [hB]; rfl
    rw [hB] at kM
    rw [e1, e2]
    clear e1 e2
    go_enter Try.func14, Try.ntmps14
    go_wp2_with (first
      | (go_at_call 17; have _t := s0; clear s0; refine kM.mono ?_; rintro e w2 ⟨rfl, y2⟩; have q1 := b1.keep y2 (by simp); clear x0; have s1 : True := trivial)
      | (have _t := s1; clear s1; refine wpList_stX _ rfl _ (.tmp 4) (.tmp 10) rfl (w.heap.size + 1) _ _ rfl rfl q1 i1 rfl (by simp [Value.oneCell']) ?_; intro w9 b9 u9; skip))
    refine bodyPost_ret (results_cell1t rfl _ _ _ ⟨w.heap.size + 1, 0, none⟩ _ (.int .i64 11) rfl (BxS.load (t := 24) b9 Try.underlying24 i1) rfl) rfl ?_
    exact ⟨none, 0, 0, rfl, RdG.nil _, grown_far (grown_trans G1 y2) u9 (fun q e => by have e := Option.some.inj e; omega)⟩
  | true =>
    obtain ⟨hl8, hw8⟩ := rm_ok hB
    rw [hB] at kM
    have HRB : Hid (rmB R = true) := hB
    clear hB
    have kC := fun wz hz => ringOf_any a n c R wz hz (fun k hk => by rw [hw8 k hk]; decide) (by omega)
    go_enter Try.func14, Try.ntmps14
    go_wp2_with (first
      | (go_at_call 17; have _t := s0; clear s0; refine kM.mono ?_; rintro e w2 ⟨rfl, y2⟩; have q0 := p0.keep y2 (by simp); have q1 := b1.keep y2 (by simp); clear x0; have x0 : w2.cell? ⟨w.heap.size, 0, none⟩ = some (.slice a n c) := q0.cell 0 (by show 0 < 1; decide); have s1 : True := trivial)
      | (go_at_call 11; have _t := s1; clear s1; refine (kC _ (h.keep (grown_trans G1 y2))).mono ?_; rintro e w3 ⟨a3, c3, ks3, rfl, hO3, y3⟩; have q0 := q0.keep y3 (by simp); have q1 := q1.keep y3 (by simp); have sz2 := y2.size; clear x0; have s2 : True := trivial)
      | (have _t := s2; clear s2; refine wpList_stX _ rfl _ (.tmp 2) (.tmp 12) rfl w.heap.size _ _ rfl rfl q0 i1 rfl (by simp [Value.oneCell']) ?_; intro w4 b4 u4; have hO4 := hO3.far u4 (by omega); have q14 := q1.keep u4 (fun e => by have e := Option.some.inj e; omega)))
    have G4 := grown_far (grown_trans (grown_trans G1 y2) y3) u4 (fun q e => by have e := Option.some.inj e; omega)
    clear kM kC
    go_loopw [6] (fun iv wr => ∃ (k : Nat), iv = .int .i64 k ∧ k ≤ n ∧ hasI R k z = false ∧ w4.grownBy wr none) (fun iv _ => n - (intOf iv).toNat)
    case atStart => exact ⟨0, by go_num, Nat.zero_le _, by simp [hasI], World.grownBy.refl _ _⟩
    case round =>
      obtain ⟨j, rfl, hk, hno, yr⟩ := hrel
      have B4 := b4.keep yr (by simp)
      have x0 : wr.cell? ⟨w.heap.size, 0, none⟩ = some (.slice a3 n c3) := B4.cell 0 (by show 0 < 1; decide)
      have hOr := hO4.keep yr
      have q1r := q14.keep yr (by simp)
      have Gr := grown_trans G4 yr
      have hls := hO3.o.len
      by_cases hlt : j < n
      · have hlt' : (j : Int) < (n : Int) := by omega
        obtain ⟨kk, hi, hd1⟩ := map_d_at hO3.d j (by omega)
        obtain ⟨g3, rfl⟩ := hO3.o.someK (by omega)
        have hg3 : w2.heap.size ≤ g3 := (hO3.o.hi (.inl rfl)).2
        obtain ⟨t0, t1, t2, t3⟩ := hOr.o.rd.four hi
        rw [Nat.zero_add] at t0
        have hwj : IntKind.i64.wrap ((j : Int) + 1) = (j : Int) + 1 := wrap_i64_in _ (by omega) (by omega)
        by_cases hid : kk.id = z
        · have hid' : (kk.id == z) = true := by rw [hid]; simp
          have hfj : fiN R z = j := fiN_at R j kk.d z hd1 hid hno
          have hO1 : drO R z = true := by unfold drO; rw [hfj]; exact decide_eq_true (by omega)
          have HV : Hid (drV R z = R.eraseIdx j) := by show _ = _; unfold drV; rw [HRB.out, hO1, hfj]; rfl
          have HE : Hid (drE R z = 0) := by show _ = _; unfold drE; rw [HRB.out, hO1]; rfl
          clear hid hfj hO1 hd1
          have hOd := hOr.keep (grown_drew wr none)
          have q17 := q1r.keep (grown_drew wr none) (by simp)
          have Gd := grown_trans Gr (grown_drew wr none)
          have SS : BxS wr.drew w.heap.size 24 #[.slice (some ⟨g3, 0, none⟩) n c3] := B4.keep (grown_drew wr none) (by simp)
          have hmx := hOr.o.max
          have hj1 : (j : Int) + 1 ≤ (n : Int) := by omega
          have hj2 : (n : Int) ≤ (c3 : Int) := by omega
          have hj3 : (j : Int) ≤ (c3 : Int) := by omega
          have hj4 : (0 : Int) ≤ (j : Int) + 1 := by omega
          have hj5 : ¬ (j : Int) + 1 < 0 := by omega
          have hj6 : (j : Int) ≤ (j : Int) + 1 := by omega
          by_cases hn1 : n = j + 1
          · subst hn1
            have HRE : Hid (R.eraseIdx j = R.take j) := by show _ = _; rw [List.eraseIdx_eq_take_drop_succ, List.drop_eq_nil_of_le (by omega), List.append_nil]
            have hRd : RdG wr.drew (some ⟨g3, 0, none⟩) j j (R.take j) := ⟨ks3.take j, hOd.o.rd.take j (by omega), by rw [List.map_take, hO3.d]⟩
            by_cases hc1 : c3 = j + 1
            · subst hc1
              go_wp2
              refine wp_regionL (fun wz => BxS wz w.heap.size 24 #[.slice (some ⟨g3, 0, none⟩) (j + 1) (j + 1)]) [12] #[false, false, false, false, false, false, false, false, false, false, false, false, false] rfl (by kernel_rfl) ?_
              refine wpAnyZ_take [1, 4, 10, 12] 0 (.pointer (some ⟨w.heap.size, 0, none⟩)) rfl (by kernel_rfl) (fun _ _ _ h => h) SS rfl (by intro wz hz; have z0 : wz.cell? ⟨w.heap.size, 0, none⟩ = some (.slice (some ⟨g3, 0, none⟩) (j + 1) (j + 1)) := BxS.cell hz 0 (by show 0 < 1; decide); go_simp) ?_
              try simp only [List.getElem_toArray, List.getElem_cons_succ, List.getElem_cons_zero, Act.put, List.setIfInBounds_toArray, List.set_cons_zero, List.set_cons_succ]
              refine wpAnyZ_take [4, 10, 12] 1 (.slice (some ⟨g3, 0, none⟩) (j + 1) (j + 1)) rfl (by kernel_rfl) (fun _ _ _ h => h) SS rfl (by intro wz hz; have z0 : wz.cell? ⟨w.heap.size, 0, none⟩ = some (.slice (some ⟨g3, 0, none⟩) (j + 1) (j + 1)) := BxS.cell hz 0 (by show 0 < 1; decide); go_simp) ?_
              try simp only [List.getElem_toArray, List.getElem_cons_succ, List.getElem_cons_zero, Act.put, List.setIfInBounds_toArray, List.set_cons_zero, List.set_cons_succ]
              refine wpAnyZ_take [4, 10, 12] 2 (.int .i64 (j : Int)) rfl (by kernel_rfl) (fun _ _ _ h => h) SS rfl (by intro wz hz; have z0 : wz.cell? ⟨w.heap.size, 0, none⟩ = some (.slice (some ⟨g3, 0, none⟩) (j + 1) (j + 1)) := BxS.cell hz 0 (by show 0 < 1; decide); go_simp) ?_
              try simp only [List.getElem_toArray, List.getElem_cons_succ, List.getElem_cons_zero, Act.put, List.setIfInBounds_toArray, List.set_cons_zero, List.set_cons_succ]
              refine wpAnyZ_take [4, 10, 12] 3 (.int .i64 (j : Int)) rfl (by kernel_rfl) (fun _ _ _ h => h) SS rfl (by intro wz hz; have z0 : wz.cell? ⟨w.heap.size, 0, none⟩ = some (.slice (some ⟨g3, 0, none⟩) (j + 1) (j + 1)) := BxS.cell hz 0 (by show 0 < 1; decide); go_simp) ?_
              try simp only [List.getElem_toArray, List.getElem_cons_succ, List.getElem_cons_zero, Act.put, List.setIfInBounds_toArray, List.set_cons_zero, List.set_cons_succ]
              refine wpAnyZ_take [10, 12] 4 (.slice (some ⟨g3, 0, none⟩) j j) rfl (by kernel_rfl) (fun _ _ _ h => h) SS rfl (by intro wz hz; have z0 : wz.cell? ⟨w.heap.size, 0, none⟩ = some (.slice (some ⟨g3, 0, none⟩) (j + 1) (j + 1)) := BxS.cell hz 0 (by show 0 < 1; decide); go_simp) ?_
              try simp only [List.getElem_toArray, List.getElem_cons_succ, List.getElem_cons_zero, Act.put, List.setIfInBounds_toArray, List.set_cons_zero, List.set_cons_succ]
              refine wpAnyZ_take [6, 9, 10, 12] 5 (.pointer (some ⟨w.heap.size, 0, none⟩)) rfl (by kernel_rfl) (fun _ _ _ h => h) SS rfl (by intro wz hz; have z0 : wz.cell? ⟨w.heap.size, 0, none⟩ = some (.slice (some ⟨g3, 0, none⟩) (j + 1) (j + 1)) := BxS.cell hz 0 (by show 0 < 1; decide); go_simp) ?_
              try simp only [List.getElem_toArray, List.getElem_cons_succ, List.getElem_cons_zero, Act.put, List.setIfInBounds_toArray, List.set_cons_zero, List.set_cons_succ]
              refine wpAnyZ_take [9, 10, 12] 6 (.slice (some ⟨g3, 0, none⟩) (j + 1) (j + 1)) rfl (by kernel_rfl) (fun _ _ _ h => h) SS rfl (by intro wz hz; have z0 : wz.cell? ⟨w.heap.size, 0, none⟩ = some (.slice (some ⟨g3, 0, none⟩) (j + 1) (j + 1)) := BxS.cell hz 0 (by show 0 < 1; decide); go_simp) ?_
              try simp only [List.getElem_toArray, List.getElem_cons_succ, List.getElem_cons_zero, Act.put, List.setIfInBounds_toArray, List.set_cons_zero, List.set_cons_succ]
              refine wpAnyZ_take [8, 9, 10, 12] 7 (.int .i64 (j : Int)) rfl (by kernel_rfl) (fun _ _ _ h => h) SS rfl (by intro wz hz; have z0 : wz.cell? ⟨w.heap.size, 0, none⟩ = some (.slice (some ⟨g3, 0, none⟩) (j + 1) (j + 1)) := BxS.cell hz 0 (by show 0 < 1; decide); go_simp) ?_
              try simp only [List.getElem_toArray, List.getElem_cons_succ, List.getElem_cons_zero, Act.put, List.setIfInBounds_toArray, List.set_cons_zero, List.set_cons_succ]
              refine wpAnyZ_take [9, 10, 12] 8 (.int .i64 ((j : Int) + 1)) rfl (by kernel_rfl) (fun _ _ _ h => h) SS rfl (by intro wz hz; have z0 : wz.cell? ⟨w.heap.size, 0, none⟩ = some (.slice (some ⟨g3, 0, none⟩) (j + 1) (j + 1)) := BxS.cell hz 0 (by show 0 < 1; decide); go_simp) ?_
              try simp only [List.getElem_toArray, List.getElem_cons_succ, List.getElem_cons_zero, Act.put, List.setIfInBounds_toArray, List.set_cons_zero, List.set_cons_succ]
              refine wpAnyZ_take [10, 12] 9 (.slice (some ⟨g3, 0, none⟩) 0 0) rfl (by kernel_rfl) (fun _ _ _ h => h) SS rfl (by intro wz hz; have z0 : wz.cell? ⟨w.heap.size, 0, none⟩ = some (.slice (some ⟨g3, 0, none⟩) (j + 1) (j + 1)) := BxS.cell hz 0 (by show 0 < 1; decide); go_simp) ?_
              try simp only [List.getElem_toArray, List.getElem_cons_succ, List.getElem_cons_zero, Act.put, List.setIfInBounds_toArray, List.set_cons_zero, List.set_cons_succ]
              generalize wr.drew = w7 at *
              have G7 := Gd
              refine wpAnyZ_oneB 10 rfl (by kernel_rfl) (fun K hK => ?_)
              refine step_app (v := .slice (some ⟨g3, 0, none⟩) j j) rfl rfl (.tmp 32) (.tmp 37) rfl rfl rfl (run_appK0 _ _ _ j j (Nat.le_refl _) ⟨g3, 0, none⟩ 0) ?_
              have hxb := SS
              refine hK _ _ (fun _ => hxb) ?_
              try simp only [List.getElem_toArray, List.getElem_cons_succ, List.getElem_cons_zero, Act.put, List.setIfInBounds_toArray, List.set_cons_zero, List.set_cons_succ]
              refine wpAnyZ_take [12] 11 (.pointer (some ⟨w.heap.size, 0, none⟩)) rfl (by kernel_rfl) (fun _ _ _ h => h) hxb rfl (by intro wz hz; have z0 : wz.cell? ⟨w.heap.size, 0, none⟩ = some (.slice (some ⟨g3, 0, none⟩) (j + 1) (j + 1)) := BxS.cell hz 0 (by show 0 < 1; decide); go_simp) ?_
              try simp only [List.getElem_toArray, List.getElem_cons_succ, List.getElem_cons_zero, Act.put, List.setIfInBounds_toArray, List.set_cons_zero, List.set_cons_succ]
              refine wpAnyZ_oneB 12 rfl (by kernel_rfl) (fun K hK => ?_)
              refine step_stC _ rfl _ _ _ rfl w.heap.size 0 24 _ #[.slice (some ⟨g3, 0, none⟩) j j] (.slice (some ⟨g3, 0, none⟩) j j) rfl rfl hxb (stc_keys _ _ _ _ _) (by show 0 < 1; decide) rfl ?_
              intro w8 b8 u8
              refine hK _ _ (fun h => absurd (by decide) h) ?_
              try simp only [List.getElem_toArray, List.getElem_cons_succ, List.getElem_cons_zero, Act.put, List.setIfInBounds_toArray, List.set_cons_zero, List.set_cons_succ]
              refine wpAnyZ_doneB (by kernel_rfl) ?_ _
              have x8 : w8.cell? ⟨w.heap.size, 0, none⟩ = some (.slice (some ⟨g3, 0, none⟩) j j) := b8.cell 0 (by show 0 < 1; decide)
              have q18 := q17.keep u8 (fun e => by have e := Option.some.inj e; omega)
              go_wp2_with (refine wpList_stX _ rfl _ (.tmp 4) (.tmp 40) rfl (w.heap.size + 1) _ _ rfl rfl q18 i1 rfl (by simp [Value.oneCell']) ?_; intro w9 b9 u9)
              refine bodyPost_ret (results_cell1t rfl _ _ _ ⟨w.heap.size + 1, 0, none⟩ _ (.int .i64 0) rfl (BxS.load (t := 24) b9 Try.underlying24 i1) rfl) rfl ?_
              rw [HV.out, HE.out]
              have GF := grown_far (grown_far G7 u8 (fun q e => by have e := Option.some.inj e; omega)) u9 (fun q e => by have e := Option.some.inj e; omega)
              rw [HRE.out]
              have hfar : ∀ x (wa wb : World), wa.grownBy wb (some x) → x < w2.heap.size → RdG wa (some ⟨g3, 0, none⟩) j j (R.take j) → OwG wa w2.heap.size (some ⟨g3, 0, none⟩) (j + 1) (j + 1) ks3 R → RdG wb (some ⟨g3, 0, none⟩) j j (R.take j) := fun x wa wb hu hx _ hO => ⟨ks3.take j, (hO.far hu hx).o.rd.take j (by omega), by rw [List.map_take, hO3.d]⟩
              exact ⟨_, _, _, rfl, hfar _ _ _ u9 (by omega) (hfar _ _ _ u8 (by omega) hRd hOd) (hOd.far u8 (by omega)), GF⟩
            · go_wp2
              refine wp_regionL (fun wz => BxS wz w.heap.size 24 #[.slice (some ⟨g3, 0, none⟩) (j + 1) c3]) [12] #[false, false, false, false, false, false, false, false, false, false, false, false, false] rfl (by kernel_rfl) ?_
              refine wpAnyZ_take [1, 4, 10, 12] 0 (.pointer (some ⟨w.heap.size, 0, none⟩)) rfl (by kernel_rfl) (fun _ _ _ h => h) SS rfl (by intro wz hz; have z0 : wz.cell? ⟨w.heap.size, 0, none⟩ = some (.slice (some ⟨g3, 0, none⟩) (j + 1) c3) := BxS.cell hz 0 (by show 0 < 1; decide); go_simp) ?_
              try simp only [List.getElem_toArray, List.getElem_cons_succ, List.getElem_cons_zero, Act.put, List.setIfInBounds_toArray, List.set_cons_zero, List.set_cons_succ]
              refine wpAnyZ_take [4, 10, 12] 1 (.slice (some ⟨g3, 0, none⟩) (j + 1) c3) rfl (by kernel_rfl) (fun _ _ _ h => h) SS rfl (by intro wz hz; have z0 : wz.cell? ⟨w.heap.size, 0, none⟩ = some (.slice (some ⟨g3, 0, none⟩) (j + 1) c3) := BxS.cell hz 0 (by show 0 < 1; decide); go_simp) ?_
              try simp only [List.getElem_toArray, List.getElem_cons_succ, List.getElem_cons_zero, Act.put, List.setIfInBounds_toArray, List.set_cons_zero, List.set_cons_succ]
              refine wpAnyZ_take [4, 10, 12] 2 (.int .i64 (j : Int)) rfl (by kernel_rfl) (fun _ _ _ h => h) SS rfl (by intro wz hz; have z0 : wz.cell? ⟨w.heap.size, 0, none⟩ = some (.slice (some ⟨g3, 0, none⟩) (j + 1) c3) := BxS.cell hz 0 (by show 0 < 1; decide); go_simp) ?_
              try simp only [List.getElem_toArray, List.getElem_cons_succ, List.getElem_cons_zero, Act.put, List.setIfInBounds_toArray, List.set_cons_zero, List.set_cons_succ]
              refine wpAnyZ_take [4, 10, 12] 3 (.int .i64 (j : Int)) rfl (by kernel_rfl) (fun _ _ _ h => h) SS rfl (by intro wz hz; have z0 : wz.cell? ⟨w.heap.size, 0, none⟩ = some (.slice (some ⟨g3, 0, none⟩) (j + 1) c3) := BxS.cell hz 0 (by show 0 < 1; decide); go_simp) ?_
              try simp only [List.getElem_toArray, List.getElem_cons_succ, List.getElem_cons_zero, Act.put, List.setIfInBounds_toArray, List.set_cons_zero, List.set_cons_succ]
              refine wpAnyZ_take [10, 12] 4 (.slice (some ⟨g3, 0, none⟩) j j) rfl (by kernel_rfl) (fun _ _ _ h => h) SS rfl (by intro wz hz; have z0 : wz.cell? ⟨w.heap.size, 0, none⟩ = some (.slice (some ⟨g3, 0, none⟩) (j + 1) c3) := BxS.cell hz 0 (by show 0 < 1; decide); go_simp) ?_
              try simp only [List.getElem_toArray, List.getElem_cons_succ, List.getElem_cons_zero, Act.put, List.setIfInBounds_toArray, List.set_cons_zero, List.set_cons_succ]
              refine wpAnyZ_take [6, 9, 10, 12] 5 (.pointer (some ⟨w.heap.size, 0, none⟩)) rfl (by kernel_rfl) (fun _ _ _ h => h) SS rfl (by intro wz hz; have z0 : wz.cell? ⟨w.heap.size, 0, none⟩ = some (.slice (some ⟨g3, 0, none⟩) (j + 1) c3) := BxS.cell hz 0 (by show 0 < 1; decide); go_simp) ?_
              try simp only [List.getElem_toArray, List.getElem_cons_succ, List.getElem_cons_zero, Act.put, List.setIfInBounds_toArray, List.set_cons_zero, List.set_cons_succ]
              refine wpAnyZ_take [9, 10, 12] 6 (.slice (some ⟨g3, 0, none⟩) (j + 1) c3) rfl (by kernel_rfl) (fun _ _ _ h => h) SS rfl (by intro wz hz; have z0 : wz.cell? ⟨w.heap.size, 0, none⟩ = some (.slice (some ⟨g3, 0, none⟩) (j + 1) c3) := BxS.cell hz 0 (by show 0 < 1; decide); go_simp) ?_
              try simp only [List.getElem_toArray, List.getElem_cons_succ, List.getElem_cons_zero, Act.put, List.setIfInBounds_toArray, List.set_cons_zero, List.set_cons_succ]
              refine wpAnyZ_take [8, 9, 10, 12] 7 (.int .i64 (j : Int)) rfl (by kernel_rfl) (fun _ _ _ h => h) SS rfl (by intro wz hz; have z0 : wz.cell? ⟨w.heap.size, 0, none⟩ = some (.slice (some ⟨g3, 0, none⟩) (j + 1) c3) := BxS.cell hz 0 (by show 0 < 1; decide); go_simp) ?_
              try simp only [List.getElem_toArray, List.getElem_cons_succ, List.getElem_cons_zero, Act.put, List.setIfInBounds_toArray, List.set_cons_zero, List.set_cons_succ]
              refine wpAnyZ_take [9, 10, 12] 8 (.int .i64 ((j : Int) + 1)) rfl (by kernel_rfl) (fun _ _ _ h => h) SS rfl (by intro wz hz; have z0 : wz.cell? ⟨w.heap.size, 0, none⟩ = some (.slice (some ⟨g3, 0, none⟩) (j + 1) c3) := BxS.cell hz 0 (by show 0 < 1; decide); go_simp) ?_
              try simp only [List.getElem_toArray, List.getElem_cons_succ, List.getElem_cons_zero, Act.put, List.setIfInBounds_toArray, List.set_cons_zero, List.set_cons_succ]
              refine wpAnyZ_take [10, 12] 9 (.slice (some ⟨g3, (j + 1) * 4, none⟩) 0 (c3 - (j + 1))) rfl (by kernel_rfl) (fun _ _ _ h => h) SS rfl (by intro wz hz; have z0 : wz.cell? ⟨w.heap.size, 0, none⟩ = some (.slice (some ⟨g3, 0, none⟩) (j + 1) c3) := BxS.cell hz 0 (by show 0 < 1; decide); go_simp) ?_
              try simp only [List.getElem_toArray, List.getElem_cons_succ, List.getElem_cons_zero, Act.put, List.setIfInBounds_toArray, List.set_cons_zero, List.set_cons_succ]
              generalize wr.drew = w7 at *
              have G7 := Gd
              refine wpAnyZ_oneB 10 rfl (by kernel_rfl) (fun K hK => ?_)
              refine step_app (v := .slice (some ⟨g3, 0, none⟩) j j) rfl rfl (.tmp 32) (.tmp 37) rfl rfl rfl (run_appK0 _ _ _ j j (Nat.le_refl _) ⟨g3, (j + 1) * 4, none⟩ (c3 - (j + 1))) ?_
              have hxb := SS
              refine hK _ _ (fun _ => hxb) ?_
              try simp only [List.getElem_toArray, List.getElem_cons_succ, List.getElem_cons_zero, Act.put, List.setIfInBounds_toArray, List.set_cons_zero, List.set_cons_succ]
              refine wpAnyZ_take [12] 11 (.pointer (some ⟨w.heap.size, 0, none⟩)) rfl (by kernel_rfl) (fun _ _ _ h => h) hxb rfl (by intro wz hz; have z0 : wz.cell? ⟨w.heap.size, 0, none⟩ = some (.slice (some ⟨g3, 0, none⟩) (j + 1) c3) := BxS.cell hz 0 (by show 0 < 1; decide); go_simp) ?_
              try simp only [List.getElem_toArray, List.getElem_cons_succ, List.getElem_cons_zero, Act.put, List.setIfInBounds_toArray, List.set_cons_zero, List.set_cons_succ]
              refine wpAnyZ_oneB 12 rfl (by kernel_rfl) (fun K hK => ?_)
              refine step_stC _ rfl _ _ _ rfl w.heap.size 0 24 _ #[.slice (some ⟨g3, 0, none⟩) j j] (.slice (some ⟨g3, 0, none⟩) j j) rfl rfl hxb (stc_keys _ _ _ _ _) (by show 0 < 1; decide) rfl ?_
              intro w8 b8 u8
              refine hK _ _ (fun h => absurd (by decide) h) ?_
              try simp only [List.getElem_toArray, List.getElem_cons_succ, List.getElem_cons_zero, Act.put, List.setIfInBounds_toArray, List.set_cons_zero, List.set_cons_succ]
              refine wpAnyZ_doneB (by kernel_rfl) ?_ _
              have x8 : w8.cell? ⟨w.heap.size, 0, none⟩ = some (.slice (some ⟨g3, 0, none⟩) j j) := b8.cell 0 (by show 0 < 1; decide)
              have q18 := q17.keep u8 (fun e => by have e := Option.some.inj e; omega)
              go_wp2_with (refine wpList_stX _ rfl _ (.tmp 4) (.tmp 40) rfl (w.heap.size + 1) _ _ rfl rfl q18 i1 rfl (by simp [Value.oneCell']) ?_; intro w9 b9 u9)
              refine bodyPost_ret (results_cell1t rfl _ _ _ ⟨w.heap.size + 1, 0, none⟩ _ (.int .i64 0) rfl (BxS.load (t := 24) b9 Try.underlying24 i1) rfl) rfl ?_
              rw [HV.out, HE.out]
              have GF := grown_far (grown_far G7 u8 (fun q e => by have e := Option.some.inj e; omega)) u9 (fun q e => by have e := Option.some.inj e; omega)
              rw [HRE.out]
              have hfar : ∀ x (wa wb : World), wa.grownBy wb (some x) → x < w2.heap.size → RdG wa (some ⟨g3, 0, none⟩) j j (R.take j) → OwG wa w2.heap.size (some ⟨g3, 0, none⟩) (j + 1) c3 ks3 R → RdG wb (some ⟨g3, 0, none⟩) j j (R.take j) := fun x wa wb hu hx _ hO => ⟨ks3.take j, (hO.far hu hx).o.rd.take j (by omega), by rw [List.map_take, hO3.d]⟩
              exact ⟨_, _, _, rfl, hfar _ _ _ u9 (by omega) (hfar _ _ _ u8 (by omega) hRd hOd) (hOd.far u8 (by omega)), GF⟩
          · have hp : j + 1 < n := by omega
            have hc1 : ¬ c3 = j + 1 := by omega
            go_wp2
            refine wp_regionL (fun wz => BxS wz w.heap.size 24 #[.slice (some ⟨g3, 0, none⟩) n c3]) [12] #[false, false, false, false, false, false, false, false, false, false, false, false, false] rfl (by kernel_rfl) ?_
            refine wpAnyZ_take [1, 4, 10, 12] 0 (.pointer (some ⟨w.heap.size, 0, none⟩)) rfl (by kernel_rfl) (fun _ _ _ h => h) SS rfl (by intro wz hz; have z0 : wz.cell? ⟨w.heap.size, 0, none⟩ = some (.slice (some ⟨g3, 0, none⟩) n c3) := BxS.cell hz 0 (by show 0 < 1; decide); go_simp) ?_
            try simp only [List.getElem_toArray, List.getElem_cons_succ, List.getElem_cons_zero, Act.put, List.setIfInBounds_toArray, List.set_cons_zero, List.set_cons_succ]
            refine wpAnyZ_take [4, 10, 12] 1 (.slice (some ⟨g3, 0, none⟩) n c3) rfl (by kernel_rfl) (fun _ _ _ h => h) SS rfl (by intro wz hz; have z0 : wz.cell? ⟨w.heap.size, 0, none⟩ = some (.slice (some ⟨g3, 0, none⟩) n c3) := BxS.cell hz 0 (by show 0 < 1; decide); go_simp) ?_
            try simp only [List.getElem_toArray, List.getElem_cons_succ, List.getElem_cons_zero, Act.put, List.setIfInBounds_toArray, List.set_cons_zero, List.set_cons_succ]
            refine wpAnyZ_take [4, 10, 12] 2 (.int .i64 (j : Int)) rfl (by kernel_rfl) (fun _ _ _ h => h) SS rfl (by intro wz hz; have z0 : wz.cell? ⟨w.heap.size, 0, none⟩ = some (.slice (some ⟨g3, 0, none⟩) n c3) := BxS.cell hz 0 (by show 0 < 1; decide); go_simp) ?_
            try simp only [List.getElem_toArray, List.getElem_cons_succ, List.getElem_cons_zero, Act.put, List.setIfInBounds_toArray, List.set_cons_zero, List.set_cons_succ]
            refine wpAnyZ_take [4, 10, 12] 3 (.int .i64 (j : Int)) rfl (by kernel_rfl) (fun _ _ _ h => h) SS rfl (by intro wz hz; have z0 : wz.cell? ⟨w.heap.size, 0, none⟩ = some (.slice (some ⟨g3, 0, none⟩) n c3) := BxS.cell hz 0 (by show 0 < 1; decide); go_simp) ?_
            try simp only [List.getElem_toArray, List.getElem_cons_succ, List.getElem_cons_zero, Act.put, List.setIfInBounds_toArray, List.set_cons_zero, List.set_cons_succ]
            refine wpAnyZ_take [10, 12] 4 (.slice (some ⟨g3, 0, none⟩) j j) rfl (by kernel_rfl) (fun _ _ _ h => h) SS rfl (by intro wz hz; have z0 : wz.cell? ⟨w.heap.size, 0, none⟩ = some (.slice (some ⟨g3, 0, none⟩) n c3) := BxS.cell hz 0 (by show 0 < 1; decide); go_simp) ?_
            try simp only [List.getElem_toArray, List.getElem_cons_succ, List.getElem_cons_zero, Act.put, List.setIfInBounds_toArray, List.set_cons_zero, List.set_cons_succ]
            refine wpAnyZ_take [6, 9, 10, 12] 5 (.pointer (some ⟨w.heap.size, 0, none⟩)) rfl (by kernel_rfl) (fun _ _ _ h => h) SS rfl (by intro wz hz; have z0 : wz.cell? ⟨w.heap.size, 0, none⟩ = some (.slice (some ⟨g3, 0, none⟩) n c3) := BxS.cell hz 0 (by show 0 < 1; decide); go_simp) ?_
            try simp only [List.getElem_toArray, List.getElem_cons_succ, List.getElem_cons_zero, Act.put, List.setIfInBounds_toArray, List.set_cons_zero, List.set_cons_succ]
            refine wpAnyZ_take [9, 10, 12] 6 (.slice (some ⟨g3, 0, none⟩) n c3) rfl (by kernel_rfl) (fun _ _ _ h => h) SS rfl (by intro wz hz; have z0 : wz.cell? ⟨w.heap.size, 0, none⟩ = some (.slice (some ⟨g3, 0, none⟩) n c3) := BxS.cell hz 0 (by show 0 < 1; decide); go_simp) ?_
            try simp only [List.getElem_toArray, List.getElem_cons_succ, List.getElem_cons_zero, Act.put, List.setIfInBounds_toArray, List.set_cons_zero, List.set_cons_succ]
            refine wpAnyZ_take [8, 9, 10, 12] 7 (.int .i64 (j : Int)) rfl (by kernel_rfl) (fun _ _ _ h => h) SS rfl (by intro wz hz; have z0 : wz.cell? ⟨w.heap.size, 0, none⟩ = some (.slice (some ⟨g3, 0, none⟩) n c3) := BxS.cell hz 0 (by show 0 < 1; decide); go_simp) ?_
            try simp only [List.getElem_toArray, List.getElem_cons_succ, List.getElem_cons_zero, Act.put, List.setIfInBounds_toArray, List.set_cons_zero, List.set_cons_succ]
            refine wpAnyZ_take [9, 10, 12] 8 (.int .i64 ((j : Int) + 1)) rfl (by kernel_rfl) (fun _ _ _ h => h) SS rfl (by intro wz hz; have z0 : wz.cell? ⟨w.heap.size, 0, none⟩ = some (.slice (some ⟨g3, 0, none⟩) n c3) := BxS.cell hz 0 (by show 0 < 1; decide); go_simp) ?_
            try simp only [List.getElem_toArray, List.getElem_cons_succ, List.getElem_cons_zero, Act.put, List.setIfInBounds_toArray, List.set_cons_zero, List.set_cons_succ]
            refine wpAnyZ_take [10, 12] 9 (.slice (some ⟨g3, (j + 1) * 4, none⟩) (n - (j + 1)) (c3 - (j + 1))) rfl (by kernel_rfl) (fun _ _ _ h => h) SS rfl (by intro wz hz; have z0 : wz.cell? ⟨w.heap.size, 0, none⟩ = some (.slice (some ⟨g3, 0, none⟩) n c3) := BxS.cell hz 0 (by show 0 < 1; decide); go_simp) ?_
            try simp only [List.getElem_toArray, List.getElem_cons_succ, List.getElem_cons_zero, Act.put, List.setIfInBounds_toArray, List.set_cons_zero, List.set_cons_succ]
            generalize wr.drew = w6 at *
            obtain ⟨i0, hi0, hz0', hz1', hz2'⟩ := info_parts Try.info_ky
            refine wpAnyZ_oneB 10 rfl (by kernel_rfl) (fun K hK => ?_)
            refine step_append_grows rfl (.tmp 32) (.tmp 37) 22 rfl 27 i0 _ 4 48 Try.underlying22 hi0 hz0' hz1' hz2' rfl (by decide) (some ⟨g3, 0, none⟩) j j (flK (ks3.take j)) rfl (fun e => by cases e) (by rw [flK_len, List.length_take]; omega) (fun b e q u hu => ?_) ⟨g3, (j + 1) * 4, none⟩ (n - (j + 1)) (c3 - (j + 1)) (flK (ks3.drop (j + 1))) rfl (by rw [flK_len, List.length_drop]; omega) (fun q u hu => ?_) (flK_one _) (by omega) (by unfold maxLen; omega) (by omega) ?_
            · cases e
              have ht := own_takeK hOd.o.own hls j (by omega)
              exact ht.cells (g := g3) rfl q u hu
            · rw [← flK_drop, List.getElem?_drop] at hu
              rw [addr_add]
              have := hOd.o.own.cells (g := g3) rfl ((j + 1) * 4 + q) u hu
              rw [addr_add, Nat.zero_add] at this
              exact this
            intro v' w7 hown hgr
            rw [← flK_app, ← List.eraseIdx_eq_take_drop_succ, show j + (n - (j + 1)) = n - 1 by omega] at hown
            rcases hown.2 with ⟨_, h0⟩ | ⟨gx, cx, cur, rfl, hge, hrest⟩
            · omega
            have G7 := grown_trans Gd hgr
            have q17 := q17.keep hgr (by simp)
            have SS := SS.keep hgr (by simp)
            have hX : OwG w7 w2.heap.size (some ⟨gx, 0, none⟩) (n - 1) cx (ks3.eraseIdx j) (R.eraseIdx j) := ⟨⟨own_baseG hown, by rw [List.length_eraseIdx_of_lt (by omega), hls], fun g' e' => by have e' : gx = g' := Option.some.inj e'; have := (hOd.o.hi (x := g3) (.inl rfl)).1; have : w2.heap.size ≤ g3 := hg3; omega, fun k hk => (hOd.o.each k (List.mem_of_mem_eraseIdx hk)).keep hgr, fun k hk => hOd.o.bd k (List.mem_of_mem_eraseIdx hk), hOd.o.apart.sublist (List.eraseIdx_sublist _ _)⟩, by rw [map_erase, hO3.d]⟩
            have hxb := SS
            refine hK _ _ (fun _ => hxb) ?_
            try simp only [List.getElem_toArray, List.getElem_cons_succ, List.getElem_cons_zero, Act.put, List.setIfInBounds_toArray, List.set_cons_zero, List.set_cons_succ]
            refine wpAnyZ_take [12] 11 (.pointer (some ⟨w.heap.size, 0, none⟩)) rfl (by kernel_rfl) (fun _ _ _ h => h) hxb rfl (by intro wz hz; have z0 : wz.cell? ⟨w.heap.size, 0, none⟩ = some (.slice (some ⟨g3, 0, none⟩) n c3) := BxS.cell hz 0 (by show 0 < 1; decide); go_simp) ?_
            try simp only [List.getElem_toArray, List.getElem_cons_succ, List.getElem_cons_zero, Act.put, List.setIfInBounds_toArray, List.set_cons_zero, List.set_cons_succ]
            refine wpAnyZ_oneB 12 rfl (by kernel_rfl) (fun K hK => ?_)
            refine step_stC _ rfl _ _ _ rfl w.heap.size 0 24 _ #[.slice (some ⟨gx, 0, none⟩) (n - 1) cx] (.slice (some ⟨gx, 0, none⟩) (n - 1) cx) rfl rfl hxb (stc_keys _ _ _ _ _) (by show 0 < 1; decide) rfl ?_
            intro w8 b8 u8
            refine hK _ _ (fun h => absurd (by decide) h) ?_
            try simp only [List.getElem_toArray, List.getElem_cons_succ, List.getElem_cons_zero, Act.put, List.setIfInBounds_toArray, List.set_cons_zero, List.set_cons_succ]
            refine wpAnyZ_doneB (by kernel_rfl) ?_ _
            have x8 : w8.cell? ⟨w.heap.size, 0, none⟩ = some (.slice (some ⟨gx, 0, none⟩) (n - 1) cx) := b8.cell 0 (by show 0 < 1; decide)
            have q18 := q17.keep u8 (fun e => by have e := Option.some.inj e; omega)
            go_wp2_with (refine wpList_stX _ rfl _ (.tmp 4) (.tmp 40) rfl (w.heap.size + 1) _ _ rfl rfl q18 i1 rfl (by simp [Value.oneCell']) ?_; intro w9 b9 u9)
            refine bodyPost_ret (results_cell1t rfl _ _ _ ⟨w.heap.size + 1, 0, none⟩ _ (.int .i64 0) rfl (BxS.load (t := 24) b9 Try.underlying24 i1) rfl) rfl ?_
            rw [HV.out, HE.out]
            have GF := grown_far (grown_far G7 u8 (fun q e => by have e := Option.some.inj e; omega)) u9 (fun q e => by have e := Option.some.inj e; omega)
            exact ⟨_, _, _, rfl, ((hX.far u8 (by omega)).far u9 (by omega)).rd, GF⟩
        · have hid' : (kk.id == z) = false := beq_false_of_ne hid
          have hh : hasI R (j + 1) z = false := by rw [hasI_step R j kk.d hd1, hno]; show (_ || decide (kk.id = z)) = false; rw [decide_eq_false hid]; rfl
          go_wp2
          go_roundw
          case rel => exact ⟨j + 1, by go_num, by omega, hh, yr⟩
          case measure => simp [intOf]; omega
      · have hlt' : ¬ (j : Int) < (n : Int) := by omega
        obtain rfl : j = n := by omega
        have hO1 : drO R z = false := by unfold drO; rw [fiN_no R z (by rw [hlR]; exact hno)]; exact decide_eq_false (by omega)
        have HV : Hid (drV R z = R) := by show _ = _; unfold drV; rw [HRB.out, hO1]; rfl
        have HE : Hid (drE R z = 10) := by show _ = _; unfold drE; rw [HRB.out, hO1]; rfl
        go_wp2_with (refine wpList_stX _ rfl _ (.tmp 4) (.tmp 41) rfl (w.heap.size + 1) _ _ rfl rfl q1r i1 rfl (by simp [Value.oneCell']) ?_; intro w9 b9 u9)
        refine bodyPost_ret (results_cell1t rfl _ _ _ ⟨w.heap.size + 1, 0, none⟩ _ (.int .i64 10) rfl (BxS.load (t := 24) b9 Try.underlying24 i1) rfl) rfl ?_
        rw [HV.out, HE.out]
        exact ⟨a3, j, c3, rfl, (hOr.far u9 (by omega)).rd, grown_far Gr u9 (fun q e => by have e := Option.some.inj e; omega)⟩
end Go.Proofs.Ytdpgblojdppfeaa
