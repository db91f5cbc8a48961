import Derived.Test.YtnpkmjdlohdieaaURs
namespace Go.Proofs.Ytnpkmjdlohdieaa
open Go.RowKit
set_option maxRecDepth 100000
set_option linter.unusedVariables false
set_option linter.unusedSimpArgs false
/-- is one of the first k true? -/
def anN (H : List Bool) : Nat → Bool
  | 0 => false
  | k + 1 => anN H k || hat H k
theorem anN_true (H : List Bool) (k n : Nat) (h : anN H k = true) (hk : k ≤ n) : anN H n = true := by
  induction n with
  | zero => obtain rfl : k = 0 := by omega
            exact h
  | succ n ih =>
    by_cases e : k = n + 1
    · subst e; exact h
    · simp only [anN, ih (by omega), Bool.true_or]
set_option maxHeartbeats 4000000 in
theorem indexH_any (a : Option Addr) (n cap : Nat) (H : List Bool) (w : World) (h : RdX w a n cap (hls H)) (hn : n ≤ 1000) : Calls Try.prog 61 #[.slice a n cap, .bool true] w fun e w' => ∃ r : Int, e = .returned (.int .i64 r) ∧ (0 ≤ r ↔ anN H n = true) ∧ w' = w := by
  go_enter Try.func61, Try.ntmps61
  go_wp2
  go_loop [8] (fun i => ∃ k : Nat, k ≤ n ∧ i = .int .i64 k ∧ anN H k = false) (fun i => n - (intOf i).toNat)
  case atStart => exact ⟨0, by omega, rfl, rfl⟩
  case round =>
    obtain ⟨k, hk, rfl, HK⟩ := hrel
    have HK' : Hid (anN H k = false) := HK
    clear HK
    by_cases hlt : k < n
    · have hlt' : (k : Int) < (n : Int) := by omega
      obtain ⟨b, off, rfl, hbw, _⟩ := h.at' (by omega)
      have c1 := h.atH k hlt
      have HS : Hid (anN H (k + 1) = hat H k) := by show _ = _; simp only [anN, HK'.out, Bool.false_or]
      clear h
      generalize hat H k = q at *
      cases q
      · go_wp2
        go_round
        case rel => exact ⟨k + 1, by omega, by go_num, HS.out⟩
        case measure => simp [intOf] <;> omega
      · go_wp2
        go_ret
        exact ⟨k, rfl, ⟨fun _ => anN_true H (k + 1) n HS.out (by omega), fun _ => by omega⟩, rfl⟩
    · have hlt' : ¬ (k : Int) < (n : Int) := by omega
      obtain rfl : k = n := by omega
      go_wp2
      go_ret
      exact ⟨-1, rfl, ⟨fun h => absurd h (by decide), fun h => by rw [HK'.out] at h; cases h⟩, rfl⟩
theorem containsH_any (a : Option Addr) (n cap : Nat) (H : List Bool) (w : World) (h : RdX w a n cap (hls H)) (hn : n ≤ 1000) : Calls Try.prog 50 #[.slice a n cap, .bool true] w fun e w' => e = .returned (.bool (anN H n)) ∧ w' = w := by
  have hI := indexH_any a n cap H w h hn
  go_enter Try.func50, Try.ntmps50
  go_wp2_with (go_at_call 61; refine hI.mono ?_; rintro e w1 ⟨r, rfl, hr, hw⟩; have hw := hw.symm; subst hw)
  all_goals go_ret
  all_goals
    refine ⟨?_, rfl⟩
    cases hg : anN H n <;> simp [hg] at hr ⊢ <;> omega
/-- the first k monitors are watched -/
def tkP (F : Nat → Mo) (Vs : List Int) (D : Vi) : Nat → Vi × List Int
  | 0 => (D, [])
  | k + 1 => (wtV (F k) (nthI Vs (F k).of'.toNat) k (tkP F Vs D k).1, wtF (F k) (nthI Vs (F k).of'.toNat) k (tkP F Vs D k).1 (tkP F Vs D k).2)
theorem tpF_len (tr : List Int) (h : tr.length ≤ 100) : (tpF tr).length ≤ 100 := by
  unfold tpF
  split
  · simp; omega
  · simp; omega
theorem wtV_lens (m : Mo) (x : Int) (i : Nat) (D : Vi) (h : D.tr.length ≤ 100) : (wtV m x i D).bd.length = D.bd.length ∧ (wtV m x i D).tp.length = D.tp.length ∧ (wtV m x i D).tr.length ≤ 100 ∧ (wtV m x i D).sf = D.sf ∧ (wtV m x i D).qu = D.qu ∧ (wtV m x i D).wy = D.wy := by
  unfold wtV
  split
  · simp [Vi.b, Vi.p, h]
  · split
    · have := tpF_len D.tr h
      simp [Vi.b, vfT, this]
    · simp [Vi.b, h]
theorem wtV_bd (m : Mo) (x : Int) (i j : Nat) (D : Vi) (hj : i ≠ j) : nthI (wtV m x i D).bd j = nthI D.bd j := by
  unfold wtV
  split
  · simp only [Vi.b, Vi.p]; exact nthI_set_ne _ _ _ _ hj
  · split
    · simp only [Vi.b, vfT]; exact nthI_set_ne _ _ _ _ hj
    · simp only [Vi.b]; exact nthI_set_ne _ _ _ _ hj
theorem wtF_mem (m : Mo) (x : Int) (i : Nat) (D : Vi) (Fr : List Int) : (wtF m x i D Fr).length ≤ Fr.length + 1 ∧ ∀ z, z ∈ wtF m x i D Fr → z ∈ Fr ∨ z = (i : Int) := by
  unfold wtF
  split
  · exact ⟨by omega, fun z h => .inl h⟩
  · split
    · refine ⟨by simp, fun z h => ?_⟩
      rcases List.mem_append.1 h with h | h
      · exact .inl h
      · exact .inr (by simpa using h)
    · exact ⟨by omega, fun z h => .inl h⟩
theorem tkP_inv (F : Nat → Mo) (Vs : List Int) (D : Vi) (htr : D.tr.length ≤ 100) (k : Nat) :
    (tkP F Vs D k).1.bd.length = D.bd.length ∧ (tkP F Vs D k).1.tp.length = D.tp.length ∧ (tkP F Vs D k).1.tr.length ≤ 100 ∧ (tkP F Vs D k).1.sf = D.sf ∧ (tkP F Vs D k).1.qu = D.qu ∧ (tkP F Vs D k).2.length ≤ k ∧ (∀ z, z ∈ (tkP F Vs D k).2 → ∃ j : Nat, j < k ∧ z = (j : Int)) ∧ (∀ j, k ≤ j → nthI (tkP F Vs D k).1.bd j = nthI D.bd j) ∧ (tkP F Vs D k).1.wy = D.wy := by
  induction k with
  | zero => exact ⟨rfl, rfl, htr, rfl, rfl, Nat.le_refl _, (fun z h => by cases h), fun j _ => rfl, rfl⟩
  | succ k ih =>
    obtain ⟨h1, h2, h3, h4, h5, h6, h7, h8, h9⟩ := ih
    obtain ⟨k1, k2, k3, k4, k5, k6⟩ := wtV_lens (F k) (nthI Vs (F k).of'.toNat) k (tkP F Vs D k).1 h3
    obtain ⟨l1, l2⟩ := wtF_mem (F k) (nthI Vs (F k).of'.toNat) k (tkP F Vs D k).1 (tkP F Vs D k).2
    simp only [tkP]
    refine ⟨k1.trans h1, k2.trans h2, k3, k4.trans h4, k5.trans h5, by omega, fun z hz => ?_, fun j hj => ?_, k6.trans h9⟩
    · rcases l2 z hz with h | h
      · obtain ⟨j, hj, e⟩ := h7 z h
        exact ⟨j, by omega, e⟩
      · exact ⟨k, by omega, h⟩
    · rw [wtV_bd _ _ _ _ _ (by omega)]
      exact h8 j (by omega)
/-- behind the monitors -/
def fiV (F : Nat → Mo) (G : Gd) (D : Vi) (Fr : List Int) (he le : Bool) : Vi :=
  if D.sf = true then (if (le && he && !anN D.tp D.tp.length) = true then ⟨false, -1, D.bd, D.tp, D.qu, []⟩ else D)
  else ⟨rsI F Fr D.tr.length G D.qu != -1, rsI F Fr D.tr.length G D.qu, D.bd, D.tp, D.qu, D.tr⟩
/-- a tick -/
def tiP (F : Nat → Mo) (G : Gd) (Vs : List Int) (D : Vi) (he : Bool) : Vi × List Int := tkP F Vs (grV D G he) G.n
def tiV (F : Nat → Mo) (G : Gd) (Vs : List Int) (D : Vi) (he le : Bool) : Vi := fiV F G (tiP F G Vs D he).1 (tiP F G Vs D he).2 he le
set_option maxHeartbeats 32000000 in
theorem tick_any (w0 : World) (g : Nat) (G : Gd) (A : Va) (D : Vi) (fa : Option Addr) (fn fc : Nat) (F : Nat → Mo) (va : Option Addr) (vn vc : Nat) (Vs : List Int) (he le : Bool) (w : World) (h : WV w0 w g G A D fa fn fc []) (hM : RdM w0 G.ma G.n G.mc F) (hV : RdX w0 va vn vc (zys Vs)) (hn : G.n ≤ 32) (htp : D.tp.length = G.n) (hbl : D.bd.length = G.n) (htr : D.tr.length ≤ 100) (hq0 : 0 ≤ D.qu) (hq1 : D.qu ≤ 1000000) (hs0 : 0 ≤ G.si) (hs1 : G.si ≤ 1000000) (ht : ∀ k, k < D.tr.length → 0 ≤ nthI D.tr k ∧ nthI D.tr k ≤ 1000000) (hbd : ∀ k, k < G.n → 0 ≤ nthI D.bd k ∧ nthI D.bd k ≤ 1000 ∧ 0 ≤ (F k).fr ∧ (F k).fr ≤ 1000) (hof : ∀ k, k < G.n → 0 ≤ (F k).of' ∧ (F k).of' < (vn : Int)) :
    Calls Try.prog 33 #[.pointer (some ⟨g, 0, none⟩), .slice va vn vc, .bool he, .bool le] w fun e w' => e = .returned (.tuple #[]) ∧ ∃ A' fa' fn' fc', WV w0 w' g G A' (tiV F G Vs D he le) fa' fn' fc' (tiP F G Vs D he).2 := by
  have hG := grow_any w0 g G A D fa fn fc [] he w h htr hq0 hq1 hs0 hs1 ht
  have hgl : (grV D G he).tr.length ≤ 100 := by
    unfold grV grL
    exact Nat.le_trans (fkL_len _ _ _) htr
  have hI := tkP_inv F Vs (grV D G he) hgl
  have hgb : (grV D G he).bd = D.bd := rfl
  have hgp : (grV D G he).tp = D.tp := rfl
  rw [hgb, hgp] at hI
  have hmm : maxLen ≤ 9223372036854775807 := by decide
  have hvm := hV.max
  have hvl := hV.le
  unfold tiV tiP
  obtain ⟨PP, HP0⟩ : ∃ PP, tkP F Vs (grV D G he) G.n = PP := ⟨_, rfl⟩
  have HTI : Hid (tkP F Vs (grV D G he) G.n = PP) := HP0
  rw [HP0]
  clear HP0
  generalize grV D G he = D1 at *
  have hMm := hM.max
  clear h
  go_enter Try.func33, Try.ntmps33
  go_wp2_with (go_at_call 47; refine hG.mono ?_; rintro e w1 ⟨rfl, A1, h1⟩; have bx1 := h1.box; unfold wvA at bx1; obtain ⟨c0, c1, c2, c3, c4, c5, c6, c7, c8, c9, c10, c11⟩ := bx1.cell12)
  clear hG c0 c1 c2 c3 c4 c5 c6 c7 c8 c9 c10 c11 bx1 hgb hgp
  go_loopw [19] (fun iv wr => ∃ (k : Nat) (A2 : Va) (fa2 : Option Addr) (fn2 fc2 : Nat), iv = .int .i64 k ∧ k ≤ G.n ∧ WV w0 wr g G A2 (tkP F Vs D1 k).1 fa2 fn2 fc2 (tkP F Vs D1 k).2) (fun iv _ => G.n - (intOf iv).toNat)
  case atStart => exact ⟨0, A1, fa, fn, fc, rfl, Nat.zero_le _, h1⟩
  case round =>
    obtain ⟨k, A2, fa2, fn2, fc2, rfl, hk, hW⟩ := hrel
    clear h1
    obtain ⟨i1, i2, i3, i4, i5, i6, i7, i8, i9⟩ := hI k
    by_cases hlt : k < G.n
    · have hlt' : (k : Int) < (G.n : Int) := by omega
      have hMr := hM.lw hW.L
      obtain ⟨b, off, ema, hbw, _⟩ := hMr.at' (by omega)
      obtain ⟨of0, of1⟩ := hof k hlt
      have hV2 := hV.lw hW.L
      obtain ⟨vb, vo, rfl, hvw, _⟩ := hV2.at' (by omega)
      rw [ema] at hMr
      obtain ⟨k0, k1, k2, k3, k4, k5⟩ := hMr.six k hlt
      obtain ⟨o, eo⟩ : ∃ o : Nat, (F k).of' = (o : Int) := ⟨(F k).of'.toNat, by omega⟩
      have ho : o < vn := by omega
      have ho' : (o : Int) < (vn : Int) := by omega
      have cx := hV2.atI o ho
      obtain ⟨q0, q1, q2, q3⟩ := hbd k hlt
      have bm := BxS.new wr 51 #[.int .i64 (F k).of', .int .i64 (F k).lo, .int .i64 (F k).hi, .int .i64 (F k).fr, .int .i64 (F k).ti, .string (F k).th]
      have gm := World.grownBy_alloc wr (.cells #[.int .i64 (F k).of', .int .i64 (F k).lo, .int .i64 (F k).hi, .int .i64 (F k).fr, .int .i64 (F k).ti, .string (F k).th] 51) none
      have HX : Hid (tkP F Vs D1 (k + 1) = (wtV (F k) (nthI Vs o) k (tkP F Vs D1 k).1, wtF (F k) (nthI Vs o) k (tkP F Vs D1 k).1 (tkP F Vs D1 k).2)) := by
        show _ = _
        simp only [tkP]
        rw [eo, Int.toNat_natCast]
      have hWt := fun wz (hz : WV w0 wz g G A2 (tkP F Vs D1 k).1 fa2 fn2 fc2 (tkP F Vs D1 k).2) => watch_any w0 g G A2 (tkP F Vs D1 k).1 fa2 fn2 fc2 (tkP F Vs D1 k).2 (F k) (nthI Vs o) k wz hz (by omega) (by omega) (by omega) (by omega) i3 (by rw [i8 k (Nat.le_refl _)]; exact q0) (by rw [i8 k (Nat.le_refl _)]; exact q1) q3 q2
      rw [eo] at k0 bm gm hWt
      have hWm := hW.keep gm
      have cxm : (wr.alloc (.cells #[.int .i64 (o : Int), .int .i64 (F k).lo, .int .i64 (F k).hi, .int .i64 (F k).fr, .int .i64 (F k).ti, .string (F k).th] 51)).cell? ⟨vb, vo + o, none⟩ = some (.int .i64 (nthI Vs o)) := ((hV.lw hW.L).keep gm).atI o ho
      obtain ⟨m0, m1, m2, m3, m4, m5⟩ := bm.cell6
      clear hI i7 i8 hof hbd hM hMr hV2 ht
      generalize nthI Vs o = xx at *
      generalize hFk : F k = mm at *
      clear hFk
      go_wp2
      generalize hwq : wr.alloc (.cells #[.int .i64 (o : Int), .int .i64 mm.lo, .int .i64 mm.hi, .int .i64 mm.fr, .int .i64 mm.ti, .string mm.th] 51) = wq at *
      clear hwq ema
      refine wp_regionL (fun wz => BxS wz wr.heap.size 51 #[.int .i64 (o : Int), .int .i64 mm.lo, .int .i64 mm.hi, .int .i64 mm.fr, .int .i64 mm.ti, .string mm.th] ∧ wz.cell? ⟨vb, vo + o, none⟩ = some (.int .i64 xx)) [8] #[false, false, false, false, false, false, false, false, false] rfl (by kernel_rfl) ?_
      refine wpAnyZ_take [8] 0 (.pointer (some ⟨g, 0, none⟩)) rfl (by kernel_rfl) (fun _ _ _ h => h) ⟨bm, cxm⟩ rfl (by rintro wz ⟨zb, zx⟩; obtain ⟨z0, z1, z2, z3, z4, z5⟩ := BxS.cell6 zb; go_simp) ?_
      try simp only [List.getElem_toArray, List.getElem_cons_succ, List.getElem_cons_zero, Act.put, List.setIfInBounds_toArray, List.set_cons_zero, List.set_cons_succ]
      refine wpAnyZ_take [8] 1 (.int .i64 (k : Int)) rfl (by kernel_rfl) (fun _ _ _ h => h) ⟨bm, cxm⟩ rfl (by rintro wz ⟨zb, zx⟩; obtain ⟨z0, z1, z2, z3, z4, z5⟩ := BxS.cell6 zb; go_simp) ?_
      try simp only [List.getElem_toArray, List.getElem_cons_succ, List.getElem_cons_zero, Act.put, List.setIfInBounds_toArray, List.set_cons_zero, List.set_cons_succ]
      refine wpAnyZ_take [8] 2 (.agg #[.int .i64 (o : Int), .int .i64 mm.lo, .int .i64 mm.hi, .int .i64 mm.fr, .int .i64 mm.ti, .string mm.th]) rfl (by kernel_rfl) (fun _ _ _ h => h) ⟨bm, cxm⟩ rfl (by rintro wz ⟨zb, zx⟩; obtain ⟨z0, z1, z2, z3, z4, z5⟩ := BxS.cell6 zb; go_simp) ?_
      try simp only [List.getElem_toArray, List.getElem_cons_succ, List.getElem_cons_zero, Act.put, List.setIfInBounds_toArray, List.set_cons_zero, List.set_cons_succ]
      refine wpAnyZ_take [6, 7, 8] 3 (.slice (some ⟨vb, vo, none⟩) vn vc) rfl (by kernel_rfl) (fun _ _ _ h => h) ⟨bm, cxm⟩ rfl (by rintro wz ⟨zb, zx⟩; obtain ⟨z0, z1, z2, z3, z4, z5⟩ := BxS.cell6 zb; go_simp) ?_
      try simp only [List.getElem_toArray, List.getElem_cons_succ, List.getElem_cons_zero, Act.put, List.setIfInBounds_toArray, List.set_cons_zero, List.set_cons_succ]
      refine wpAnyZ_take [5, 6, 7, 8] 4 (.pointer (some ⟨wr.heap.size, 0, none⟩)) rfl (by kernel_rfl) (fun _ _ _ h => h) ⟨bm, cxm⟩ rfl (by rintro wz ⟨zb, zx⟩; obtain ⟨z0, z1, z2, z3, z4, z5⟩ := BxS.cell6 zb; go_simp) ?_
      try simp only [List.getElem_toArray, List.getElem_cons_succ, List.getElem_cons_zero, Act.put, List.setIfInBounds_toArray, List.set_cons_zero, List.set_cons_succ]
      refine wpAnyZ_take [6, 7, 8] 5 (.int .i64 (o : Int)) rfl (by kernel_rfl) (fun _ _ _ h => h) ⟨bm, cxm⟩ rfl (by rintro wz ⟨zb, zx⟩; obtain ⟨z0, z1, z2, z3, z4, z5⟩ := BxS.cell6 zb; go_simp) ?_
      try simp only [List.getElem_toArray, List.getElem_cons_succ, List.getElem_cons_zero, Act.put, List.setIfInBounds_toArray, List.set_cons_zero, List.set_cons_succ]
      refine wpAnyZ_take [7, 8] 6 (.pointer (some ⟨vb, vo + o, none⟩)) rfl (by kernel_rfl) (fun _ _ _ h => h) ⟨bm, cxm⟩ rfl (by rintro wz ⟨zb, zx⟩; obtain ⟨z0, z1, z2, z3, z4, z5⟩ := BxS.cell6 zb; go_simp) ?_
      try simp only [List.getElem_toArray, List.getElem_cons_succ, List.getElem_cons_zero, Act.put, List.setIfInBounds_toArray, List.set_cons_zero, List.set_cons_succ]
      refine wpAnyZ_take [8] 7 (.int .i64 xx) rfl (by kernel_rfl) (fun _ _ _ h => h) ⟨bm, cxm⟩ rfl (by rintro wz ⟨zb, zx⟩; obtain ⟨z0, z1, z2, z3, z4, z5⟩ := BxS.cell6 zb; go_simp) ?_
      try simp only [List.getElem_toArray, List.getElem_cons_succ, List.getElem_cons_zero, Act.put, List.setIfInBounds_toArray, List.set_cons_zero, List.set_cons_succ]
      refine wpAnyZ_oneB 8 rfl (by kernel_rfl) (fun K hK => ?_)
      go_simp
      go_at_call 48
      refine (hWt _ (hWm.keep (grown_drew wq none))).mono ?_
      rintro e w5 ⟨rfl, A5, fa5, fn5, fc5, h5⟩
      dsimp only
      refine hK _ _ (fun h => absurd (by decide) h) ?_
      try simp only [List.getElem_toArray, List.getElem_cons_succ, List.getElem_cons_zero, Act.put, List.setIfInBounds_toArray, List.set_cons_zero, List.set_cons_succ]
      refine wpAnyZ_doneB (by kernel_rfl) ?_ _
      go_wp2
      go_roundw
      case rel => exact ⟨k + 1, A5, fa5, fn5, fc5, by go_num, by omega, by rw [HX.out]; exact h5⟩
      case measure => simp [intOf]; omega
    · have hlt' : ¬ (k : Int) < (G.n : Int) := by omega
      obtain rfl : k = G.n := by omega
      rw [HTI.out] at hW i6 i7
      obtain ⟨D2, Fr⟩ := PP
      dsimp only at hW i6 i7
      have bxr := hW.box
      unfold wvA at bxr
      obtain ⟨c0, c1, c2, c3, c4, c5, c6, c7, c8, c9, c10, c11⟩ := bxr.cell12
      have hRs := fun wz (hz : WV w0 wz g G A2 D2 fa2 fn2 fc2 Fr) => reason_any w0 g G A2 D2 fa2 fn2 fc2 Fr F wz hz hM hn hs0 (by omega) i7
      have HLP : Hid (D2.tp.length = A2.np) := by have := hW.v.p.len; rw [hls_len] at this; exact this
      have hnp32 : A2.np ≤ 1000 := by
        have e2 : D2.tp.length = D.tp.length := by rw [← i2, HTI.out]
        rw [← HLP.out]; omega
      have hCt := containsH_any A2.ap A2.np A2.cp D2.tp wr hW.v.p.rd hnp32
      clear i1 i2 i3 i4 i5 i6 i7 i8 i9 hI hof hbd hM hV ht
      obtain ⟨R, hR⟩ : ∃ R, rsI F Fr D2.tr.length G D2.qu = R := ⟨_, rfl⟩
      rw [hR] at hRs
      have HR : Hid (rsI F Fr D2.tr.length G D2.qu = R) := hR
      clear hR
      have s0 : True := trivial
      cases hsf : D2.sf
      · have HSF : Hid (D2.sf = false) := hsf
        rw [hsf] at c0 bxr
        clear hsf
        go_wp2_with (first
          | (go_at_call 49; refine (hRs _ hW).mono ?_; rintro e w5 ⟨rfl, g5⟩; have h5 := hW.keep g5; have bx5 := bxr.keep g5 (by simp); clear s0 c0 c1 c2 c3 c4 c5 c6 c7 c8 c9 c10 c11; have s1 : True := trivial)
          | (have _t := s1; clear s1; refine wpList_stC _ rfl _ _ _ rfl g 1 69 _ #[.bool (false), .int .i64 (R), .slice (A2.ab) (A2.nb) (A2.cb), .slice (A2.ap) (A2.np) (A2.cp), .int .i64 (D2.qu), .slice (A2.at') (A2.nt) (A2.ct), .slice G.ma G.n G.mc, .int .i64 G.si, .int .i64 G.mo, .int .i64 G.wi, .string G.sa, .slice (fa2) (fn2) (fc2)] (.int .i64 R) rfl rfl bx5 (stc_int _ _ _) (by show 1 < 12; decide) rfl ?_; intro w6 bx6 u6; obtain ⟨c0, c1, c2, c3, c4, c5, c6, c7, c8, c9, c10, c11⟩ := bx6.cell12; have h6 := h5.setS false R D2.qu bx6 u6; have s2 : True := trivial)
          | (have _t := s2; clear s2; refine wpList_stC _ rfl _ _ _ rfl g 0 69 _ #[.bool (R != -1), .int .i64 (R), .slice (A2.ab) (A2.nb) (A2.cb), .slice (A2.ap) (A2.np) (A2.cp), .int .i64 (D2.qu), .slice (A2.at') (A2.nt) (A2.ct), .slice G.ma G.n G.mc, .int .i64 G.si, .int .i64 G.mo, .int .i64 G.wi, .string G.sa, .slice (fa2) (fn2) (fc2)] (.bool (R != -1)) rfl rfl bx6 (stc_bool _ _ _) (by show 0 < 12; decide) rfl ?_; intro w7 bx7 u7; have h7 := h6.setS (R != -1) R D2.qu bx7 u7))
        go_end0
        have e : fiV F G D2 Fr he le = ⟨R != -1, R, D2.bd, D2.tp, D2.qu, D2.tr⟩ := by unfold fiV; rw [HR.out, HSF.out]; simp
        try dsimp only
        rw [e]
        exact ⟨rfl, A2, fa2, fn2, fc2, h7⟩
      · have HSF : Hid (D2.sf = true) := hsf
        rw [hsf] at c0 bxr
        clear hsf
        obtain ⟨an, han⟩ : ∃ an, anN D2.tp A2.np = an := ⟨_, rfl⟩
        have HAN : Hid (anN D2.tp D2.tp.length = an) := by rw [HLP.out]; exact han
        rw [han] at hCt
        clear han
        cases le
        case false =>
          go_wp2
          go_end0
          have e : fiV F G D2 Fr he false = D2 := by unfold fiV; rw [HSF.out, HAN.out]; simp
          try dsimp only
          rw [e]
          exact ⟨rfl, A2, fa2, fn2, fc2, hW⟩
        cases he
        case false =>
          go_wp2
          go_end0
          have e : fiV F G D2 Fr false true = D2 := by unfold fiV; rw [HSF.out, HAN.out]; simp
          try dsimp only
          rw [e]
          exact ⟨rfl, A2, fa2, fn2, fc2, hW⟩
        cases an
        case true =>
          go_wp2_with (go_at_call 50; refine hCt.mono ?_; rintro e w5 ⟨rfl, hw⟩; have hw := hw.symm; subst hw)
          go_end0
          have e : fiV F G D2 Fr true true = D2 := by unfold fiV; rw [HSF.out, HAN.out]; simp
          try dsimp only
          rw [e]
          exact ⟨rfl, A2, fa2, fn2, fc2, hW⟩
        case false =>
          have ntb := hW.v.t.ne_box hW.box (by decide)
          go_wp2_with (first
            | (go_at_call 50; refine hCt.mono ?_; rintro e w5 ⟨rfl, hw⟩; have hw := hw.symm; subst hw; clear c0 c1 c2 c3 c4 c5 c6 c7 c8 c9 c10 c11; have s1 : True := trivial)
            | (have _t := s1; clear s1; refine wpList_stC _ rfl _ _ _ rfl g 0 69 _ #[.bool (false), .int .i64 (D2.wy), .slice (A2.ab) (A2.nb) (A2.cb), .slice (A2.ap) (A2.np) (A2.cp), .int .i64 (D2.qu), .slice (A2.at') (A2.nt) (A2.ct), .slice G.ma G.n G.mc, .int .i64 G.si, .int .i64 G.mo, .int .i64 G.wi, .string G.sa, .slice (fa2) (fn2) (fc2)] (.bool false) rfl rfl bxr (stc_bool _ _ _) (by show 0 < 12; decide) rfl ?_; intro w6 bx6 u6; have h6 := hW.setS false D2.wy D2.qu bx6 u6; have s2 : True := trivial)
            | (have _t := s2; clear s2; refine wpList_stC _ rfl _ _ _ rfl g 1 69 _ #[.bool (false), .int .i64 (-1), .slice (A2.ab) (A2.nb) (A2.cb), .slice (A2.ap) (A2.np) (A2.cp), .int .i64 (D2.qu), .slice (A2.at') (A2.nt) (A2.ct), .slice G.ma G.n G.mc, .int .i64 G.si, .int .i64 G.mo, .int .i64 G.wi, .string G.sa, .slice (fa2) (fn2) (fc2)] (.int .i64 (-1)) rfl rfl bx6 (stc_int _ _ _) (by show 1 < 12; decide) rfl ?_; intro w7 bx7 u7; have h7 := h6.setS false (-1) D2.qu bx7 u7; have s3 : True := trivial)
            | (have _t := s3; clear s3; refine wpList_stC _ rfl _ _ _ rfl g 5 69 _ #[.bool (false), .int .i64 (-1), .slice (A2.ab) (A2.nb) (A2.cb), .slice (A2.ap) (A2.np) (A2.cp), .int .i64 (D2.qu), .slice (none) (0) (0), .slice G.ma G.n G.mc, .int .i64 G.si, .int .i64 G.mo, .int .i64 G.wi, .string G.sa, .slice (fa2) (fn2) (fc2)] (.slice none 0 0) rfl rfl bx7 (stc_slI _ _ _ _ _) (by show 5 < 12; decide) rfl ?_; intro w8 bx8 u8; have h8 := h7.newT (a' := none) (n' := 0) (c' := 0) (tr := []) (AnsX.nil0 _ _ _) (World.grownBy.refl _ _) (fun x e => by cases e) bx8 u8))
          go_end0
          have e : fiV F G D2 Fr true true = ⟨false, -1, D2.bd, D2.tp, D2.qu, []⟩ := by unfold fiV; rw [HSF.out, HAN.out]; simp
          try dsimp only
          rw [e]
          exact ⟨rfl, _, fa2, fn2, fc2, h8⟩
end Go.Proofs.Ytnpkmjdlohdieaa
