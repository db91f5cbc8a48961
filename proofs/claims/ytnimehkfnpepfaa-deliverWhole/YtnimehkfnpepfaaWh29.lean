import Derived.Test.YtnimehkfnpepfaaWh28
namespace Go.Proofs.Ytnimehkfnpepfaa
open Go.RowKit
set_option maxRecDepth 100000
set_option linter.unusedVariables false
set_option linter.unusedSimpArgs false

section
theorem wpAnyZ_skipD {P : Program} {ops : Array Oper} {Q : Exit → Act → World → Prop} {md : Region.Mode} {S : World → Prop} {Z : List Nat} (C : List Nat) (i : Nat) {oi : Oper} {fuel : Nat} {listed : Array Bool} {a : Act} {w : World} (hi : ops[i]? = some oi)
    (hs : ((Z.all fun z => C.contains z) && Region.noSelect ops && Region.free md ops listed i && (Region.ready md ops listed).contains i && waitZ md ops listed i C) = true)
    (hQ : ∀ c a w, Q (.panic c) (a.put oi.dst undef) w → Q (.panic c) a w) (hS : S w) (hw : Region.wanted oi (yielded ops a.tmps) = false)
    (h : wpAnyZ P md ops Q S Z fuel (listed.setIfInBounds i true) (a.put oi.dst undef) w) : wpAnyZ P md ops Q S Z (fuel + 1) listed a w := by
  simp only [Bool.and_eq_true, List.contains_iff_mem, List.all_eq_true] at hs
  exact wpAnyZ_first hs.1.1.1.1 hi (Region.noSelect_spec hs.1.1.1.2) hQ fuel listed a w (Region.free_spec hi hs.1.1.2) hs.1.2 hs.2 (.inr ⟨hw, rfl⟩) hS h
def lenC (w : World) (gw : Nat) : Nat := match w.cell? ⟨gw, 13, none⟩ with
  | some (.slice _ n _) => n
  | _ => 0
theorem GA.lenC {wB w : World} {gw : Nat} {V : Gv} {T : List Nt} (h : GA wB w gw V T) : lenC w gw = T.length := by
  obtain ⟨a, c, q, d, na, nc, xs, hT, h⟩ := h
  have := h.bx.cell 13 (by show 13 < 14; decide)
  have this : w.cell? ⟨gw, 13, none⟩ = some (.slice na xs.length nc) := this
  unfold Go.Proofs.Ytnimehkfnpepfaa.lenC
  rw [this, ← hT, List.length_map]
theorem GA.keepN {wB w w' : World} {gw : Nat} {V : Gv} {T : List Nt} (h : GA wB w gw V T) (u : w.grownBy w' none) : GA wB w' gw V T := by
  obtain ⟨a, c, q, d, na, nc, xs, hT, h⟩ := h
  exact ⟨a, c, q, d, na, nc, xs, hT, GW.keepN h u⟩
theorem snV_bu (V : Gv) : (snV V).1.bu = V.bu := by
  unfold snV
  by_cases e : V.fi = true
  · rw [if_pos e]
  · rw [if_neg e]
    cases hG : V.G with
    | cons p G =>
      show (agD V p G).1.bu = _
      unfold agD; by_cases e1 : p.1 = 0 ∧ p.2 = 0
      · rw [if_pos e1]
      · rw [if_neg e1]
    | nil =>
      dsimp only
      by_cases e1 : V.st ≠ 0
      · rw [if_pos e1]
      · rw [if_neg e1]
        by_cases e2 : V.at' < (V.L.length : Int)
        · rw [if_pos e2]
        · rw [if_neg e2]

set_option maxHeartbeats 32000000 in
theorem tick_any (wB w : World) (gw : Nat) (V : Gv) (h : GA wB w gw V []) (ho : GvO V) (B : Nat) (hB : V.bu = (B : Int)) (hB9 : B ≤ 900) (hst : 0 ≤ V.st ∧ V.st ≤ 4) : Calls Try.prog 68 #[.pointer (some ⟨gw, 0, none⟩)] w fun e w' => e = .returned (.tuple #[]) ∧ GA wB w' gw (tiG V).1 (tiG V).2 ∧ KpT w w' := by
  have hGA : Hid _ := h
  have hB2 : V.bu.toNat = B := by omega
  have x5 : w.cell? ⟨gw, 5, none⟩ = some (.int .i64 V.st) := by
    obtain ⟨a, c, q, d, na, nc, xs, hT, h⟩ := h
    exact h.bx.cell 5 (by show 5 < 14; decide)
  clear h
  have HO : Hid _ := ho
  have HB : Hid _ := hB
  have HB2 : Hid _ := hB2
  clear ho hB hB2
  by_cases hs34 : V.st = 3 ∨ V.st = 4
  · have HX : Hid (tiG V = (V, [])) := by show _ = _; unfold tiG; rw [if_pos hs34]
    have HS : Hid _ := hs34
    generalize hs : V.st = s at x5 hs34 hst
    have HSS : Hid _ := hs
    clear hs
    rcases hs34 with rfl | rfl
    · go_enter Try.func68, Try.ntmps68
      go_wp2
      first | go_end0 | refine bodyPost_ret (results_none rfl _ _ _) rfl ?_
      refine ⟨rfl, ?_, fun g cs hb => hb⟩
      rw [HX.out]
      exact hGA.out
    · go_enter Try.func68, Try.ntmps68
      go_wp2
      first | go_end0 | refine bodyPost_ret (results_none rfl _ _ _) rfl ?_
      refine ⟨rfl, ?_, fun g cs hb => hb⟩
      rw [HX.out]
      exact hGA.out
  · obtain ⟨wt, hwt⟩ : ∃ wt : Bool, (V.st != 0) = wt := ⟨_, rfl⟩
    have HX : Hid (tiG V = if wt = true then ((wtV (gvL B V []).1).1, (gvL B V []).2 ++ (wtV (gvL B V []).1).2) else gvL B V []) := by
      show _ = _
      unfold tiG
      rw [if_neg hs34, HB2.out, ← hwt]
      by_cases e : V.st = 0
      · rw [if_neg (fun h9 => h9 e), e]; rfl
      · rw [if_pos e, bne_iff_ne.2 e]; rfl
    have h3 : (V.st == 3) = false := beq_eq_false_iff_ne.2 (fun e => hs34 (.inl e))
    have h4 : (V.st == 4) = false := beq_eq_false_iff_ne.2 (fun e => hs34 (.inr e))
    have h3' : ¬ V.st = 3 := fun e => hs34 (.inl e)
    have h4' : ¬ V.st = 4 := fun e => hs34 (.inr e)
    have HW : Hid _ := hwt
    clear hs34 hwt
    go_enter Try.func68, Try.ntmps68
    refine wp_seq_k fun K1 hK1 => ?_
    have HK1 : Hid _ := hK1
    clear hK1
    go_wp2
    refine HK1.out _ _ ?_
    clear HK1
    refine wp_seq_k fun K2 hK2 => ?_
    have HK2 : Hid _ := hK2
    clear hK2
    go_wp2
    refine HK2.out _ _ ?_
    clear HK2
    rw [HW.out]
    refine wp_seq_k fun K3 hK3 => ?_
    have HK3 : Hid _ := hK3
    clear hK3
    go_wp2
    go_loopw [] (fun wr => ∃ (k : Nat) (V1 : Gv) (T1 : List Nt), T1.length + k = B ∧ GA wB wr gw V1 T1 ∧ GvO V1 ∧ Hid (V1.bu = (B : Int)) ∧ Hid (gvL k V1 T1 = gvL B V []) ∧ KpT w wr) (fun wr => B - lenC wr gw)
    case atStart => exact ⟨B, V, [], by show 0 + B = B; omega, hGA.out, HO.out, HB.out, rfl, fun g cs hb => hb⟩
    case round =>
      obtain ⟨k, V1, T1, hk, hG1, hO1, HB1, HE, KP⟩ := hrel
      have hL0 := hG1.lenC
      have HG1 : Hid _ := hG1
      have HO1 : Hid _ := hO1
      obtain ⟨a, c, q, d, na, nc, xs, hT, h1⟩ := hG1
      have hxl : xs.length = T1.length := by rw [← hT, List.length_map]
      have HT : Hid _ := hT
      clear hT hO1
      have Gd := grown_drew wr none
      have SS : BxS wr.drew gw 100 #[.int .i64 V1.id, .string V1.nm, .slice a V1.L.length c, .int .i64 V1.mo, .int .i64 V1.bu, .int .i64 V1.st, .bool V1.fi, .int .i64 V1.at', .slice q V1.G.length d, .int .i64 V1.ti, .int .i64 V1.pa, .int .i64 V1.tr, .int .i64 V1.li, .slice na xs.length nc] := h1.bx.keep Gd (by simp)
      have hbu : V1.bu = (B : Int) := HB1.out
      cases k with
      | zero =>
        have hlt : ¬ (xs.length : Int) < V1.bu := by omega
        have HE0 : Hid (gvL B V [] = (V1, T1)) := HE.out.symm
        clear hbu hxl
        refine wp_seq_k fun K4 hK4 => ?_
        have HK4 : Hid _ := hK4
        clear hK4
        refine wp_seq_k fun K5 hK5 => ?_
        have HK5 : Hid _ := hK5
        clear hK5
        refine wp_regionL (fun wz => BxS wz gw 100 #[.int .i64 V1.id, .string V1.nm, .slice a V1.L.length c, .int .i64 V1.mo, .int .i64 V1.bu, .int .i64 V1.st, .bool V1.fi, .int .i64 V1.at', .slice q V1.G.length d, .int .i64 V1.ti, .int .i64 V1.pa, .int .i64 V1.tr, .int .i64 V1.li, .slice na xs.length nc]) [] #[false, false, false, false, false, false, false, false, false, false, false, false, false, false, false] rfl (by kernel_rfl) ?_
        refine wpAnyZ_take [] 0 (.pointer (some ⟨gw, 0, none⟩)) rfl (by kernel_rfl) (fun _ _ _ h => h) SS rfl (by intro wz hz; go_simp) ?_
        try simp only [zc1, zc2, zc3, Act.put, zc4, zc5, zc6]
        refine wpAnyZ_take [] 1 (.pointer (some ⟨gw, 0, none⟩)) rfl (by kernel_rfl) (fun _ _ _ h => h) SS rfl (by intro wz hz; go_simp) ?_
        try simp only [zc1, zc2, zc3, Act.put, zc4, zc5, zc6]
        refine wpAnyZ_take [] 2 (.pointer (some ⟨gw, 13, none⟩)) rfl (by kernel_rfl) (fun _ _ _ h => h) SS rfl (by intro wz hz; go_simp) ?_
        try simp only [zc1, zc2, zc3, Act.put, zc4, zc5, zc6]
        refine wpAnyZ_take [] 3 (.slice na xs.length nc) rfl (by kernel_rfl) (fun _ _ _ h => h) SS rfl (by intro wz hz; have z : wz.cell? ⟨gw, 13, none⟩ = some (.slice na xs.length nc) := hz.cell 13 (by show 13 < 14; decide); go_simp) ?_
        try simp only [zc1, zc2, zc3, Act.put, zc4, zc5, zc6]
        refine wpAnyZ_take [] 4 (.int .i64 (xs.length : Int)) rfl (by kernel_rfl) (fun _ _ _ h => h) SS rfl (by intro wz hz; go_simp) ?_
        try simp only [zc1, zc2, zc3, Act.put, zc4, zc5, zc6]
        refine wpAnyZ_take [] 5 (.pointer (some ⟨gw, 0, none⟩)) rfl (by kernel_rfl) (fun _ _ _ h => h) SS rfl (by intro wz hz; go_simp) ?_
        try simp only [zc1, zc2, zc3, Act.put, zc4, zc5, zc6]
        refine wpAnyZ_take [] 6 (.pointer (some ⟨gw, 0, none⟩)) rfl (by kernel_rfl) (fun _ _ _ h => h) SS rfl (by intro wz hz; go_simp) ?_
        try simp only [zc1, zc2, zc3, Act.put, zc4, zc5, zc6]
        refine wpAnyZ_take [] 7 (.pointer (some ⟨gw, 0, none⟩)) rfl (by kernel_rfl) (fun _ _ _ h => h) SS rfl (by intro wz hz; go_simp) ?_
        try simp only [zc1, zc2, zc3, Act.put, zc4, zc5, zc6]
        refine wpAnyZ_take [] 8 (.pointer (some ⟨gw, 4, none⟩)) rfl (by kernel_rfl) (fun _ _ _ h => h) SS rfl (by intro wz hz; go_simp) ?_
        try simp only [zc1, zc2, zc3, Act.put, zc4, zc5, zc6]
        refine wpAnyZ_take [] 9 (.int .i64 V1.bu) rfl (by kernel_rfl) (fun _ _ _ h => h) SS rfl (by intro wz hz; have z : wz.cell? ⟨gw, 4, none⟩ = some (.int .i64 V1.bu) := hz.cell 4 (by show 4 < 14; decide); go_simp) ?_
        try simp only [zc1, zc2, zc3, Act.put, zc4, zc5, zc6]
        refine wpAnyZ_take [] 10 (.bool false) rfl (by kernel_rfl) (fun _ _ _ h => h) SS rfl (by intro wz hz; go_simp) ?_
        try simp only [zc1, zc2, zc3, Act.put, zc4, zc5, zc6]
        refine wpAnyZ_take [] 11 (.bool false) rfl (by kernel_rfl) (fun _ _ _ h => h) SS rfl (by intro wz hz; go_simp) ?_
        try simp only [zc1, zc2, zc3, Act.put, zc4, zc5, zc6]
        refine wpAnyZ_skipD [] 12 rfl (by kernel_rfl) (fun _ _ _ h => h) SS rfl ?_
        try simp only [zc1, zc2, zc3, Act.put, zc4, zc5, zc6]
        refine wpAnyZ_skipD [] 13 rfl (by kernel_rfl) (fun _ _ _ h => h) SS rfl ?_
        try simp only [zc1, zc2, zc3, Act.put, zc4, zc5, zc6]
        refine wpAnyZ_take [] 14 (.bool false) rfl (by kernel_rfl) (fun _ _ _ h => h) SS rfl (by intro wz hz; go_simp) ?_
        try simp only [zc1, zc2, zc3, Act.put, zc4, zc5, zc6]
        refine wpAnyZ_doneB (by kernel_rfl) ?_ _
        refine HK5.out _ _ ?_
        clear HK5
        have KP2 := KP.trans (KpT.none Gd)
        have hG2 := GA.keepN HG1.out Gd
        have HG2 : Hid _ := hG2
        clear SS Gd h1 hG2
        generalize wr.drew = w2 at *
        refine wp_cond_false rfl ?_
        clear HK4
        go_wp2
        try simp only [Exit.inBlock, Exit.then]
        refine HK3.out _ _ ?_
        clear HK3
        cases wt with
        | false =>
          go_wp2
          first | go_end0 | refine bodyPost_ret (results_none rfl _ _ _) rfl ?_
          refine ⟨rfl, ?_, KP2⟩
          rw [HX.out]
          first | rw [if_neg (by decide)] | rw [if_neg (fun h => h)]
          rw [HE0.out]
          exact HG2.out
        | true =>
          have hgl := gvL_len B V [] HO.out
          rw [HE0.out] at hgl
          have hgl2 : (T1).length ≤ 0 + B := hgl
          go_wp2_with (go_at_call 95; refine (wait_any wB w2 gw V1 T1 HG2.out HO1.out (by omega)).mono ?_; rintro e w9 ⟨rfl, h9, k9⟩)
          first | go_end0 | refine bodyPost_ret (results_none rfl _ _ _) rfl ?_
          refine ⟨rfl, ?_, KP2.trans k9⟩
          rw [HX.out]
          first | rw [if_pos rfl] | rw [if_pos trivial]
          rw [HE0.out]
          exact h9
      | succ k =>
        have hlt : (xs.length : Int) < V1.bu := by omega
        clear hbu hxl
        refine wp_seq_k fun K4 hK4 => ?_
        have HK4 : Hid _ := hK4
        clear hK4
        refine wp_seq_k fun K5 hK5 => ?_
        have HK5 : Hid _ := hK5
        clear hK5
        refine wp_regionL (fun wz => BxS wz gw 100 #[.int .i64 V1.id, .string V1.nm, .slice a V1.L.length c, .int .i64 V1.mo, .int .i64 V1.bu, .int .i64 V1.st, .bool V1.fi, .int .i64 V1.at', .slice q V1.G.length d, .int .i64 V1.ti, .int .i64 V1.pa, .int .i64 V1.tr, .int .i64 V1.li, .slice na xs.length nc]) [13, 14] #[false, false, false, false, false, false, false, false, false, false, false, false, false, false, false] rfl (by kernel_rfl) ?_
        refine wpAnyZ_take [1, 2, 3, 4, 10, 11, 13, 14] 0 (.pointer (some ⟨gw, 0, none⟩)) rfl (by kernel_rfl) (fun _ _ _ h => h) SS rfl (by intro wz hz; go_simp) ?_
        try simp only [zc1, zc2, zc3, Act.put, zc4, zc5, zc6]
        refine wpAnyZ_take [2, 3, 4, 10, 11, 13, 14] 1 (.pointer (some ⟨gw, 0, none⟩)) rfl (by kernel_rfl) (fun _ _ _ h => h) SS rfl (by intro wz hz; go_simp) ?_
        try simp only [zc1, zc2, zc3, Act.put, zc4, zc5, zc6]
        refine wpAnyZ_take [3, 4, 10, 11, 13, 14] 2 (.pointer (some ⟨gw, 13, none⟩)) rfl (by kernel_rfl) (fun _ _ _ h => h) SS rfl (by intro wz hz; go_simp) ?_
        try simp only [zc1, zc2, zc3, Act.put, zc4, zc5, zc6]
        refine wpAnyZ_take [4, 10, 11, 13, 14] 3 (.slice na xs.length nc) rfl (by kernel_rfl) (fun _ _ _ h => h) SS rfl (by intro wz hz; have z : wz.cell? ⟨gw, 13, none⟩ = some (.slice na xs.length nc) := hz.cell 13 (by show 13 < 14; decide); go_simp) ?_
        try simp only [zc1, zc2, zc3, Act.put, zc4, zc5, zc6]
        refine wpAnyZ_take [10, 11, 13, 14] 4 (.int .i64 (xs.length : Int)) rfl (by kernel_rfl) (fun _ _ _ h => h) SS rfl (by intro wz hz; go_simp) ?_
        try simp only [zc1, zc2, zc3, Act.put, zc4, zc5, zc6]
        refine wpAnyZ_take [6, 7, 8, 9, 10, 11, 13, 14] 5 (.pointer (some ⟨gw, 0, none⟩)) rfl (by kernel_rfl) (fun _ _ _ h => h) SS rfl (by intro wz hz; go_simp) ?_
        try simp only [zc1, zc2, zc3, Act.put, zc4, zc5, zc6]
        refine wpAnyZ_take [7, 8, 9, 10, 11, 13, 14] 6 (.pointer (some ⟨gw, 0, none⟩)) rfl (by kernel_rfl) (fun _ _ _ h => h) SS rfl (by intro wz hz; go_simp) ?_
        try simp only [zc1, zc2, zc3, Act.put, zc4, zc5, zc6]
        refine wpAnyZ_take [8, 9, 10, 11, 13, 14] 7 (.pointer (some ⟨gw, 0, none⟩)) rfl (by kernel_rfl) (fun _ _ _ h => h) SS rfl (by intro wz hz; go_simp) ?_
        try simp only [zc1, zc2, zc3, Act.put, zc4, zc5, zc6]
        refine wpAnyZ_take [9, 10, 11, 13, 14] 8 (.pointer (some ⟨gw, 4, none⟩)) rfl (by kernel_rfl) (fun _ _ _ h => h) SS rfl (by intro wz hz; go_simp) ?_
        try simp only [zc1, zc2, zc3, Act.put, zc4, zc5, zc6]
        refine wpAnyZ_take [10, 11, 13, 14] 9 (.int .i64 V1.bu) rfl (by kernel_rfl) (fun _ _ _ h => h) SS rfl (by intro wz hz; have z : wz.cell? ⟨gw, 4, none⟩ = some (.int .i64 V1.bu) := hz.cell 4 (by show 4 < 14; decide); go_simp) ?_
        try simp only [zc1, zc2, zc3, Act.put, zc4, zc5, zc6]
        refine wpAnyZ_take [11, 13, 14] 10 (.bool true) rfl (by kernel_rfl) (fun _ _ _ h => h) SS rfl (by intro wz hz; go_simp) ?_
        try simp only [zc1, zc2, zc3, Act.put, zc4, zc5, zc6]
        refine wpAnyZ_take [13, 14] 11 (.bool true) rfl (by kernel_rfl) (fun _ _ _ h => h) SS rfl (by intro wz hz; go_simp) ?_
        try simp only [zc1, zc2, zc3, Act.put, zc4, zc5, zc6]
        refine wpAnyZ_take [13, 14] 12 (.pointer (some ⟨gw, 0, none⟩)) rfl (by kernel_rfl) (fun _ _ _ h => h) SS rfl (by intro wz hz; go_simp) ?_
        try simp only [zc1, zc2, zc3, Act.put, zc4, zc5, zc6]
        have KP2 := KP.trans (KpT.none Gd)
        have hG2 := GA.keepN HG1.out Gd
        have HG2 : Hid _ := hG2
        clear SS Gd h1 hG2
        generalize wr.drew = w2 at *
        refine wpAnyZ_oneB 13 rfl (by kernel_rfl) (fun KK hKK => ?_)
        go_simp
        go_at_call 94
        refine (sendNext_any wB w2 gw V1 T1 HG2.out HO1.out (by omega)).mono ?_
        rintro e w5 ⟨rfl, h5, k5⟩
        dsimp only
        refine hKK _ _ (fun h => absurd (by decide) h) ?_
        try simp only [zc1, zc2, zc3, Act.put, zc4, zc5, zc6]
        obtain ⟨cc, hcc⟩ : ∃ cc, (snV V1).2.2 = cc := ⟨_, rfl⟩
        rw [hcc]
        have HCC : Hid _ := hcc
        have HH5 : Hid _ := h5
        clear hcc h5
        refine wpAnyZ_takeF 14 (.bool cc) rfl (by kernel_rfl) (fun _ _ _ h => h) rfl (by intro wz; go_simp) ?_
        try simp only [zc1, zc2, zc3, Act.put, zc4, zc5, zc6]
        refine wpAnyZ_doneB (by kernel_rfl) ?_ _
        refine HK5.out _ _ ?_
        clear HK5
        have KP5 := KP2.trans k5
        have hsn := snV_ok HO1.out
        have HSN : Hid _ := hsn
        clear hsn
        cases cc with
        | false =>
          have HE0 : Hid (gvL B V [] = ((snV V1).1, T1 ++ (snV V1).2.1)) := by
            show _ = _
            rw [← HE.out]
            show (if (snV V1).2.2 = true then _ else _) = _
            rw [HCC.out, if_neg (by decide)]
          refine wp_cond_false rfl ?_
          clear HK4
          go_wp2
          try simp only [Exit.inBlock, Exit.then]
          have HO5 : Hid (GvO (snV V1).1) := HSN.out.1
          refine HK3.out _ _ ?_
          clear HK3
          cases wt with
          | false =>
            go_wp2
            first | go_end0 | refine bodyPost_ret (results_none rfl _ _ _) rfl ?_
            refine ⟨rfl, ?_, KP5⟩
            rw [HX.out]
            first | rw [if_neg (by decide)] | rw [if_neg (fun h => h)]
            rw [HE0.out]
            exact HH5.out
          | true =>
            have hgl := gvL_len B V [] HO.out
            rw [HE0.out] at hgl
            have hgl2 : ((T1 ++ (snV V1).2.1)).length ≤ 0 + B := hgl
            go_wp2_with (go_at_call 95; refine (wait_any wB w5 gw (snV V1).1 (T1 ++ (snV V1).2.1) HH5.out HO5.out (by omega)).mono ?_; rintro e w9 ⟨rfl, h9, k9⟩)
            first | go_end0 | refine bodyPost_ret (results_none rfl _ _ _) rfl ?_
            refine ⟨rfl, ?_, KP5.trans k9⟩
            rw [HX.out]
            first | rw [if_pos rfl] | rw [if_pos trivial]
            rw [HE0.out]
            exact h9
        | true =>
          have HE0 : Hid (gvL k (snV V1).1 (T1 ++ (snV V1).2.1) = gvL B V []) := by
            show _ = _
            rw [← HE.out]
            show _ = (if (snV V1).2.2 = true then _ else _)
            rw [HCC.out, if_pos rfl]
          have hl1 : (snV V1).2.1.length = 1 := HSN.out.2.1 HCC.out
          have hl2 : (T1 ++ (snV V1).2.1).length = T1.length + 1 := by rw [List.length_append, hl1]
          have hL5 := GA.lenC HH5.out
          rw [hl2] at hL5
          have HB5 : Hid ((snV V1).1.bu = (B : Int)) := by show _ = _; rw [snV_bu]; exact HB1.out
          refine wp_cond_true rfl ?_
          refine wp_skip ?_
          try simp only [Exit.then]
          refine HK4.out _ _ ?_
          clear HK4
          clear hl1
          have HHL2 : Hid _ := hl2
          have HL5 : Hid _ := hL5
          have HL0 : Hid _ := hL0
          clear hl2 hL5 hL0
          go_wp2
          go_roundw
          case rel => exact ⟨k, _, _, by rw [HHL2.out]; omega, HH5.out, HSN.out.1, HB5, HE0, KP5⟩
          case measure => show B - lenC w5 gw < B - lenC wr gw; rw [HL5.out, HL0.out]; omega
end
end Go.Proofs.Ytnimehkfnpepfaa
