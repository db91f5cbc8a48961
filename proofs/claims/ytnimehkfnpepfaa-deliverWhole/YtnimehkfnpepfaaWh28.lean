import Derived.Test.YtnimehkfnpepfaaWh27
namespace Go.Proofs.Ytnimehkfnpepfaa
open Go.RowKit
set_option maxRecDepth 100000
set_option linter.unusedVariables false
set_option linter.unusedSimpArgs false

section
set_option maxHeartbeats 32000000 in
theorem sendNext_any (wB w : World) (gw : Nat) (V : Gv) (T : List Nt) (h : GA wB w gw V T) (ho : GvO V) (hT1 : T.length ≤ 1000) : Calls Try.prog 94 #[.pointer (some ⟨gw, 0, none⟩)] w fun e w' => e = .returned (.bool (snV V).2.2) ∧ GA wB w' gw (snV V).1 (T ++ (snV V).2.1) ∧ KpT w w' := by
  have hGA : Hid _ := h
  obtain ⟨a, c, q, d, na, nc, xs, hT, h⟩ := h
  obtain ⟨id, nm, mo, bu, st, fi, at', ti, pa, tr, li, L, G⟩ := V
  have HO : Hid _ := ho
  have hmo := ho.mo
  have hn9 := ho.n9
  have hat := ho.at0
  dsimp only at h hmo hn9 hat
  have HTL : Hid _ := hT1
  have hxl : xs.length ≤ 1000 := by rw [← hT, List.length_map] at hT1; exact hT1
  have HT : Hid _ := hT
  clear hT1 ho hT
  have x6 : w.cell? ⟨gw, 6, none⟩ = some (.bool fi) := h.bx.cell 6 (by show 6 < 14; decide)
  have x8 : w.cell? ⟨gw, 8, none⟩ = some (.slice q G.length d) := h.bx.cell 8 (by show 8 < 14; decide)
  have x5 : w.cell? ⟨gw, 5, none⟩ = some (.int .i64 st) := h.bx.cell 5 (by show 5 < 14; decide)
  go_enter Try.func94, Try.ntmps94
  refine wp_seq_k fun K1 hK1 => ?_
  have HK1 : Hid _ := hK1
  clear hK1
  go_wp2
  refine HK1.out _ _ ?_
  clear HK1
  refine wp_seq_k fun K2 hK2 => ?_
  have HK2 : Hid _ := hK2
  clear hK2
  refine wp_block ?_
  refine wp_seq_k fun K3 hK3 => ?_
  have HK3 : Hid _ := hK3
  clear hK3
  go_wp2
  refine HK3.out _ _ ?_
  clear HK3
  cases fi with
  | true =>
    have HX : Hid (snV (⟨id, nm, mo, bu, st, true, at', ti, pa, tr, li, L, G⟩ : Gv) = ((⟨id, nm, mo, bu, st, false, at', ti, pa, tr, li, L, G⟩ : Gv), [ntMeta (⟨id, nm, mo, bu, st, true, at', ti, pa, tr, li, L, G⟩ : Gv)], true)) := rfl
    refine wp_cond_true rfl ?_
    refine wp_seq_k fun K4 hK4 => ?_
    have HK4 : Hid _ := hK4
    clear hK4
    have s0 : True := trivial
    go_wp2_with (have _t := s0; clear s0; refine wpList_stC _ rfl _ _ _ rfl gw 6 100 _ #[.int .i64 id, .string nm, .slice a L.length c, .int .i64 mo, .int .i64 bu, .int .i64 st, .bool false, .int .i64 at', .slice q G.length d, .int .i64 ti, .int .i64 pa, .int .i64 tr, .int .i64 li, .slice na xs.length nc] (.bool false) rfl rfl h.bx (stc_bool _ _ _) (by show 6 < 14; decide) rfl ?_; intro w1 bw1 uw1)
    refine HK4.out _ _ ?_
    clear HK4
    have h1 := h.set uw1 bw1
    have k1 := KpT.bx h.bx (by decide) uw1
    go_wp2_with (go_at_call 113; refine (sendMeta_any _ _ _ _ _ _ _ _ _ _ _ _ _ _ _ _ _ _ _ _ _ _ _ _ _ _ h1 (by omega)).mono ?_; rintro e w5 ⟨rfl, ⟨na5, nc5, h5⟩, f5⟩)
    try simp only [Exit.inBlock, Exit.then]
    refine HK2.out _ _ ?_
    clear HK2
    go_wp2
    have k5 := k1.trans (f5.kp h1)
    try go_ret
    refine (show (Ending.returned (.bool true) = Ending.returned (.bool (snV (⟨id, nm, mo, bu, st, true, at', ti, pa, tr, li, L, G⟩ : Gv)).2.2) ∧ GA wB w5 gw (snV (⟨id, nm, mo, bu, st, true, at', ti, pa, tr, li, L, G⟩ : Gv)).1 (T ++ (snV (⟨id, nm, mo, bu, st, true, at', ti, pa, tr, li, L, G⟩ : Gv)).2.1) ∧ KpT w w5) from ?_)
    rw [HX.out]
    exact ⟨rfl, GA.of (map_one HT.out _ _ rfl) (V := (⟨id, nm, mo, bu, st, false, at', ti, pa, tr, li, L, G⟩ : Gv)) h5, k5⟩
  | false =>
    refine wp_cond_false rfl ?_
    cases G with
    | cons p G =>
      have HX : Hid (snV (⟨id, nm, mo, bu, st, false, at', ti, pa, tr, li, L, p :: G⟩ : Gv) = ((agD (⟨id, nm, mo, bu, st, false, at', ti, pa, tr, li, L, p :: G⟩ : Gv) p G).1, (agD (⟨id, nm, mo, bu, st, false, at', ti, pa, tr, li, L, p :: G⟩ : Gv) p G).2, true)) := rfl
      have hgl : (0 : Int) < ((p :: G).length : Int) := by rw [List.length_cons]; omega
      refine wp_seq_k fun K4 hK4 => ?_
      have HK4 : Hid _ := hK4
      clear hK4
      go_wp2
      refine HK4.out _ _ ?_
      clear HK4
      refine wp_cond_true rfl ?_
      go_wp2_with (go_at_call 114; refine (sendAgain_any wB w gw (⟨id, nm, mo, bu, st, false, at', ti, pa, tr, li, L, p :: G⟩ : Gv) T p G rfl hGA.out HO.out HTL.out).mono ?_; rintro e w5 ⟨rfl, h5, k5⟩)
      try simp only [Exit.inBlock, Exit.then]
      refine HK2.out _ _ ?_
      clear HK2
      go_wp2
      try go_ret
      refine (show (Ending.returned (.bool true) = Ending.returned (.bool (snV (⟨id, nm, mo, bu, st, false, at', ti, pa, tr, li, L, p :: G⟩ : Gv)).2.2) ∧ GA wB w5 gw (snV (⟨id, nm, mo, bu, st, false, at', ti, pa, tr, li, L, p :: G⟩ : Gv)).1 (T ++ (snV (⟨id, nm, mo, bu, st, false, at', ti, pa, tr, li, L, p :: G⟩ : Gv)).2.1) ∧ KpT w w5) from ?_)
      rw [HX.out]
      exact ⟨rfl, h5, k5⟩
    | nil =>
      have x8 : w.cell? ⟨gw, 8, none⟩ = some (.slice q 0 d) := x8
      have hn0 : ¬ (0 : Int) < ((0 : Nat) : Int) := by omega
      refine wp_seq_k fun K4 hK4 => ?_
      have HK4 : Hid _ := hK4
      clear hK4
      go_wp2
      refine HK4.out _ _ ?_
      clear HK4
      refine wp_cond_false rfl ?_
      by_cases hs0 : st = 0
      · subst hs0
        refine wp_seq_k fun K4 hK4 => ?_
        have HK4 : Hid _ := hK4
        clear hK4
        go_wp2
        refine HK4.out _ _ ?_
        clear HK4
        refine wp_cond_false rfl ?_
        obtain ⟨x, rfl⟩ : ∃ k : Nat, at' = (k : Int) := ⟨at'.toNat, by omega⟩
        clear x5 x6 x8
        refine wp_seq_k fun K4 hK4 => ?_
        have HK4 : Hid _ := hK4
        clear hK4
        by_cases hlt : x < L.length
        · have hlt' : (x : Int) < (L.length : Int) := by omega
          obtain ⟨k, hk⟩ : ∃ k : Nat, mo = (k : Int) := ⟨mo.toNat, by omega⟩
          obtain ⟨en, hen⟩ : ∃ en, enN (⟨id, nm, mo, bu, 0, false, (x : Int), ti, pa, tr, li, L, []⟩ : Gv) x L.length = en := ⟨_, rfl⟩
          have hen2 : en = if x + k ≤ L.length then x + k else L.length := by
            rw [← hen]; unfold enN; show (if x + mo.toNat ≤ L.length then x + mo.toNat else L.length) = _; rw [hk, Int.toNat_natCast]
          have hk1 : 1 ≤ k ∧ k ≤ 1024 := by omega
          have HKK : Hid _ := hk
          have HEN2 : Hid _ := hen2
          have HX : Hid (snV (⟨id, nm, mo, bu, 0, false, (x : Int), ti, pa, tr, li, L, []⟩ : Gv) = ((⟨id, nm, mo, bu, 0, false, (en : Int), ti, pa, tr, li, L, []⟩ : Gv), [ntPie (⟨id, nm, mo, bu, 0, false, (x : Int), ti, pa, tr, li, L, []⟩ : Gv) x en], true)) := by
            show _ = _
            unfold snV
            rw [if_neg (show ¬ (false = true) by decide)]
            show (if (0 : Int) ≠ 0 then _ else if (x : Int) < (L.length : Int) then _ else _) = _
            rw [if_neg (by decide), if_pos hlt', Int.toNat_natCast, hen]
          clear hk hen hen2
          have Gd := grown_drew w none
          have hd := h.keepN Gd
          have SS : BxS w.drew gw 100 #[.int .i64 id, .string nm, .slice a L.length c, .int .i64 mo, .int .i64 bu, .int .i64 0, .bool false, .int .i64 (x : Int), .slice q ([] : List (Int × Int)).length d, .int .i64 ti, .int .i64 pa, .int .i64 tr, .int .i64 li, .slice na xs.length nc] := hd.bx
          refine wp_regionL (fun wz => BxS wz gw 100 #[.int .i64 id, .string nm, .slice a L.length c, .int .i64 mo, .int .i64 bu, .int .i64 0, .bool false, .int .i64 (x : Int), .slice q ([] : List (Int × Int)).length d, .int .i64 ti, .int .i64 pa, .int .i64 tr, .int .i64 li, .slice na xs.length nc]) [] #[false, false, false, false, false, false, false, false, false, false, false, false, false] rfl (by kernel_rfl) ?_
          refine wpAnyZ_take [] 0 (.pointer (some ⟨gw, 0, none⟩)) rfl (by kernel_rfl) (fun _ _ _ h => h) SS rfl (by intro wz hz; go_simp) ?_
          try simp only [zc1, zc2, zc3, Act.put, zc4, zc5, zc6]
          refine wpAnyZ_take [] 1 (.pointer (some ⟨gw, 0, none⟩)) rfl (by kernel_rfl) (fun _ _ _ h => h) SS rfl (by intro wz hz; go_simp) ?_
          try simp only [zc1, zc2, zc3, Act.put, zc4, zc5, zc6]
          refine wpAnyZ_take [] 2 (.pointer (some ⟨gw, 0, none⟩)) rfl (by kernel_rfl) (fun _ _ _ h => h) SS rfl (by intro wz hz; go_simp) ?_
          try simp only [zc1, zc2, zc3, Act.put, zc4, zc5, zc6]
          refine wpAnyZ_take [] 3 (.pointer (some ⟨gw, 7, none⟩)) rfl (by kernel_rfl) (fun _ _ _ h => h) SS rfl (by intro wz hz; go_simp) ?_
          try simp only [zc1, zc2, zc3, Act.put, zc4, zc5, zc6]
          refine wpAnyZ_take [] 4 (.int .i64 (x : Int)) rfl (by kernel_rfl) (fun _ _ _ h => h) SS rfl (by intro wz hz; have z : wz.cell? ⟨gw, 7, none⟩ = some (.int .i64 (x : Int)) := hz.cell 7 (by show 7 < 14; decide); go_simp) ?_
          try simp only [zc1, zc2, zc3, Act.put, zc4, zc5, zc6]
          refine wpAnyZ_take [] 5 (.pointer (some ⟨gw, 0, none⟩)) rfl (by kernel_rfl) (fun _ _ _ h => h) SS rfl (by intro wz hz; go_simp) ?_
          try simp only [zc1, zc2, zc3, Act.put, zc4, zc5, zc6]
          refine wpAnyZ_take [] 6 (.pointer (some ⟨gw, 0, none⟩)) rfl (by kernel_rfl) (fun _ _ _ h => h) SS rfl (by intro wz hz; go_simp) ?_
          try simp only [zc1, zc2, zc3, Act.put, zc4, zc5, zc6]
          refine wpAnyZ_take [] 7 (.pointer (some ⟨gw, 0, none⟩)) rfl (by kernel_rfl) (fun _ _ _ h => h) SS rfl (by intro wz hz; go_simp) ?_
          try simp only [zc1, zc2, zc3, Act.put, zc4, zc5, zc6]
          refine wpAnyZ_take [] 8 (.pointer (some ⟨gw, 2, none⟩)) rfl (by kernel_rfl) (fun _ _ _ h => h) SS rfl (by intro wz hz; go_simp) ?_
          try simp only [zc1, zc2, zc3, Act.put, zc4, zc5, zc6]
          refine wpAnyZ_take [] 9 (.slice a L.length c) rfl (by kernel_rfl) (fun _ _ _ h => h) SS rfl (by intro wz hz; have z : wz.cell? ⟨gw, 2, none⟩ = some (.slice a L.length c) := hz.cell 2 (by show 2 < 14; decide); go_simp) ?_
          try simp only [zc1, zc2, zc3, Act.put, zc4, zc5, zc6]
          refine wpAnyZ_take [] 10 (.int .i64 (L.length : Int)) rfl (by kernel_rfl) (fun _ _ _ h => h) SS rfl (by intro wz hz; go_simp) ?_
          try simp only [zc1, zc2, zc3, Act.put, zc4, zc5, zc6]
          refine wpAnyZ_take [] 11 (.bool true) rfl (by kernel_rfl) (fun _ _ _ h => h) SS rfl (by intro wz hz; go_simp) ?_
          try simp only [zc1, zc2, zc3, Act.put, zc4, zc5, zc6]
          refine wpAnyZ_take [] 12 (.bool true) rfl (by kernel_rfl) (fun _ _ _ h => h) SS rfl (by intro wz hz; go_simp) ?_
          try simp only [zc1, zc2, zc3, Act.put, zc4, zc5, zc6]
          refine wpAnyZ_doneB (by kernel_rfl) ?_ _
          refine HK4.out _ _ ?_
          clear HK4
          refine wp_cond_true rfl ?_
          have kG := KpT.none Gd
          clear SS Gd
          generalize w.drew = w0 at *
          have Gd := grown_drew w0 none
          have hd2 := hd.keepN Gd
          have SS2 : w0.drew.cell? ⟨gw, 7, none⟩ = some (.int .i64 (x : Int)) ∧ w0.drew.cell? ⟨gw, 2, none⟩ = some (.slice a L.length c) := ⟨hd2.bx.cell 7 (by show 7 < 14; decide), hd2.bx.cell 2 (by show 2 < 14; decide)⟩
          refine wp_regionL (fun wz => wz.cell? ⟨gw, 7, none⟩ = some (.int .i64 (x : Int)) ∧ wz.cell? ⟨gw, 2, none⟩ = some (.slice a L.length c)) [18] #[false, false, false, false, false, false, false, false, false, false, false, false, false, false, false, false, false, false, false] rfl (by kernel_rfl) ?_
          refine wpAnyZ_take [18] 0 (.pointer (some ⟨gw, 0, none⟩)) rfl (by kernel_rfl) (fun _ _ _ h => h) SS2 rfl (by rintro wz ⟨z0, z1⟩; go_simp) ?_
          try simp only [zc1, zc2, zc3, Act.put, zc4, zc5, zc6]
          refine wpAnyZ_take [18] 1 (.pointer (some ⟨gw, 0, none⟩)) rfl (by kernel_rfl) (fun _ _ _ h => h) SS2 rfl (by rintro wz ⟨z0, z1⟩; go_simp) ?_
          try simp only [zc1, zc2, zc3, Act.put, zc4, zc5, zc6]
          refine wpAnyZ_take [18] 2 (.pointer (some ⟨gw, 0, none⟩)) rfl (by kernel_rfl) (fun _ _ _ h => h) SS2 rfl (by rintro wz ⟨z0, z1⟩; go_simp) ?_
          try simp only [zc1, zc2, zc3, Act.put, zc4, zc5, zc6]
          refine wpAnyZ_take [18] 3 (.pointer (some ⟨gw, 0, none⟩)) rfl (by kernel_rfl) (fun _ _ _ h => h) SS2 rfl (by rintro wz ⟨z0, z1⟩; go_simp) ?_
          try simp only [zc1, zc2, zc3, Act.put, zc4, zc5, zc6]
          refine wpAnyZ_take [18] 4 (.pointer (some ⟨gw, 0, none⟩)) rfl (by kernel_rfl) (fun _ _ _ h => h) SS2 rfl (by rintro wz ⟨z0, z1⟩; go_simp) ?_
          try simp only [zc1, zc2, zc3, Act.put, zc4, zc5, zc6]
          refine wpAnyZ_take [18] 5 (.pointer (some ⟨gw, 7, none⟩)) rfl (by kernel_rfl) (fun _ _ _ h => h) SS2 rfl (by rintro wz ⟨z0, z1⟩; go_simp) ?_
          try simp only [zc1, zc2, zc3, Act.put, zc4, zc5, zc6]
          refine wpAnyZ_take [18] 6 (.int .i64 (x : Int)) rfl (by kernel_rfl) (fun _ _ _ h => h) SS2 rfl (by rintro wz ⟨z0, z1⟩; go_simp) ?_
          try simp only [zc1, zc2, zc3, Act.put, zc4, zc5, zc6]
          refine wpAnyZ_take [18] 7 (.pointer (some ⟨gw, 0, none⟩)) rfl (by kernel_rfl) (fun _ _ _ h => h) SS2 rfl (by rintro wz ⟨z0, z1⟩; go_simp) ?_
          try simp only [zc1, zc2, zc3, Act.put, zc4, zc5, zc6]
          refine wpAnyZ_take [18] 8 (.pointer (some ⟨gw, 0, none⟩)) rfl (by kernel_rfl) (fun _ _ _ h => h) SS2 rfl (by rintro wz ⟨z0, z1⟩; go_simp) ?_
          try simp only [zc1, zc2, zc3, Act.put, zc4, zc5, zc6]
          refine wpAnyZ_take [18] 9 (.pointer (some ⟨gw, 0, none⟩)) rfl (by kernel_rfl) (fun _ _ _ h => h) SS2 rfl (by rintro wz ⟨z0, z1⟩; go_simp) ?_
          try simp only [zc1, zc2, zc3, Act.put, zc4, zc5, zc6]
          refine wpAnyZ_take [18] 10 (.pointer (some ⟨gw, 2, none⟩)) rfl (by kernel_rfl) (fun _ _ _ h => h) SS2 rfl (by rintro wz ⟨z0, z1⟩; go_simp) ?_
          try simp only [zc1, zc2, zc3, Act.put, zc4, zc5, zc6]
          refine wpAnyZ_take [18] 11 (.slice a L.length c) rfl (by kernel_rfl) (fun _ _ _ h => h) SS2 rfl (by rintro wz ⟨z0, z1⟩; go_simp) ?_
          try simp only [zc1, zc2, zc3, Act.put, zc4, zc5, zc6]
          refine wpAnyZ_take [18] 12 (.int .i64 (L.length : Int)) rfl (by kernel_rfl) (fun _ _ _ h => h) SS2 rfl (by rintro wz ⟨z0, z1⟩; go_simp) ?_
          try simp only [zc1, zc2, zc3, Act.put, zc4, zc5, zc6]
          refine wpAnyZ_take [18] 13 (.agg #[.int .i64 (x : Int), .int .i64 (L.length : Int)]) rfl (by kernel_rfl) (fun _ _ _ h => h) SS2 rfl (by rintro wz ⟨z0, z1⟩; go_simp) ?_
          try simp only [zc1, zc2, zc3, Act.put, zc4, zc5, zc6]
          have kG2 := kG.trans (KpT.none Gd)
          clear Gd kG
          generalize w0.drew = w2 at *
          refine wpAnyZ_oneB 14 rfl (by kernel_rfl) (fun KK hKK => ?_)
          go_simp
          go_at_call 115
          refine (sendPiece_any wB w2 gw id nm mo bu 0 false (x : Int) ti pa tr li a L.length c L _ _ d _ na xs.length nc xs hd2 x L.length k en HKK.out (by omega) (by omega) hlt (Nat.le_refl _) hn9 (by omega) HEN2.out).mono ?_
          rintro e w5 ⟨rfl, ⟨na5, nc5, a5, c5, h5⟩, f5⟩
          dsimp only
          have SS5 : w5.cell? ⟨gw, 7, none⟩ = some (.int .i64 (x : Int)) ∧ w5.cell? ⟨gw, 2, none⟩ = some (.slice a L.length c) := ⟨h5.bx.cell 7 (by show 7 < 14; decide), h5.bx.cell 2 (by show 2 < 14; decide)⟩
          refine hKK _ _ (fun _ => SS5) ?_
          try simp only [zc1, zc2, zc3, Act.put, zc4, zc5, zc6]
          have k5 := kG2.trans (f5.kp hd2)
          refine wpAnyZ_take [16, 17, 18] 15 (.pointer (some ⟨gw, 0, none⟩)) rfl (by kernel_rfl) (fun _ _ _ h => h) SS5 rfl (by rintro wz ⟨z0, z1⟩; go_simp) ?_
          try simp only [zc1, zc2, zc3, Act.put, zc4, zc5, zc6]
          refine wpAnyZ_take [17, 18] 16 (.pointer (some ⟨gw, 0, none⟩)) rfl (by kernel_rfl) (fun _ _ _ h => h) SS5 rfl (by rintro wz ⟨z0, z1⟩; go_simp) ?_
          try simp only [zc1, zc2, zc3, Act.put, zc4, zc5, zc6]
          refine wpAnyZ_take [18] 17 (.pointer (some ⟨gw, 7, none⟩)) rfl (by kernel_rfl) (fun _ _ _ h => h) SS5 rfl (by rintro wz ⟨z0, z1⟩; go_simp) ?_
          try simp only [zc1, zc2, zc3, Act.put, zc4, zc5, zc6]
          refine wpAnyZ_oneB 18 rfl (by kernel_rfl) (fun KK hKK => ?_)
          refine step_stCd _ rfl _ _ _ rfl gw 7 100 _ #[.int .i64 id, .string nm, .slice a L.length c, .int .i64 mo, .int .i64 bu, .int .i64 0, .bool false, .int .i64 (en : Int), .slice q ([] : List (Int × Int)).length d, .int .i64 ti, .int .i64 pa, .int .i64 tr, .int .i64 li, .slice na5 (xs.length + 1) nc5] (.int .i64 (en : Int)) rfl rfl h5.bx (fun w' h1 h2 => stc_int _ _ _ _ h1 h2) (by show 7 < 14; decide) rfl ?_
          intro w6 b6 u6
          refine hKK _ _ (fun h => absurd (by decide) h) ?_
          try simp only [zc1, zc2, zc3, Act.put, zc4, zc5, zc6]
          refine wpAnyZ_doneB (by kernel_rfl) ?_ _
          have h6 := h5.set u6 b6
          have k6 := k5.trans (KpT.bx h5.bx (by decide) u6)
          try simp only [Exit.inBlock, Exit.then]
          refine HK2.out _ _ ?_
          clear HK2
          go_wp2
          try go_ret
          refine (show (Ending.returned (.bool true) = Ending.returned (.bool (snV (⟨id, nm, mo, bu, 0, false, (x : Int), ti, pa, tr, li, L, []⟩ : Gv)).2.2) ∧ GA wB w6 gw (snV (⟨id, nm, mo, bu, 0, false, (x : Int), ti, pa, tr, li, L, []⟩ : Gv)).1 (T ++ (snV (⟨id, nm, mo, bu, 0, false, (x : Int), ti, pa, tr, li, L, []⟩ : Gv)).2.1) ∧ KpT w w6) from ?_)
          rw [HX.out]
          exact ⟨rfl, GA.of (map_one HT.out _ _ rfl) (V := (⟨id, nm, mo, bu, 0, false, (en : Int), ti, pa, tr, li, L, []⟩ : Gv)) h6, k6⟩
        · have hlt' : ¬ (x : Int) < (L.length : Int) := by omega
          have HX : Hid (snV (⟨id, nm, mo, bu, 0, false, (x : Int), ti, pa, tr, li, L, []⟩ : Gv) = ((⟨id, nm, mo, bu, 1, false, (x : Int), 0, pa, 0, li, L, []⟩ : Gv), [ntEnd (⟨id, nm, mo, bu, 0, false, (x : Int), ti, pa, tr, li, L, []⟩ : Gv)], false)) := by
            show _ = _
            unfold snV
            rw [if_neg (show ¬ (false = true) by decide)]
            show (if (0 : Int) ≠ 0 then _ else if (x : Int) < (L.length : Int) then _ else _) = _
            rw [if_neg (by decide), if_neg hlt']
          have Gd := grown_drew w none
          have hd := h.keepN Gd
          have SS : BxS w.drew gw 100 #[.int .i64 id, .string nm, .slice a L.length c, .int .i64 mo, .int .i64 bu, .int .i64 0, .bool false, .int .i64 (x : Int), .slice q ([] : List (Int × Int)).length d, .int .i64 ti, .int .i64 pa, .int .i64 tr, .int .i64 li, .slice na xs.length nc] := hd.bx
          refine wp_regionL (fun wz => BxS wz gw 100 #[.int .i64 id, .string nm, .slice a L.length c, .int .i64 mo, .int .i64 bu, .int .i64 0, .bool false, .int .i64 (x : Int), .slice q ([] : List (Int × Int)).length d, .int .i64 ti, .int .i64 pa, .int .i64 tr, .int .i64 li, .slice na xs.length nc]) [] #[false, false, false, false, false, false, false, false, false, false, false, false, false] rfl (by kernel_rfl) ?_
          refine wpAnyZ_take [] 0 (.pointer (some ⟨gw, 0, none⟩)) rfl (by kernel_rfl) (fun _ _ _ h => h) SS rfl (by intro wz hz; go_simp) ?_
          try simp only [zc1, zc2, zc3, Act.put, zc4, zc5, zc6]
          refine wpAnyZ_take [] 1 (.pointer (some ⟨gw, 0, none⟩)) rfl (by kernel_rfl) (fun _ _ _ h => h) SS rfl (by intro wz hz; go_simp) ?_
          try simp only [zc1, zc2, zc3, Act.put, zc4, zc5, zc6]
          refine wpAnyZ_take [] 2 (.pointer (some ⟨gw, 0, none⟩)) rfl (by kernel_rfl) (fun _ _ _ h => h) SS rfl (by intro wz hz; go_simp) ?_
          try simp only [zc1, zc2, zc3, Act.put, zc4, zc5, zc6]
          refine wpAnyZ_take [] 3 (.pointer (some ⟨gw, 7, none⟩)) rfl (by kernel_rfl) (fun _ _ _ h => h) SS rfl (by intro wz hz; go_simp) ?_
          try simp only [zc1, zc2, zc3, Act.put, zc4, zc5, zc6]
          refine wpAnyZ_take [] 4 (.int .i64 (x : Int)) rfl (by kernel_rfl) (fun _ _ _ h => h) SS rfl (by intro wz hz; have z : wz.cell? ⟨gw, 7, none⟩ = some (.int .i64 (x : Int)) := hz.cell 7 (by show 7 < 14; decide); go_simp) ?_
          try simp only [zc1, zc2, zc3, Act.put, zc4, zc5, zc6]
          refine wpAnyZ_take [] 5 (.pointer (some ⟨gw, 0, none⟩)) rfl (by kernel_rfl) (fun _ _ _ h => h) SS rfl (by intro wz hz; go_simp) ?_
          try simp only [zc1, zc2, zc3, Act.put, zc4, zc5, zc6]
          refine wpAnyZ_take [] 6 (.pointer (some ⟨gw, 0, none⟩)) rfl (by kernel_rfl) (fun _ _ _ h => h) SS rfl (by intro wz hz; go_simp) ?_
          try simp only [zc1, zc2, zc3, Act.put, zc4, zc5, zc6]
          refine wpAnyZ_take [] 7 (.pointer (some ⟨gw, 0, none⟩)) rfl (by kernel_rfl) (fun _ _ _ h => h) SS rfl (by intro wz hz; go_simp) ?_
          try simp only [zc1, zc2, zc3, Act.put, zc4, zc5, zc6]
          refine wpAnyZ_take [] 8 (.pointer (some ⟨gw, 2, none⟩)) rfl (by kernel_rfl) (fun _ _ _ h => h) SS rfl (by intro wz hz; go_simp) ?_
          try simp only [zc1, zc2, zc3, Act.put, zc4, zc5, zc6]
          refine wpAnyZ_take [] 9 (.slice a L.length c) rfl (by kernel_rfl) (fun _ _ _ h => h) SS rfl (by intro wz hz; have z : wz.cell? ⟨gw, 2, none⟩ = some (.slice a L.length c) := hz.cell 2 (by show 2 < 14; decide); go_simp) ?_
          try simp only [zc1, zc2, zc3, Act.put, zc4, zc5, zc6]
          refine wpAnyZ_take [] 10 (.int .i64 (L.length : Int)) rfl (by kernel_rfl) (fun _ _ _ h => h) SS rfl (by intro wz hz; go_simp) ?_
          try simp only [zc1, zc2, zc3, Act.put, zc4, zc5, zc6]
          refine wpAnyZ_take [] 11 (.bool false) rfl (by kernel_rfl) (fun _ _ _ h => h) SS rfl (by intro wz hz; go_simp) ?_
          try simp only [zc1, zc2, zc3, Act.put, zc4, zc5, zc6]
          refine wpAnyZ_take [] 12 (.bool false) rfl (by kernel_rfl) (fun _ _ _ h => h) SS rfl (by intro wz hz; go_simp) ?_
          try simp only [zc1, zc2, zc3, Act.put, zc4, zc5, zc6]
          refine wpAnyZ_doneB (by kernel_rfl) ?_ _
          refine HK4.out _ _ ?_
          clear HK4
          refine wp_cond_false rfl ?_
          have kG := KpT.none Gd
          clear SS Gd HK2
          generalize w.drew = w0 at *
          refine wp_seq_k fun K4 hK4 => ?_
          have HK4 : Hid _ := hK4
          clear hK4
          go_wp2_with (go_at_call 116; refine (sendEnd_any _ _ _ _ _ _ _ _ _ _ _ _ _ _ _ _ _ _ _ _ _ _ _ _ _ _ hd (by omega)).mono ?_; rintro e w5 ⟨rfl, ⟨na5, nc5, h5⟩, f5⟩)
          refine HK4.out _ _ ?_
          clear HK4
          have k5 := kG.trans (f5.kp hd)
          refine wp_seq_k fun K4 hK4 => ?_
          have HK4 : Hid _ := hK4
          clear hK4
          have s0 : True := trivial
          go_wp2_with (first
            | (have _t := s0; clear s0; refine wpList_stC _ rfl _ _ _ rfl gw 5 100 _ #[.int .i64 id, .string nm, .slice a L.length c, .int .i64 mo, .int .i64 bu, .int .i64 1, .bool false, .int .i64 (x : Int), .slice q ([] : List (Int × Int)).length d, .int .i64 ti, .int .i64 pa, .int .i64 tr, .int .i64 li, .slice na5 (xs.length + 1) nc5] (.int .i64 1) rfl rfl h5.bx (stc_stg _ _ _) (by show 5 < 14; decide) rfl ?_; intro w6 b6 u6; have s1 : True := trivial)
            | (have _t := s1; clear s1; refine wpList_stC _ rfl _ _ _ rfl gw 9 100 _ #[.int .i64 id, .string nm, .slice a L.length c, .int .i64 mo, .int .i64 bu, .int .i64 1, .bool false, .int .i64 (x : Int), .slice q ([] : List (Int × Int)).length d, .int .i64 0, .int .i64 pa, .int .i64 tr, .int .i64 li, .slice na5 (xs.length + 1) nc5] (.int .i64 0) rfl rfl b6 (stc_int _ _ _) (by show 9 < 14; decide) rfl ?_; intro w7 b7 u7; have s2 : True := trivial)
            | (have _t := s2; clear s2; refine wpList_stC _ rfl _ _ _ rfl gw 11 100 _ #[.int .i64 id, .string nm, .slice a L.length c, .int .i64 mo, .int .i64 bu, .int .i64 1, .bool false, .int .i64 (x : Int), .slice q ([] : List (Int × Int)).length d, .int .i64 0, .int .i64 pa, .int .i64 0, .int .i64 li, .slice na5 (xs.length + 1) nc5] (.int .i64 0) rfl rfl b7 (stc_int _ _ _) (by show 11 < 14; decide) rfl ?_; intro w8 b8 u8))
          refine HK4.out _ _ ?_
          clear HK4
          have U := grown_trans (grown_trans u6 u7) u8
          have h8 := h5.set U b8
          have k8 := k5.trans (KpT.bx h5.bx (by decide) U)
          go_wp2
          try go_ret
          refine (show (Ending.returned (.bool false) = Ending.returned (.bool (snV (⟨id, nm, mo, bu, 0, false, (x : Int), ti, pa, tr, li, L, []⟩ : Gv)).2.2) ∧ GA wB w8 gw (snV (⟨id, nm, mo, bu, 0, false, (x : Int), ti, pa, tr, li, L, []⟩ : Gv)).1 (T ++ (snV (⟨id, nm, mo, bu, 0, false, (x : Int), ti, pa, tr, li, L, []⟩ : Gv)).2.1) ∧ KpT w w8) from ?_)
          rw [HX.out]
          exact ⟨rfl, GA.of (map_one HT.out _ _ rfl) (V := (⟨id, nm, mo, bu, 1, false, (x : Int), 0, pa, 0, li, L, []⟩ : Gv)) h8, k8⟩
      · have hsb : (st == 0) = false := beq_eq_false_iff_ne.2 hs0
        have HX : Hid (snV (⟨id, nm, mo, bu, st, false, at', ti, pa, tr, li, L, []⟩ : Gv) = ((⟨id, nm, mo, bu, st, false, at', ti, pa, tr, li, L, []⟩ : Gv), [], false)) := by
          show _ = _
          unfold snV
          rw [if_neg (show ¬ (false = true) by decide)]
          show (if st ≠ 0 then _ else _) = _
          rw [if_pos hs0]
        refine wp_seq_k fun K4 hK4 => ?_
        have HK4 : Hid _ := hK4
        clear hK4
        go_wp2
        refine HK4.out _ _ ?_
        clear HK4
        refine wp_cond_true (show Value.bool (!(st == 0)) = Value.bool true by rw [hsb]; rfl) ?_
        clear HK2
        go_wp2
        try go_ret
        refine (show (Ending.returned (.bool false) = Ending.returned (.bool (snV (⟨id, nm, mo, bu, st, false, at', ti, pa, tr, li, L, []⟩ : Gv)).2.2) ∧ GA wB w gw (snV (⟨id, nm, mo, bu, st, false, at', ti, pa, tr, li, L, []⟩ : Gv)).1 (T ++ (snV (⟨id, nm, mo, bu, st, false, at', ti, pa, tr, li, L, []⟩ : Gv)).2.1) ∧ KpT w w) from ?_)
        rw [HX.out, List.append_nil]
        exact ⟨rfl, hGA.out, fun g cs hb => hb⟩
end
end Go.Proofs.Ytnimehkfnpepfaa
