import Derived.Test.YtnimehkfnpepfaaWh34
namespace Go.Proofs.Ytnimehkfnpepfaa
open Go.RowKit
set_option maxRecDepth 100000
set_option linter.unusedVariables false
set_option linter.unusedSimpArgs false

section
set_option maxHeartbeats 32000000 in
/-- a tick of a taker -/
theorem ttick_any (wB w : World) (gw : Nat) (V : Tv) (T : List Nt) (h : KA wB w gw V T) (ho : TvO V) (hT1 : T.length ≤ 1000) : Calls Try.prog 80 #[.pointer (some ⟨gw, 0, none⟩)] w fun e w' => e = .returned (.tuple #[]) ∧ KA wB w' gw (tiT V).1 (T ++ (tiT V).2) ∧ KpK w w' := by
  obtain ⟨a, c, q, d, na, nc, xs, hT, h⟩ := h
  obtain ⟨id, kn, nm, si, en, la, su, st, ti, pa, tr, li, L, G⟩ := V
  have hti := ho.ti
  have htr := ho.tr
  have hst := ho.st
  have hgl := ho.gl
  dsimp only at h hti htr hst hgl
  have hxl : xs.length ≤ 1000 := by rw [← hT, List.length_map] at hT1; exact hT1
  have HXL : Hid _ := hxl
  have HGL : Hid _ := hgl
  clear hT1 ho hxl hgl
  have HT : Hid _ := hT
  clear hT
  have x9 : w.cell? ⟨gw, 9, none⟩ = some (.int .i64 st) := h.bx.cell 9 (by show 9 < 15; decide)
  have x4 : w.cell? ⟨gw, 4, none⟩ = some (.bool en) := h.bx.cell 4 (by show 4 < 15; decide)
  obtain ⟨r1, hr1⟩ : ∃ r1, tr + 1 = r1 := ⟨_, rfl⟩
  have hw2 : IntKind.i64.wrap (tr + 1) = r1 := by rw [hr1]; exact wrap_i64_in _ (by omega) (by omega)
  have HR1 : Hid _ := hr1
  clear hr1
  by_cases hs0 : st = 0
  · subst hs0
    cases en with
    | true =>
      have HX : Hid (tiT (⟨id, kn, nm, si, true, la, su, 0, ti, pa, tr, li, L, G⟩ : Tv) = (if wtN ti pa = 0 then (if tr = li then ((⟨id, kn, nm, si, true, la, su, 4, 0, pa, tr, li, L, G⟩ : Tv), []) else ((⟨id, kn, nm, si, true, la, su, 0, 0, pa, tr + 1, li, L, G⟩ : Tv), sgL id (misL kn la G))) else ((⟨id, kn, nm, si, true, la, su, 0, wtN ti pa, pa, tr, li, L, G⟩ : Tv), []))) := by show _ = _; unfold tiT; rw [if_pos ⟨rfl, rfl⟩]
      go_enter Try.func80, Try.ntmps80
      refine wp_block ?_
      refine wp_seq_k fun K1 hK1 => ?_
      have HK1 : Hid _ := hK1
      clear hK1
      go_wp2
      refine HK1.out _ _ ?_
      clear HK1
      refine wp_cond_true rfl ?_
      refine wp_seq_k fun K2 hK2 => ?_
      have HK2 : Hid _ := hK2
      clear hK2
      refine wp_seq_k fun K3 hK3 => ?_
      have HK3 : Hid _ := hK3
      clear hK3
      by_cases hwt : wtN ti pa = 0
      · go_wp2_with (go_at_call 108; refine (waited_any gw id kn nm si true la su q G.length d a L.length c 0 ti pa tr li na xs.length nc _ h.bx hti.1 hti.2.1 hti.2.2).mono ?_; rw [hwt]; rintro e w1 ⟨rfl, b1, u1⟩)
        have h1 := h.set u1 b1
        have k1 : KpK w w1 := KpK.bx h.bx (by decide) u1
        refine HK3.out _ _ ?_
        clear HK3
        refine wp_cond_false rfl ?_
        refine wp_skip ?_
        try simp only [Exit.then]
        refine HK2.out _ _ ?_
        clear HK2
        clear x9 x4 h u1 b1
        refine wp_seq_k fun K2 hK2 => ?_
        have HK2 : Hid _ := hK2
        clear hK2
        refine wp_seq_k fun K3 hK3 => ?_
        have HK3 : Hid _ := hK3
        clear hK3
        by_cases hel : tr = li
        · have hel2 : (tr == li) = true := by rw [hel]; exact beq_self_eq_true _
          have HEL : Hid _ := hel
          clear hel
          have Gd := grown_drew w1 none
          have hd := h1.keepN Gd
          have SS : BxS w1.drew gw 112 #[.int .i64 id, .bool kn, .string nm, .int .i64 si, .bool true, .int .i64 la, .int .i64 su, .slice q G.length d, .slice a L.length c, .int .i64 0, .int .i64 0, .int .i64 pa, .int .i64 tr, .int .i64 li, .slice na xs.length nc] := hd.bx
          refine wp_regionL (fun wz => BxS wz gw 112 #[.int .i64 id, .bool kn, .string nm, .int .i64 si, .bool true, .int .i64 la, .int .i64 su, .slice q G.length d, .slice a L.length c, .int .i64 0, .int .i64 0, .int .i64 pa, .int .i64 tr, .int .i64 li, .slice na xs.length nc]) [] #[false, false, false, false, false, false, false, false, false, false, false] rfl (by kernel_rfl) ?_
          refine wpAnyZ_take [] 0 (.pointer (some ⟨gw, 0, none⟩)) rfl (by kernel_rfl) (fun _ _ _ h => h) SS rfl (by intro wz hz; go_simp) ?_
          try simp only [zc1, zc2, zc3, Act.put, zc4, zc5, zc6]
          refine wpAnyZ_take [] 1 (.pointer (some ⟨gw, 0, none⟩)) rfl (by kernel_rfl) (fun _ _ _ h => h) SS rfl (by intro wz hz; go_simp) ?_
          try simp only [zc1, zc2, zc3, Act.put, zc4, zc5, zc6]
          refine wpAnyZ_take [] 2 (.pointer (some ⟨gw, 0, none⟩)) rfl (by kernel_rfl) (fun _ _ _ h => h) SS rfl (by intro wz hz; go_simp) ?_
          try simp only [zc1, zc2, zc3, Act.put, zc4, zc5, zc6]
          refine wpAnyZ_take [] 3 (.pointer (some ⟨gw, 12, none⟩)) rfl (by kernel_rfl) (fun _ _ _ h => h) SS rfl (by intro wz hz; go_simp) ?_
          try simp only [zc1, zc2, zc3, Act.put, zc4, zc5, zc6]
          refine wpAnyZ_take [] 4 (.int .i64 tr) rfl (by kernel_rfl) (fun _ _ _ h => h) SS rfl (by intro wz hz; have z : wz.cell? ⟨gw, 12, none⟩ = some (.int .i64 tr) := hz.cell 12 (by show 12 < 15; decide); go_simp) ?_
          try simp only [zc1, zc2, zc3, Act.put, zc4, zc5, zc6]
          refine wpAnyZ_take [] 5 (.pointer (some ⟨gw, 0, none⟩)) rfl (by kernel_rfl) (fun _ _ _ h => h) SS rfl (by intro wz hz; go_simp) ?_
          try simp only [zc1, zc2, zc3, Act.put, zc4, zc5, zc6]
          refine wpAnyZ_take [] 6 (.pointer (some ⟨gw, 0, none⟩)) rfl (by kernel_rfl) (fun _ _ _ h => h) SS rfl (by intro wz hz; go_simp) ?_
          try simp only [zc1, zc2, zc3, Act.put, zc4, zc5, zc6]
          refine wpAnyZ_take [] 7 (.pointer (some ⟨gw, 0, none⟩)) rfl (by kernel_rfl) (fun _ _ _ h => h) SS rfl (by intro wz hz; go_simp) ?_
          try simp only [zc1, zc2, zc3, Act.put, zc4, zc5, zc6]
          refine wpAnyZ_take [] 8 (.pointer (some ⟨gw, 13, none⟩)) rfl (by kernel_rfl) (fun _ _ _ h => h) SS rfl (by intro wz hz; go_simp) ?_
          try simp only [zc1, zc2, zc3, Act.put, zc4, zc5, zc6]
          refine wpAnyZ_take [] 9 (.int .i64 li) rfl (by kernel_rfl) (fun _ _ _ h => h) SS rfl (by intro wz hz; have z : wz.cell? ⟨gw, 13, none⟩ = some (.int .i64 li) := hz.cell 13 (by show 13 < 15; decide); go_simp) ?_
          try simp only [zc1, zc2, zc3, Act.put, zc4, zc5, zc6]
          refine wpAnyZ_take [] 10 (.bool true) rfl (by kernel_rfl) (fun _ _ _ h => h) SS rfl (by intro wz hz; go_simp) ?_
          try simp only [zc1, zc2, zc3, Act.put, zc4, zc5, zc6]
          refine wpAnyZ_doneB (by kernel_rfl) ?_ _
          refine HK3.out _ _ ?_
          clear HK3
          refine wp_cond_true rfl ?_
          clear HK2
          refine wp_seq_k fun K4 hK4 => ?_
          have HK4 : Hid _ := hK4
          clear hK4
          have s0 : True := trivial
          go_wp2_with (have _t := s0; clear s0; refine wpList_stC _ rfl _ _ _ rfl gw 9 112 _ #[.int .i64 id, .bool kn, .string nm, .int .i64 si, .bool true, .int .i64 la, .int .i64 su, .slice q G.length d, .slice a L.length c, .int .i64 4, .int .i64 0, .int .i64 pa, .int .i64 tr, .int .i64 li, .slice na xs.length nc] (.int .i64 4) rfl rfl hd.bx (stc_stg _ _ _) (by show 9 < 15; decide) rfl ?_; intro w4 bw4 uw4)
          refine HK4.out _ _ ?_
          clear HK4
          refine wp_ret ?_
          try simp only [Exit.then, Exit.inBlock]
          refine bodyPost_ret (results_none rfl _ _ _) rfl ?_
          refine ⟨rfl, ?_, (k1.trans (KpK.none Gd)).trans (KpK.bx hd.bx (by decide) uw4)⟩
          rw [HX.out, if_pos hwt, if_pos HEL.out]
          show KA wB _ gw (⟨id, kn, nm, si, true, la, su, 4, 0, pa, tr, li, L, G⟩ : Tv) (T ++ [])
          rw [List.append_nil]
          exact KA.of HT.out (V := (⟨id, kn, nm, si, true, la, su, 4, 0, pa, tr, li, L, G⟩ : Tv)) (hd.set uw4 bw4)
        · have hel2 : (tr == li) = false := beq_eq_false_iff_ne.2 hel
          have Gd := grown_drew w1 none
          have hd := h1.keepN Gd
          have SS : BxS w1.drew gw 112 #[.int .i64 id, .bool kn, .string nm, .int .i64 si, .bool true, .int .i64 la, .int .i64 su, .slice q G.length d, .slice a L.length c, .int .i64 0, .int .i64 0, .int .i64 pa, .int .i64 tr, .int .i64 li, .slice na xs.length nc] := hd.bx
          refine wp_regionL (fun wz => BxS wz gw 112 #[.int .i64 id, .bool kn, .string nm, .int .i64 si, .bool true, .int .i64 la, .int .i64 su, .slice q G.length d, .slice a L.length c, .int .i64 0, .int .i64 0, .int .i64 pa, .int .i64 tr, .int .i64 li, .slice na xs.length nc]) [] #[false, false, false, false, false, false, false, false, false, false, false] rfl (by kernel_rfl) ?_
          refine wpAnyZ_take [] 0 (.pointer (some ⟨gw, 0, none⟩)) rfl (by kernel_rfl) (fun _ _ _ h => h) SS rfl (by intro wz hz; go_simp) ?_
          try simp only [zc1, zc2, zc3, Act.put, zc4, zc5, zc6]
          refine wpAnyZ_take [] 1 (.pointer (some ⟨gw, 0, none⟩)) rfl (by kernel_rfl) (fun _ _ _ h => h) SS rfl (by intro wz hz; go_simp) ?_
          try simp only [zc1, zc2, zc3, Act.put, zc4, zc5, zc6]
          refine wpAnyZ_take [] 2 (.pointer (some ⟨gw, 0, none⟩)) rfl (by kernel_rfl) (fun _ _ _ h => h) SS rfl (by intro wz hz; go_simp) ?_
          try simp only [zc1, zc2, zc3, Act.put, zc4, zc5, zc6]
          refine wpAnyZ_take [] 3 (.pointer (some ⟨gw, 12, none⟩)) rfl (by kernel_rfl) (fun _ _ _ h => h) SS rfl (by intro wz hz; go_simp) ?_
          try simp only [zc1, zc2, zc3, Act.put, zc4, zc5, zc6]
          refine wpAnyZ_take [] 4 (.int .i64 tr) rfl (by kernel_rfl) (fun _ _ _ h => h) SS rfl (by intro wz hz; have z : wz.cell? ⟨gw, 12, none⟩ = some (.int .i64 tr) := hz.cell 12 (by show 12 < 15; decide); go_simp) ?_
          try simp only [zc1, zc2, zc3, Act.put, zc4, zc5, zc6]
          refine wpAnyZ_take [] 5 (.pointer (some ⟨gw, 0, none⟩)) rfl (by kernel_rfl) (fun _ _ _ h => h) SS rfl (by intro wz hz; go_simp) ?_
          try simp only [zc1, zc2, zc3, Act.put, zc4, zc5, zc6]
          refine wpAnyZ_take [] 6 (.pointer (some ⟨gw, 0, none⟩)) rfl (by kernel_rfl) (fun _ _ _ h => h) SS rfl (by intro wz hz; go_simp) ?_
          try simp only [zc1, zc2, zc3, Act.put, zc4, zc5, zc6]
          refine wpAnyZ_take [] 7 (.pointer (some ⟨gw, 0, none⟩)) rfl (by kernel_rfl) (fun _ _ _ h => h) SS rfl (by intro wz hz; go_simp) ?_
          try simp only [zc1, zc2, zc3, Act.put, zc4, zc5, zc6]
          refine wpAnyZ_take [] 8 (.pointer (some ⟨gw, 13, none⟩)) rfl (by kernel_rfl) (fun _ _ _ h => h) SS rfl (by intro wz hz; go_simp) ?_
          try simp only [zc1, zc2, zc3, Act.put, zc4, zc5, zc6]
          refine wpAnyZ_take [] 9 (.int .i64 li) rfl (by kernel_rfl) (fun _ _ _ h => h) SS rfl (by intro wz hz; have z : wz.cell? ⟨gw, 13, none⟩ = some (.int .i64 li) := hz.cell 13 (by show 13 < 15; decide); go_simp) ?_
          try simp only [zc1, zc2, zc3, Act.put, zc4, zc5, zc6]
          refine wpAnyZ_take [] 10 (.bool false) rfl (by kernel_rfl) (fun _ _ _ h => h) SS rfl (by intro wz hz; go_simp) ?_
          try simp only [zc1, zc2, zc3, Act.put, zc4, zc5, zc6]
          refine wpAnyZ_doneB (by kernel_rfl) ?_ _
          refine HK3.out _ _ ?_
          clear HK3
          refine wp_cond_false rfl ?_
          refine wp_skip ?_
          try simp only [Exit.then]
          refine HK2.out _ _ ?_
          clear HK2
          have k2 := k1.trans (KpK.none Gd)
          clear Gd SS h1 k1
          generalize w1.drew = w2 at *
          have x12 : w2.cell? ⟨gw, 12, none⟩ = some (.int .i64 tr) := hd.bx.cell 12 (by show 12 < 15; decide)
          refine wp_seq_k fun K4 hK4 => ?_
          have HK4 : Hid _ := hK4
          clear hK4
          have s0 : True := trivial
          go_wp2_with (have _t := s0; clear s0; refine wpList_stC _ rfl _ _ _ rfl gw 12 112 _ #[.int .i64 id, .bool kn, .string nm, .int .i64 si, .bool true, .int .i64 la, .int .i64 su, .slice q G.length d, .slice a L.length c, .int .i64 0, .int .i64 0, .int .i64 pa, .int .i64 r1, .int .i64 li, .slice na xs.length nc] (.int .i64 r1) rfl rfl hd.bx (stc_int _ _ _) (by show 12 < 15; decide) rfl ?_; intro w5 bw5 uw5)
          refine HK4.out _ _ ?_
          clear HK4
          have h5 := hd.set uw5 bw5
          have k5 := k2.trans (KpK.bx hd.bx (by decide) uw5)
          clear x12
          go_wp2_with (go_at_call 109; refine (sendGaps_any _ _ _ _ _ _ _ _ _ _ _ _ _ _ _ _ _ _ _ _ _ _ _ _ _ _ _ h5 HGL.out (by have := HXL.out; omega)).mono ?_; rintro e w6 ⟨rfl, ⟨na6, nc6, ys6, h6, hy6⟩, f6⟩)
          try simp only [Exit.then, Exit.inBlock]
          first | go_end0 | refine bodyPost_ret (results_none rfl _ _ _) rfl ?_
          refine ⟨rfl, ?_, k5.trans (f6.kp h5)⟩
          rw [HX.out, if_pos hwt, if_neg hel, HR1.out]
          show KA wB _ gw (⟨id, kn, nm, si, true, la, su, 0, 0, pa, r1, li, L, G⟩ : Tv) (T ++ sgL id (misL kn la G))
          exact KA.of (by rw [List.map_append, HT.out, hy6]) (V := (⟨id, kn, nm, si, true, la, su, 0, 0, pa, r1, li, L, G⟩ : Tv)) h6
      · have hwd : decide (wtN ti pa = 0) = false := decide_eq_false hwt
        go_wp2_with (go_at_call 108; refine (waited_any gw id kn nm si true la su q G.length d a L.length c 0 ti pa tr li na xs.length nc _ h.bx hti.1 hti.2.1 hti.2.2).mono ?_; rw [hwd]; rintro e w1 ⟨rfl, b1, u1⟩)
        have h1 := h.set u1 b1
        have k1 : KpK w w1 := KpK.bx h.bx (by decide) u1
        refine HK3.out _ _ ?_
        clear HK3
        refine wp_cond_true rfl ?_
        clear HK2
        refine wp_ret ?_
        try simp only [Exit.then, Exit.inBlock]
        refine bodyPost_ret (results_none rfl _ _ _) rfl ?_
        refine ⟨rfl, ?_, k1⟩
        rw [HX.out, if_neg hwt]
        show KA wB _ gw (⟨id, kn, nm, si, true, la, su, 0, wtN ti pa, pa, tr, li, L, G⟩ : Tv) (T ++ [])
        rw [List.append_nil]
        exact KA.of HT.out (V := (⟨id, kn, nm, si, true, la, su, 0, wtN ti pa, pa, tr, li, L, G⟩ : Tv)) h1
    | false =>
      have HX : Hid (tiT (⟨id, kn, nm, si, false, la, su, 0, ti, pa, tr, li, L, G⟩ : Tv) = ((⟨id, kn, nm, si, false, la, su, 0, ti, pa, tr, li, L, G⟩ : Tv), [])) := by show _ = _; unfold tiT; rw [if_neg (fun e => by cases e.2), if_neg (fun e => by have e1 : (0 : Int) = 3 := e.1; omega)]
      go_enter Try.func80, Try.ntmps80
      refine wp_block ?_
      refine wp_seq_k fun K1 hK1 => ?_
      have HK1 : Hid _ := hK1
      clear hK1
      go_wp2
      refine HK1.out _ _ ?_
      clear HK1
      refine wp_cond_false rfl ?_
      clear x9 x4
      refine wp_seq_k fun K2 hK2 => ?_
      have HK2 : Hid _ := hK2
      clear hK2
      have Gd := grown_drew w none
      have hd := h.keepN Gd
      have SS : BxS w.drew gw 112 #[.int .i64 id, .bool kn, .string nm, .int .i64 si, .bool false, .int .i64 la, .int .i64 su, .slice q G.length d, .slice a L.length c, .int .i64 0, .int .i64 ti, .int .i64 pa, .int .i64 tr, .int .i64 li, .slice na xs.length nc] := hd.bx
      refine wp_regionL (fun wz => BxS wz gw 112 #[.int .i64 id, .bool kn, .string nm, .int .i64 si, .bool false, .int .i64 la, .int .i64 su, .slice q G.length d, .slice a L.length c, .int .i64 0, .int .i64 ti, .int .i64 pa, .int .i64 tr, .int .i64 li, .slice na xs.length nc]) [] #[false, false, false, false, false, false, false, false, false, false, false, false, false, false, false, false, false, false, false, false] rfl (by kernel_rfl) ?_
      refine wpAnyZ_take [] 0 (.pointer (some ⟨gw, 0, none⟩)) rfl (by kernel_rfl) (fun _ _ _ h => h) SS rfl (by intro wz hz; go_simp) ?_
      try simp only [zc1, zc2, zc3, Act.put, zc4, zc5, zc6]
      refine wpAnyZ_take [] 1 (.pointer (some ⟨gw, 0, none⟩)) rfl (by kernel_rfl) (fun _ _ _ h => h) SS rfl (by intro wz hz; go_simp) ?_
      try simp only [zc1, zc2, zc3, Act.put, zc4, zc5, zc6]
      refine wpAnyZ_take [] 2 (.pointer (some ⟨gw, 0, none⟩)) rfl (by kernel_rfl) (fun _ _ _ h => h) SS rfl (by intro wz hz; go_simp) ?_
      try simp only [zc1, zc2, zc3, Act.put, zc4, zc5, zc6]
      refine wpAnyZ_take [] 3 (.pointer (some ⟨gw, 9, none⟩)) rfl (by kernel_rfl) (fun _ _ _ h => h) SS rfl (by intro wz hz; go_simp) ?_
      try simp only [zc1, zc2, zc3, Act.put, zc4, zc5, zc6]
      refine wpAnyZ_take [] 4 (.int .i64 0) rfl (by kernel_rfl) (fun _ _ _ h => h) SS rfl (by intro wz hz; have z : wz.cell? ⟨gw, 9, none⟩ = some (.int .i64 0) := hz.cell 9 (by show 9 < 15; decide); go_simp) ?_
      try simp only [zc1, zc2, zc3, Act.put, zc4, zc5, zc6]
      refine wpAnyZ_take [] 5 (.bool false) rfl (by kernel_rfl) (fun _ _ _ h => h) SS rfl (by intro wz hz; go_simp) ?_
      try simp only [zc1, zc2, zc3, Act.put, zc4, zc5, zc6]
      refine wpAnyZ_take [] 6 (.bool false) rfl (by kernel_rfl) (fun _ _ _ h => h) SS rfl (by intro wz hz; go_simp) ?_
      try simp only [zc1, zc2, zc3, Act.put, zc4, zc5, zc6]
      refine wpAnyZ_skipD [] 7 rfl (by kernel_rfl) (fun _ _ _ h => h) SS rfl ?_
      try simp only [zc1, zc2, zc3, Act.put, zc4, zc5, zc6]
      refine wpAnyZ_skipD [] 8 rfl (by kernel_rfl) (fun _ _ _ h => h) SS rfl ?_
      try simp only [zc1, zc2, zc3, Act.put, zc4, zc5, zc6]
      refine wpAnyZ_skipD [] 9 rfl (by kernel_rfl) (fun _ _ _ h => h) SS rfl ?_
      try simp only [zc1, zc2, zc3, Act.put, zc4, zc5, zc6]
      refine wpAnyZ_skipD [] 10 rfl (by kernel_rfl) (fun _ _ _ h => h) SS rfl ?_
      try simp only [zc1, zc2, zc3, Act.put, zc4, zc5, zc6]
      refine wpAnyZ_skipD [] 11 rfl (by kernel_rfl) (fun _ _ _ h => h) SS rfl ?_
      try simp only [zc1, zc2, zc3, Act.put, zc4, zc5, zc6]
      refine wpAnyZ_skipD [] 12 rfl (by kernel_rfl) (fun _ _ _ h => h) SS rfl ?_
      try simp only [zc1, zc2, zc3, Act.put, zc4, zc5, zc6]
      refine wpAnyZ_skipD [] 13 rfl (by kernel_rfl) (fun _ _ _ h => h) SS rfl ?_
      try simp only [zc1, zc2, zc3, Act.put, zc4, zc5, zc6]
      refine wpAnyZ_skipD [] 14 rfl (by kernel_rfl) (fun _ _ _ h => h) SS rfl ?_
      try simp only [zc1, zc2, zc3, Act.put, zc4, zc5, zc6]
      refine wpAnyZ_skipD [] 15 rfl (by kernel_rfl) (fun _ _ _ h => h) SS rfl ?_
      try simp only [zc1, zc2, zc3, Act.put, zc4, zc5, zc6]
      refine wpAnyZ_skipD [] 16 rfl (by kernel_rfl) (fun _ _ _ h => h) SS rfl ?_
      try simp only [zc1, zc2, zc3, Act.put, zc4, zc5, zc6]
      refine wpAnyZ_skipD [] 17 rfl (by kernel_rfl) (fun _ _ _ h => h) SS rfl ?_
      try simp only [zc1, zc2, zc3, Act.put, zc4, zc5, zc6]
      refine wpAnyZ_take [] 18 (.bool false) rfl (by kernel_rfl) (fun _ _ _ h => h) SS rfl (by intro wz hz; go_simp) ?_
      try simp only [zc1, zc2, zc3, Act.put, zc4, zc5, zc6]
      refine wpAnyZ_take [] 19 (.bool false) rfl (by kernel_rfl) (fun _ _ _ h => h) SS rfl (by intro wz hz; go_simp) ?_
      try simp only [zc1, zc2, zc3, Act.put, zc4, zc5, zc6]
      refine wpAnyZ_doneB (by kernel_rfl) ?_ _
      refine HK2.out _ _ ?_
      clear HK2
      refine wp_cond_false rfl ?_
      refine wp_skip ?_
      try simp only [Exit.then, Exit.inBlock]
      first | go_end0 | refine bodyPost_ret (results_none rfl _ _ _) rfl ?_
      refine ⟨rfl, ?_, KpK.none Gd⟩
      rw [HX.out]
      show KA wB _ gw (⟨id, kn, nm, si, false, la, su, 0, ti, pa, tr, li, L, G⟩ : Tv) (T ++ [])
      rw [List.append_nil]
      exact KA.of HT.out (V := (⟨id, kn, nm, si, false, la, su, 0, ti, pa, tr, li, L, G⟩ : Tv)) hd
  · have hs0b : (st == 0) = false := beq_eq_false_iff_ne.2 hs0
    by_cases hs3 : st = 3
    · subst hs3
      clear hs0
      have HX : Hid (tiT (⟨id, kn, nm, si, en, la, su, 3, ti, pa, tr, li, L, G⟩ : Tv) = (if tr < li then (if wtN ti pa = 0 then ((⟨id, kn, nm, si, en, la, su, 3, 0, pa, tr + 1, li, L, G⟩ : Tv), [ntDone id 0]) else ((⟨id, kn, nm, si, en, la, su, 3, wtN ti pa, pa, tr, li, L, G⟩ : Tv), [])) else ((⟨id, kn, nm, si, en, la, su, 3, ti, pa, tr, li, L, G⟩ : Tv), []))) := by
        show _ = _
        unfold tiT
        rw [if_neg (fun e => by have e1 : (3 : Int) = 0 := e.1; omega)]
        by_cases e : tr < li
        · rw [if_pos ⟨rfl, e⟩, if_pos e]
        · rw [if_neg (fun e2 => e e2.2), if_neg e]
      go_enter Try.func80, Try.ntmps80
      refine wp_block ?_
      refine wp_seq_k fun K1 hK1 => ?_
      have HK1 : Hid _ := hK1
      clear hK1
      go_wp2
      refine HK1.out _ _ ?_
      clear HK1
      refine wp_cond_false rfl ?_
      clear x9 x4
      refine wp_seq_k fun K2 hK2 => ?_
      have HK2 : Hid _ := hK2
      clear hK2
      by_cases hlt : tr < li
      · have HLT : Hid _ := hlt
        have Gd := grown_drew w none
        have hd := h.keepN Gd
        have SS : BxS w.drew gw 112 #[.int .i64 id, .bool kn, .string nm, .int .i64 si, .bool en, .int .i64 la, .int .i64 su, .slice q G.length d, .slice a L.length c, .int .i64 3, .int .i64 ti, .int .i64 pa, .int .i64 tr, .int .i64 li, .slice na xs.length nc] := hd.bx
        refine wp_regionL (fun wz => BxS wz gw 112 #[.int .i64 id, .bool kn, .string nm, .int .i64 si, .bool en, .int .i64 la, .int .i64 su, .slice q G.length d, .slice a L.length c, .int .i64 3, .int .i64 ti, .int .i64 pa, .int .i64 tr, .int .i64 li, .slice na xs.length nc]) [] #[false, false, false, false, false, false, false, false, false, false, false, false, false, false, false, false, false, false, false, false] rfl (by kernel_rfl) ?_
        refine wpAnyZ_take [] 0 (.pointer (some ⟨gw, 0, none⟩)) rfl (by kernel_rfl) (fun _ _ _ h => h) SS rfl (by intro wz hz; go_simp) ?_
        try simp only [zc1, zc2, zc3, Act.put, zc4, zc5, zc6]
        refine wpAnyZ_take [] 1 (.pointer (some ⟨gw, 0, none⟩)) rfl (by kernel_rfl) (fun _ _ _ h => h) SS rfl (by intro wz hz; go_simp) ?_
        try simp only [zc1, zc2, zc3, Act.put, zc4, zc5, zc6]
        refine wpAnyZ_take [] 2 (.pointer (some ⟨gw, 0, none⟩)) rfl (by kernel_rfl) (fun _ _ _ h => h) SS rfl (by intro wz hz; go_simp) ?_
        try simp only [zc1, zc2, zc3, Act.put, zc4, zc5, zc6]
        refine wpAnyZ_take [] 3 (.pointer (some ⟨gw, 9, none⟩)) rfl (by kernel_rfl) (fun _ _ _ h => h) SS rfl (by intro wz hz; go_simp) ?_
        try simp only [zc1, zc2, zc3, Act.put, zc4, zc5, zc6]
        refine wpAnyZ_take [] 4 (.int .i64 3) rfl (by kernel_rfl) (fun _ _ _ h => h) SS rfl (by intro wz hz; have z : wz.cell? ⟨gw, 9, none⟩ = some (.int .i64 3) := hz.cell 9 (by show 9 < 15; decide); go_simp) ?_
        try simp only [zc1, zc2, zc3, Act.put, zc4, zc5, zc6]
        refine wpAnyZ_take [] 5 (.bool true) rfl (by kernel_rfl) (fun _ _ _ h => h) SS rfl (by intro wz hz; go_simp) ?_
        try simp only [zc1, zc2, zc3, Act.put, zc4, zc5, zc6]
        refine wpAnyZ_take [] 6 (.bool true) rfl (by kernel_rfl) (fun _ _ _ h => h) SS rfl (by intro wz hz; go_simp) ?_
        try simp only [zc1, zc2, zc3, Act.put, zc4, zc5, zc6]
        refine wpAnyZ_take [] 7 (.pointer (some ⟨gw, 0, none⟩)) rfl (by kernel_rfl) (fun _ _ _ h => h) SS rfl (by intro wz hz; go_simp) ?_
        try simp only [zc1, zc2, zc3, Act.put, zc4, zc5, zc6]
        refine wpAnyZ_take [] 8 (.pointer (some ⟨gw, 0, none⟩)) rfl (by kernel_rfl) (fun _ _ _ h => h) SS rfl (by intro wz hz; go_simp) ?_
        try simp only [zc1, zc2, zc3, Act.put, zc4, zc5, zc6]
        refine wpAnyZ_take [] 9 (.pointer (some ⟨gw, 0, none⟩)) rfl (by kernel_rfl) (fun _ _ _ h => h) SS rfl (by intro wz hz; go_simp) ?_
        try simp only [zc1, zc2, zc3, Act.put, zc4, zc5, zc6]
        refine wpAnyZ_take [] 10 (.pointer (some ⟨gw, 12, none⟩)) rfl (by kernel_rfl) (fun _ _ _ h => h) SS rfl (by intro wz hz; go_simp) ?_
        try simp only [zc1, zc2, zc3, Act.put, zc4, zc5, zc6]
        refine wpAnyZ_take [] 11 (.int .i64 tr) rfl (by kernel_rfl) (fun _ _ _ h => h) SS rfl (by intro wz hz; have z : wz.cell? ⟨gw, 12, none⟩ = some (.int .i64 tr) := hz.cell 12 (by show 12 < 15; decide); go_simp) ?_
        try simp only [zc1, zc2, zc3, Act.put, zc4, zc5, zc6]
        refine wpAnyZ_take [] 12 (.pointer (some ⟨gw, 0, none⟩)) rfl (by kernel_rfl) (fun _ _ _ h => h) SS rfl (by intro wz hz; go_simp) ?_
        try simp only [zc1, zc2, zc3, Act.put, zc4, zc5, zc6]
        refine wpAnyZ_take [] 13 (.pointer (some ⟨gw, 0, none⟩)) rfl (by kernel_rfl) (fun _ _ _ h => h) SS rfl (by intro wz hz; go_simp) ?_
        try simp only [zc1, zc2, zc3, Act.put, zc4, zc5, zc6]
        refine wpAnyZ_take [] 14 (.pointer (some ⟨gw, 0, none⟩)) rfl (by kernel_rfl) (fun _ _ _ h => h) SS rfl (by intro wz hz; go_simp) ?_
        try simp only [zc1, zc2, zc3, Act.put, zc4, zc5, zc6]
        refine wpAnyZ_take [] 15 (.pointer (some ⟨gw, 13, none⟩)) rfl (by kernel_rfl) (fun _ _ _ h => h) SS rfl (by intro wz hz; go_simp) ?_
        try simp only [zc1, zc2, zc3, Act.put, zc4, zc5, zc6]
        refine wpAnyZ_take [] 16 (.int .i64 li) rfl (by kernel_rfl) (fun _ _ _ h => h) SS rfl (by intro wz hz; have z : wz.cell? ⟨gw, 13, none⟩ = some (.int .i64 li) := hz.cell 13 (by show 13 < 15; decide); go_simp) ?_
        try simp only [zc1, zc2, zc3, Act.put, zc4, zc5, zc6]
        refine wpAnyZ_take [] 17 (.bool true) rfl (by kernel_rfl) (fun _ _ _ h => h) SS rfl (by intro wz hz; go_simp) ?_
        try simp only [zc1, zc2, zc3, Act.put, zc4, zc5, zc6]
        refine wpAnyZ_take [] 18 (.bool true) rfl (by kernel_rfl) (fun _ _ _ h => h) SS rfl (by intro wz hz; go_simp) ?_
        try simp only [zc1, zc2, zc3, Act.put, zc4, zc5, zc6]
        refine wpAnyZ_take [] 19 (.bool true) rfl (by kernel_rfl) (fun _ _ _ h => h) SS rfl (by intro wz hz; go_simp) ?_
        try simp only [zc1, zc2, zc3, Act.put, zc4, zc5, zc6]
        refine wpAnyZ_doneB (by kernel_rfl) ?_ _
        refine HK2.out _ _ ?_
        clear HK2
        clear hlt
        refine wp_cond_true rfl ?_
        clear h SS
        have k0 := KpK.none Gd
        generalize w.drew = w2 at *
        refine wp_seq_k fun K3 hK3 => ?_
        have HK3 : Hid _ := hK3
        clear hK3
        by_cases hwt : wtN ti pa = 0
        · go_wp2_with (go_at_call 108; refine (waited_any gw id kn nm si en la su q G.length d a L.length c 3 ti pa tr li na xs.length nc _ hd.bx hti.1 hti.2.1 hti.2.2).mono ?_; rw [hwt]; rintro e w1 ⟨rfl, b1, u1⟩)
          have h1 := hd.set u1 b1
          have k1 := k0.trans (KpK.bx hd.bx (by decide) u1)
          refine HK3.out _ _ ?_
          clear HK3
          refine wp_cond_true rfl ?_
          have x12 : w1.cell? ⟨gw, 12, none⟩ = some (.int .i64 tr) := h1.bx.cell 12 (by show 12 < 15; decide)
          refine wp_seq_k fun K4 hK4 => ?_
          have HK4 : Hid _ := hK4
          clear hK4
          have s0 : True := trivial
          go_wp2_with (have _t := s0; clear s0; refine wpList_stC _ rfl _ _ _ rfl gw 12 112 _ #[.int .i64 id, .bool kn, .string nm, .int .i64 si, .bool en, .int .i64 la, .int .i64 su, .slice q G.length d, .slice a L.length c, .int .i64 3, .int .i64 0, .int .i64 pa, .int .i64 r1, .int .i64 li, .slice na xs.length nc] (.int .i64 r1) rfl rfl h1.bx (stc_int _ _ _) (by show 12 < 15; decide) rfl ?_; intro w5 bw5 uw5)
          refine HK4.out _ _ ?_
          clear HK4
          have h5 := h1.set uw5 bw5
          have k5 := k1.trans (KpK.bx h1.bx (by decide) uw5)
          clear x12
          go_wp2_with (go_at_call 105; refine (sendDone_any _ _ _ _ _ _ _ _ _ _ _ _ _ _ _ _ _ _ _ _ _ _ _ _ _ _ _ 0 h5 (by have := HXL.out; omega)).mono ?_; rintro e w6 ⟨rfl, ⟨na6, nc6, h6⟩, f6⟩)
          try simp only [Exit.then, Exit.inBlock]
          first | go_end0 | refine bodyPost_ret (results_none rfl _ _ _) rfl ?_
          refine ⟨rfl, ?_, k5.trans (f6.kp h5)⟩
          rw [HX.out, if_pos HLT.out, if_pos hwt, HR1.out]
          show KA wB _ gw (⟨id, kn, nm, si, en, la, su, 3, 0, pa, r1, li, L, G⟩ : Tv) (T ++ [ntDone id 0])
          exact KA.of (map_one HT.out _ _ rfl) (V := (⟨id, kn, nm, si, en, la, su, 3, 0, pa, r1, li, L, G⟩ : Tv)) h6
        · have hwd : decide (wtN ti pa = 0) = false := decide_eq_false hwt
          go_wp2_with (go_at_call 108; refine (waited_any gw id kn nm si en la su q G.length d a L.length c 3 ti pa tr li na xs.length nc _ hd.bx hti.1 hti.2.1 hti.2.2).mono ?_; rw [hwd]; rintro e w1 ⟨rfl, b1, u1⟩)
          have h1 := hd.set u1 b1
          have k1 := k0.trans (KpK.bx hd.bx (by decide) u1)
          refine HK3.out _ _ ?_
          clear HK3
          refine wp_cond_false rfl ?_
          refine wp_skip ?_
          try simp only [Exit.then, Exit.inBlock]
          first | go_end0 | refine bodyPost_ret (results_none rfl _ _ _) rfl ?_
          refine ⟨rfl, ?_, k1⟩
          rw [HX.out, if_pos HLT.out, if_neg hwt]
          show KA wB _ gw (⟨id, kn, nm, si, en, la, su, 3, wtN ti pa, pa, tr, li, L, G⟩ : Tv) (T ++ [])
          rw [List.append_nil]
          exact KA.of HT.out (V := (⟨id, kn, nm, si, en, la, su, 3, wtN ti pa, pa, tr, li, L, G⟩ : Tv)) h1
      · have HLT : Hid _ := hlt
        have Gd := grown_drew w none
        have hd := h.keepN Gd
        have SS : BxS w.drew gw 112 #[.int .i64 id, .bool kn, .string nm, .int .i64 si, .bool en, .int .i64 la, .int .i64 su, .slice q G.length d, .slice a L.length c, .int .i64 3, .int .i64 ti, .int .i64 pa, .int .i64 tr, .int .i64 li, .slice na xs.length nc] := hd.bx
        refine wp_regionL (fun wz => BxS wz gw 112 #[.int .i64 id, .bool kn, .string nm, .int .i64 si, .bool en, .int .i64 la, .int .i64 su, .slice q G.length d, .slice a L.length c, .int .i64 3, .int .i64 ti, .int .i64 pa, .int .i64 tr, .int .i64 li, .slice na xs.length nc]) [] #[false, false, false, false, false, false, false, false, false, false, false, false, false, false, false, false, false, false, false, false] rfl (by kernel_rfl) ?_
        refine wpAnyZ_take [] 0 (.pointer (some ⟨gw, 0, none⟩)) rfl (by kernel_rfl) (fun _ _ _ h => h) SS rfl (by intro wz hz; go_simp) ?_
        try simp only [zc1, zc2, zc3, Act.put, zc4, zc5, zc6]
        refine wpAnyZ_take [] 1 (.pointer (some ⟨gw, 0, none⟩)) rfl (by kernel_rfl) (fun _ _ _ h => h) SS rfl (by intro wz hz; go_simp) ?_
        try simp only [zc1, zc2, zc3, Act.put, zc4, zc5, zc6]
        refine wpAnyZ_take [] 2 (.pointer (some ⟨gw, 0, none⟩)) rfl (by kernel_rfl) (fun _ _ _ h => h) SS rfl (by intro wz hz; go_simp) ?_
        try simp only [zc1, zc2, zc3, Act.put, zc4, zc5, zc6]
        refine wpAnyZ_take [] 3 (.pointer (some ⟨gw, 9, none⟩)) rfl (by kernel_rfl) (fun _ _ _ h => h) SS rfl (by intro wz hz; go_simp) ?_
        try simp only [zc1, zc2, zc3, Act.put, zc4, zc5, zc6]
        refine wpAnyZ_take [] 4 (.int .i64 3) rfl (by kernel_rfl) (fun _ _ _ h => h) SS rfl (by intro wz hz; have z : wz.cell? ⟨gw, 9, none⟩ = some (.int .i64 3) := hz.cell 9 (by show 9 < 15; decide); go_simp) ?_
        try simp only [zc1, zc2, zc3, Act.put, zc4, zc5, zc6]
        refine wpAnyZ_take [] 5 (.bool true) rfl (by kernel_rfl) (fun _ _ _ h => h) SS rfl (by intro wz hz; go_simp) ?_
        try simp only [zc1, zc2, zc3, Act.put, zc4, zc5, zc6]
        refine wpAnyZ_take [] 6 (.bool true) rfl (by kernel_rfl) (fun _ _ _ h => h) SS rfl (by intro wz hz; go_simp) ?_
        try simp only [zc1, zc2, zc3, Act.put, zc4, zc5, zc6]
        refine wpAnyZ_take [] 7 (.pointer (some ⟨gw, 0, none⟩)) rfl (by kernel_rfl) (fun _ _ _ h => h) SS rfl (by intro wz hz; go_simp) ?_
        try simp only [zc1, zc2, zc3, Act.put, zc4, zc5, zc6]
        refine wpAnyZ_take [] 8 (.pointer (some ⟨gw, 0, none⟩)) rfl (by kernel_rfl) (fun _ _ _ h => h) SS rfl (by intro wz hz; go_simp) ?_
        try simp only [zc1, zc2, zc3, Act.put, zc4, zc5, zc6]
        refine wpAnyZ_take [] 9 (.pointer (some ⟨gw, 0, none⟩)) rfl (by kernel_rfl) (fun _ _ _ h => h) SS rfl (by intro wz hz; go_simp) ?_
        try simp only [zc1, zc2, zc3, Act.put, zc4, zc5, zc6]
        refine wpAnyZ_take [] 10 (.pointer (some ⟨gw, 12, none⟩)) rfl (by kernel_rfl) (fun _ _ _ h => h) SS rfl (by intro wz hz; go_simp) ?_
        try simp only [zc1, zc2, zc3, Act.put, zc4, zc5, zc6]
        refine wpAnyZ_take [] 11 (.int .i64 tr) rfl (by kernel_rfl) (fun _ _ _ h => h) SS rfl (by intro wz hz; have z : wz.cell? ⟨gw, 12, none⟩ = some (.int .i64 tr) := hz.cell 12 (by show 12 < 15; decide); go_simp) ?_
        try simp only [zc1, zc2, zc3, Act.put, zc4, zc5, zc6]
        refine wpAnyZ_take [] 12 (.pointer (some ⟨gw, 0, none⟩)) rfl (by kernel_rfl) (fun _ _ _ h => h) SS rfl (by intro wz hz; go_simp) ?_
        try simp only [zc1, zc2, zc3, Act.put, zc4, zc5, zc6]
        refine wpAnyZ_take [] 13 (.pointer (some ⟨gw, 0, none⟩)) rfl (by kernel_rfl) (fun _ _ _ h => h) SS rfl (by intro wz hz; go_simp) ?_
        try simp only [zc1, zc2, zc3, Act.put, zc4, zc5, zc6]
        refine wpAnyZ_take [] 14 (.pointer (some ⟨gw, 0, none⟩)) rfl (by kernel_rfl) (fun _ _ _ h => h) SS rfl (by intro wz hz; go_simp) ?_
        try simp only [zc1, zc2, zc3, Act.put, zc4, zc5, zc6]
        refine wpAnyZ_take [] 15 (.pointer (some ⟨gw, 13, none⟩)) rfl (by kernel_rfl) (fun _ _ _ h => h) SS rfl (by intro wz hz; go_simp) ?_
        try simp only [zc1, zc2, zc3, Act.put, zc4, zc5, zc6]
        refine wpAnyZ_take [] 16 (.int .i64 li) rfl (by kernel_rfl) (fun _ _ _ h => h) SS rfl (by intro wz hz; have z : wz.cell? ⟨gw, 13, none⟩ = some (.int .i64 li) := hz.cell 13 (by show 13 < 15; decide); go_simp) ?_
        try simp only [zc1, zc2, zc3, Act.put, zc4, zc5, zc6]
        refine wpAnyZ_take [] 17 (.bool false) rfl (by kernel_rfl) (fun _ _ _ h => h) SS rfl (by intro wz hz; go_simp) ?_
        try simp only [zc1, zc2, zc3, Act.put, zc4, zc5, zc6]
        refine wpAnyZ_take [] 18 (.bool false) rfl (by kernel_rfl) (fun _ _ _ h => h) SS rfl (by intro wz hz; go_simp) ?_
        try simp only [zc1, zc2, zc3, Act.put, zc4, zc5, zc6]
        refine wpAnyZ_take [] 19 (.bool false) rfl (by kernel_rfl) (fun _ _ _ h => h) SS rfl (by intro wz hz; go_simp) ?_
        try simp only [zc1, zc2, zc3, Act.put, zc4, zc5, zc6]
        refine wpAnyZ_doneB (by kernel_rfl) ?_ _
        refine HK2.out _ _ ?_
        clear HK2
        refine wp_cond_false rfl ?_
        refine wp_skip ?_
        try simp only [Exit.then, Exit.inBlock]
        first | go_end0 | refine bodyPost_ret (results_none rfl _ _ _) rfl ?_
        refine ⟨rfl, ?_, KpK.none Gd⟩
        rw [HX.out, if_neg HLT.out]
        show KA wB _ gw (⟨id, kn, nm, si, en, la, su, 3, ti, pa, tr, li, L, G⟩ : Tv) (T ++ [])
        rw [List.append_nil]
        exact KA.of HT.out (V := (⟨id, kn, nm, si, en, la, su, 3, ti, pa, tr, li, L, G⟩ : Tv)) hd
    · obtain rfl : st = 4 := by omega
      clear hs0 hs3
      have HX : Hid (tiT (⟨id, kn, nm, si, en, la, su, 4, ti, pa, tr, li, L, G⟩ : Tv) = ((⟨id, kn, nm, si, en, la, su, 4, ti, pa, tr, li, L, G⟩ : Tv), [])) := by show _ = _; unfold tiT; rw [if_neg (fun e => by have e1 : (4 : Int) = 0 := e.1; omega), if_neg (fun e => by have e1 : (4 : Int) = 3 := e.1; omega)]
      go_enter Try.func80, Try.ntmps80
      refine wp_block ?_
      refine wp_seq_k fun K1 hK1 => ?_
      have HK1 : Hid _ := hK1
      clear hK1
      go_wp2
      refine HK1.out _ _ ?_
      clear HK1
      refine wp_cond_false rfl ?_
      clear x9 x4
      refine wp_seq_k fun K2 hK2 => ?_
      have HK2 : Hid _ := hK2
      clear hK2
      have Gd := grown_drew w none
      have hd := h.keepN Gd
      have SS : BxS w.drew gw 112 #[.int .i64 id, .bool kn, .string nm, .int .i64 si, .bool en, .int .i64 la, .int .i64 su, .slice q G.length d, .slice a L.length c, .int .i64 4, .int .i64 ti, .int .i64 pa, .int .i64 tr, .int .i64 li, .slice na xs.length nc] := hd.bx
      refine wp_regionL (fun wz => BxS wz gw 112 #[.int .i64 id, .bool kn, .string nm, .int .i64 si, .bool en, .int .i64 la, .int .i64 su, .slice q G.length d, .slice a L.length c, .int .i64 4, .int .i64 ti, .int .i64 pa, .int .i64 tr, .int .i64 li, .slice na xs.length nc]) [] #[false, false, false, false, false, false, false, false, false, false, false, false, false, false, false, false, false, false, false, false] rfl (by kernel_rfl) ?_
      refine wpAnyZ_take [] 0 (.pointer (some ⟨gw, 0, none⟩)) rfl (by kernel_rfl) (fun _ _ _ h => h) SS rfl (by intro wz hz; go_simp) ?_
      try simp only [zc1, zc2, zc3, Act.put, zc4, zc5, zc6]
      refine wpAnyZ_take [] 1 (.pointer (some ⟨gw, 0, none⟩)) rfl (by kernel_rfl) (fun _ _ _ h => h) SS rfl (by intro wz hz; go_simp) ?_
      try simp only [zc1, zc2, zc3, Act.put, zc4, zc5, zc6]
      refine wpAnyZ_take [] 2 (.pointer (some ⟨gw, 0, none⟩)) rfl (by kernel_rfl) (fun _ _ _ h => h) SS rfl (by intro wz hz; go_simp) ?_
      try simp only [zc1, zc2, zc3, Act.put, zc4, zc5, zc6]
      refine wpAnyZ_take [] 3 (.pointer (some ⟨gw, 9, none⟩)) rfl (by kernel_rfl) (fun _ _ _ h => h) SS rfl (by intro wz hz; go_simp) ?_
      try simp only [zc1, zc2, zc3, Act.put, zc4, zc5, zc6]
      refine wpAnyZ_take [] 4 (.int .i64 4) rfl (by kernel_rfl) (fun _ _ _ h => h) SS rfl (by intro wz hz; have z : wz.cell? ⟨gw, 9, none⟩ = some (.int .i64 4) := hz.cell 9 (by show 9 < 15; decide); go_simp) ?_
      try simp only [zc1, zc2, zc3, Act.put, zc4, zc5, zc6]
      refine wpAnyZ_take [] 5 (.bool false) rfl (by kernel_rfl) (fun _ _ _ h => h) SS rfl (by intro wz hz; go_simp) ?_
      try simp only [zc1, zc2, zc3, Act.put, zc4, zc5, zc6]
      refine wpAnyZ_take [] 6 (.bool false) rfl (by kernel_rfl) (fun _ _ _ h => h) SS rfl (by intro wz hz; go_simp) ?_
      try simp only [zc1, zc2, zc3, Act.put, zc4, zc5, zc6]
      refine wpAnyZ_skipD [] 7 rfl (by kernel_rfl) (fun _ _ _ h => h) SS rfl ?_
      try simp only [zc1, zc2, zc3, Act.put, zc4, zc5, zc6]
      refine wpAnyZ_skipD [] 8 rfl (by kernel_rfl) (fun _ _ _ h => h) SS rfl ?_
      try simp only [zc1, zc2, zc3, Act.put, zc4, zc5, zc6]
      refine wpAnyZ_skipD [] 9 rfl (by kernel_rfl) (fun _ _ _ h => h) SS rfl ?_
      try simp only [zc1, zc2, zc3, Act.put, zc4, zc5, zc6]
      refine wpAnyZ_skipD [] 10 rfl (by kernel_rfl) (fun _ _ _ h => h) SS rfl ?_
      try simp only [zc1, zc2, zc3, Act.put, zc4, zc5, zc6]
      refine wpAnyZ_skipD [] 11 rfl (by kernel_rfl) (fun _ _ _ h => h) SS rfl ?_
      try simp only [zc1, zc2, zc3, Act.put, zc4, zc5, zc6]
      refine wpAnyZ_skipD [] 12 rfl (by kernel_rfl) (fun _ _ _ h => h) SS rfl ?_
      try simp only [zc1, zc2, zc3, Act.put, zc4, zc5, zc6]
      refine wpAnyZ_skipD [] 13 rfl (by kernel_rfl) (fun _ _ _ h => h) SS rfl ?_
      try simp only [zc1, zc2, zc3, Act.put, zc4, zc5, zc6]
      refine wpAnyZ_skipD [] 14 rfl (by kernel_rfl) (fun _ _ _ h => h) SS rfl ?_
      try simp only [zc1, zc2, zc3, Act.put, zc4, zc5, zc6]
      refine wpAnyZ_skipD [] 15 rfl (by kernel_rfl) (fun _ _ _ h => h) SS rfl ?_
      try simp only [zc1, zc2, zc3, Act.put, zc4, zc5, zc6]
      refine wpAnyZ_skipD [] 16 rfl (by kernel_rfl) (fun _ _ _ h => h) SS rfl ?_
      try simp only [zc1, zc2, zc3, Act.put, zc4, zc5, zc6]
      refine wpAnyZ_skipD [] 17 rfl (by kernel_rfl) (fun _ _ _ h => h) SS rfl ?_
      try simp only [zc1, zc2, zc3, Act.put, zc4, zc5, zc6]
      refine wpAnyZ_take [] 18 (.bool false) rfl (by kernel_rfl) (fun _ _ _ h => h) SS rfl (by intro wz hz; go_simp) ?_
      try simp only [zc1, zc2, zc3, Act.put, zc4, zc5, zc6]
      refine wpAnyZ_take [] 19 (.bool false) rfl (by kernel_rfl) (fun _ _ _ h => h) SS rfl (by intro wz hz; go_simp) ?_
      try simp only [zc1, zc2, zc3, Act.put, zc4, zc5, zc6]
      refine wpAnyZ_doneB (by kernel_rfl) ?_ _
      refine HK2.out _ _ ?_
      clear HK2
      refine wp_cond_false rfl ?_
      refine wp_skip ?_
      try simp only [Exit.then, Exit.inBlock]
      first | go_end0 | refine bodyPost_ret (results_none rfl _ _ _) rfl ?_
      refine ⟨rfl, ?_, KpK.none Gd⟩
      rw [HX.out]
      show KA wB _ gw (⟨id, kn, nm, si, en, la, su, 4, ti, pa, tr, li, L, G⟩ : Tv) (T ++ [])
      rw [List.append_nil]
      exact KA.of HT.out (V := (⟨id, kn, nm, si, en, la, su, 4, ti, pa, tr, li, L, G⟩ : Tv)) hd
end
end Go.Proofs.Ytnimehkfnpepfaa
