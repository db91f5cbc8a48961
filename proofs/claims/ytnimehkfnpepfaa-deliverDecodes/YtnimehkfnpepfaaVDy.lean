import Derived.Test.YtnimehkfnpepfaaVDu
import Derived.Test.YtnimehkfnpepfaaVDt
import Derived.Test.YtnimehkfnpepfaaVNm
import Derived.Test.YtnimehkfnpepfaaZSub
namespace Go.Proofs.Ytnimehkfnpepfaa
open Go.RowKit
set_option maxRecDepth 100000
set_option linter.unusedVariables false
set_option linter.unusedSimpArgs false

theorem OwGp.neB {w : World} {lo : Nat} {q : Option Addr} {m d g : Nat} {G : List (Nat × Nat)} {t : TypeId} {cs : Array Value} (h : OwGp w lo q m d G) (hb : BxS w g t cs) (ht : 82 ≠ t) : some g ≠ (Value.slice q m d).ownBlock := by
  intro e
  rcases h.own.2 with ⟨h1, _⟩ | ⟨g', cap', cur, h1, _, h3, _⟩
  · rw [h1] at e; cases e
  · rw [h1] at e
    have e : g = g' := Option.some.inj e
    subst e
    have hb : w.heap[g]? = some (.cells cs t) := hb
    rw [h3] at hb
    injection hb with hb
    injection hb with _ hb
    exact ht hb

set_option maxHeartbeats 16000000 in
theorem no_k4 {u0 u1 u3 u6 u7 u8 u9 u10 u11 u12 u13 u14 u15 u16 u17 u18 u19 u20 u21 u22 u23 u24 u25 u26 u27 u28 u29 u30 u31 u32 u33 u34 u35 u36 u37 u38 u39 u40 u41 u42 u43 u44 u45 u46 u47 u48 u49 u50 u51 u52 u53 u54 u55 u56 u57 u58 u59 u60 u61 u62 u63 u64 u65 u66 u67 u68 u69 u70 u71 u72 u73 u74 u75 u76 u77 u78 u79 u80 u81 u82 u83 u84 u85 u86 u87 u88 u89 u90 u91 u92 u93 u94 u95 u96 u97 u98 u99 u100 u101 u102 u103 u104 u105 u106 u107 u108 u109 u110 u111 u112 u113 u114 u115 u116 u117 u118 u119 u120 u121 u122 u123 u124 u125 u126 : Value} (w wS : World) (g2 g4 id b off cn cc : Nat) (c : List Nat) (hC : Rd wS (some ⟨b, off, none⟩) cn cc c) (b4 : BxS w g4 27 (ntA (4 : Nat) (id : Int) ByteArray.empty 0 0 0 (.slice none 0 0) (.slice none 0 0) 0 0)) (b2 : BxS w g2 27 ntZ) (h24 : g2 ≠ g4) (h2 : wS.heap.size ≤ g2) (h4 : wS.heap.size ≤ g4) (G : wS.grownBy w none) (hcl : cn ≤ 140737488351232) (hc1 : 1 ≤ cn) (hl : cn % 8 = 0) (hl2 : ¬ 160 < cn) :
    Code.wp Try.prog (tailR 5 (Try.f17.body.getD .skip)) (bodyPost Try.prog Try.f17 (DocP wS (docK 4 id c))) (Act.mk (List.toArray (u0 :: u1 :: (.pointer (some ⟨g2, 0, none⟩)) :: u3 :: (.pointer (some ⟨g4, 0, none⟩)) :: (.slice (some ⟨b, off, none⟩) cn cc) :: u6 :: u7 :: u8 :: u9 :: u10 :: u11 :: u12 :: u13 :: u14 :: u15 :: u16 :: u17 :: u18 :: u19 :: u20 :: u21 :: u22 :: u23 :: u24 :: u25 :: u26 :: u27 :: u28 :: u29 :: u30 :: u31 :: u32 :: u33 :: u34 :: u35 :: u36 :: u37 :: u38 :: u39 :: u40 :: u41 :: u42 :: u43 :: u44 :: u45 :: u46 :: u47 :: u48 :: u49 :: u50 :: u51 :: u52 :: u53 :: u54 :: u55 :: u56 :: u57 :: u58 :: u59 :: u60 :: u61 :: u62 :: u63 :: u64 :: u65 :: u66 :: u67 :: u68 :: u69 :: u70 :: u71 :: u72 :: u73 :: u74 :: u75 :: u76 :: u77 :: u78 :: u79 :: u80 :: u81 :: u82 :: u83 :: u84 :: u85 :: u86 :: u87 :: u88 :: u89 :: u90 :: u91 :: u92 :: u93 :: u94 :: u95 :: u96 :: u97 :: u98 :: u99 :: u100 :: u101 :: u102 :: u103 :: u104 :: u105 :: u106 :: u107 :: u108 :: u109 :: u110 :: u111 :: u112 :: u113 :: u114 :: u115 :: u116 :: u117 :: u118 :: u119 :: u120 :: u121 :: u122 :: u123 :: u124 :: u125 :: u126 :: [])) []) w := by
  conv => enter [2]; whnf
  have hlen := hC.len
  have hle := hC.le
  have hmx := hC.max
  unfold maxLen at hmx
  unfold ntA at b4
  have i10 := Try.info_nt
  have x0 : w.cell? ⟨g4, 0, none⟩ = some (.int .i64 ((4 : Nat) : Int)) := b4.cell 0 (by show 0 < 10; decide)
  rw [show docK 4 id c = some ⟨4, id, [], 0, 0, 0, [], gpR (c.length / 8) c, 0, 0⟩ from by unfold docK; rw [if_neg (by decide), if_neg (by decide), if_neg (by decide), if_pos rfl, if_pos (by omega)]]
  have d8 : (cn : Int) % 8 = 0 := by omega
  have d9 : (cn : Int).tmod 8 = 0 := by rw [Int.tmod_eq_emod_of_nonneg (by omega)]; omega
  have d7 : ¬ (160 : Int) < (cn : Int) := by omega
  have i0r := Try.info_pr
  obtain ⟨i0, hi, hz0, hz1, hz2⟩ := info_parts i0r
  refine wp_seq_k fun K1 hK1 => ?_
  have HK1 : Hid _ := hK1
  clear hK1
  go_wp2
  clear x0 d8 d9 d7
  go_loopw [6] (fun iv wr => ∃ (i j d : Nat) (q : Option Addr), Hid (i = 8 * j) ∧ i ≤ cn ∧ iv = .int .i64 i ∧ BxS wr g4 27 #[.int .i64 ((4 : Nat) : Int), .int .i64 (id : Int), .string ByteArray.empty, .int .i64 0, .int .i64 0, .int .i64 0, .slice none 0 0, .slice q j d, .int .i64 0, .int .i64 0] ∧ BxS wr g2 27 ntZ ∧ OwGp wr wS.heap.size q j d (gpR j c) ∧ wS.grownBy wr none) (fun iv _ => cn - (intOf iv).toNat)
  case atStart => exact ⟨0, 0, 0, none, rfl, by omega, rfl, b4, b2, OwGp.nil _ _, G⟩
  case round =>
    obtain ⟨i, j, d, q, HI, hi9, rfl, b4r, b2r, hOr, Gr⟩ := hrel
    by_cases hlt : i < cn
    · have li : (i : Int) < (cn : Int) := by omega
      have hi8 : i + 8 ≤ cn := by have := HI.out; omega
      have hij : 8 * j < cn := by have := HI.out; omega
      refine wp_seq_k fun K2 hK2 => ?_
      have HK2 : Hid _ := hK2
      clear hK2
      go_wp2
      refine HK2.out _ _ ?_
      clear HK2
      refine wp_seq_k fun K3 hK3 => ?_
      have HK3 : Hid _ := hK3
      clear hK3
      refine wp_block ?_
      have Gd := grown_drew wr none
      have SS : BxS wr.drew g4 27 #[.int .i64 ((4 : Nat) : Int), .int .i64 (id : Int), .string ByteArray.empty, .int .i64 0, .int .i64 0, .int .i64 0, .slice none 0 0, .slice q j d, .int .i64 0, .int .i64 0] := b4r.keep Gd (by simp)
      have b2d := b2r.keep Gd (by simp)
      have hOd := hOr.keep Gd
      have G2 := grown_trans Gr Gd
      have s0 : IntKind.i64.wrap ((i : Int) + 4) = (i : Int) + 4 := wrap_i64_in _ (by omega) (by omega)
      have s1 : (i : Int) ≤ (cn : Int) := by omega
      have s2 : (i : Int) ≤ (cc : Int) := by omega
      have s3 : ¬ cc = i := by omega
      obtain ⟨i4, hi4⟩ : ∃ i4, i4 = i + 4 := ⟨_, rfl⟩
      have s4 : (i4 : Int) ≤ (cn : Int) := by omega
      have s5 : (i4 : Int) ≤ (cc : Int) := by omega
      have s6 : ¬ cc = i4 := by omega
      have s7 : i4 + 4 ≤ cn := by omega
      have hr1 : Rd wS (some ⟨b, off + i, none⟩) (cn - i) (cc - i) (c.drop i) := by have h := hC.beh (k := i) (by omega); rw [if_neg (by omega)] at h; exact h
      have hr2 : Rd wS (some ⟨b, off + i4, none⟩) (cn - i4) (cc - i4) (c.drop i4) := by have h := hC.beh (k := i4) (by omega); rw [if_neg (by omega)] at h; exact h
      have HI4 : Hid _ := hi4
      clear hi4
      refine wp_regionL (fun wz => BxS wz g4 27 #[.int .i64 ((4 : Nat) : Int), .int .i64 (id : Int), .string ByteArray.empty, .int .i64 0, .int .i64 0, .int .i64 0, .slice none 0 0, .slice q j d, .int .i64 0, .int .i64 0]) [15] #[false, false, false, false, false, false, false, false, false, false, false, false, false, false, false, false] rfl (by kernel_rfl) ?_
      refine wpAnyZ_take [15] 0 (.pointer (some ⟨g4, 7, none⟩)) rfl (by kernel_rfl) (fun _ _ _ h => h) SS rfl (by intro wz hz; go_simp) ?_
      try simp only [List.getElem_toArray, List.getElem_cons_succ, List.getElem_cons_zero, Act.put, List.setIfInBounds_toArray, List.set_cons_zero, List.set_cons_succ]
      refine wpAnyZ_take [15] 1 (.slice q j d) rfl (by kernel_rfl) (fun _ _ _ h => h) SS rfl (by rintro wz hz; have z7 : wz.cell? ⟨g4, 7, none⟩ = some (.slice q j d) := hz.cell 7 (by show 7 < 10; decide); go_simp) ?_
      try simp only [List.getElem_toArray, List.getElem_cons_succ, List.getElem_cons_zero, Act.put, List.setIfInBounds_toArray, List.set_cons_zero, List.set_cons_succ]
      refine wpAnyZ_take [15] 2 (.slice (some ⟨b, off, none⟩) cn cc) rfl (by kernel_rfl) (fun _ _ _ h => h) SS rfl (by intro wz hz; go_simp) ?_
      try simp only [List.getElem_toArray, List.getElem_cons_succ, List.getElem_cons_zero, Act.put, List.setIfInBounds_toArray, List.set_cons_zero, List.set_cons_succ]
      refine wpAnyZ_take [15] 3 (.int .i64 (i : Int)) rfl (by kernel_rfl) (fun _ _ _ h => h) SS rfl (by intro wz hz; go_simp) ?_
      try simp only [List.getElem_toArray, List.getElem_cons_succ, List.getElem_cons_zero, Act.put, List.setIfInBounds_toArray, List.set_cons_zero, List.set_cons_succ]
      refine wpAnyZ_take [15] 4 (.slice (some ⟨b, off + i, none⟩) (cn - i) (cc - i)) rfl (by kernel_rfl) (fun _ _ _ h => h) SS rfl (by intro wz hz; go_simp) ?_
      try simp only [List.getElem_toArray, List.getElem_cons_succ, List.getElem_cons_zero, Act.put, List.setIfInBounds_toArray, List.set_cons_zero, List.set_cons_succ]
      refine wpAnyZ_take [15] 6 (.slice (some ⟨b, off, none⟩) cn cc) rfl (by kernel_rfl) (fun _ _ _ h => h) SS rfl (by intro wz hz; go_simp) ?_
      try simp only [List.getElem_toArray, List.getElem_cons_succ, List.getElem_cons_zero, Act.put, List.setIfInBounds_toArray, List.set_cons_zero, List.set_cons_succ]
      refine wpAnyZ_take [15] 7 (.int .i64 (i : Int)) rfl (by kernel_rfl) (fun _ _ _ h => h) SS rfl (by intro wz hz; go_simp) ?_
      try simp only [List.getElem_toArray, List.getElem_cons_succ, List.getElem_cons_zero, Act.put, List.setIfInBounds_toArray, List.set_cons_zero, List.set_cons_succ]
      refine wpAnyZ_take [15] 8 (.int .i64 (i4 : Int)) rfl (by kernel_rfl) (fun _ _ _ h => h) SS rfl (by intro wz hz; rw [show (i4 : Int) = (i : Int) + 4 by have := HI4.out; omega]; go_simp) ?_
      try simp only [List.getElem_toArray, List.getElem_cons_succ, List.getElem_cons_zero, Act.put, List.setIfInBounds_toArray, List.set_cons_zero, List.set_cons_succ]
      refine wpAnyZ_take [15] 9 (.slice (some ⟨b, off + i4, none⟩) (cn - i4) (cc - i4)) rfl (by kernel_rfl) (fun _ _ _ h => h) SS rfl (by intro wz hz; go_simp) ?_
      try simp only [List.getElem_toArray, List.getElem_cons_succ, List.getElem_cons_zero, Act.put, List.setIfInBounds_toArray, List.set_cons_zero, List.set_cons_succ]
      generalize wr.drew = w2 at *
      refine wpAnyZ_oneB 5 rfl (by kernel_rfl) (fun KK hKK => ?_)
      go_simp
      go_at_call 53
      refine (four4_any _ _ _ (c.drop i) w2 (hr1.keep G2) (by omega)).mono ?_
      rintro e w3 ⟨rfl, y3⟩
      dsimp only
      obtain ⟨x, hx⟩ : ∃ x, hdV (c.drop i) 4 = x := ⟨_, rfl⟩
      rw [hx]
      have HX : Hid _ := hx
      clear hx
      have S3 := SS.keep y3 (by simp)
      refine hKK _ _ (fun _ => S3) ?_
      try simp only [List.getElem_toArray, List.getElem_cons_succ, List.getElem_cons_zero, Act.put, List.setIfInBounds_toArray, List.set_cons_zero, List.set_cons_succ]
      refine wpAnyZ_oneB 10 rfl (by kernel_rfl) (fun KK hKK => ?_)
      go_simp
      go_at_call 53
      refine (four4_any _ _ _ (c.drop i4) w3 (hr2.keep (grown_trans G2 y3)) (by omega)).mono ?_
      rintro e w4 ⟨rfl, y4⟩
      dsimp only
      obtain ⟨y, hy⟩ : ∃ y, hdV (c.drop i4) 4 = y := ⟨_, rfl⟩
      rw [hy]
      have HY : Hid _ := hy
      clear hy
      have S4 := S3.keep y4 (by simp)
      refine hKK _ _ (fun _ => S4) ?_
      try simp only [List.getElem_toArray, List.getElem_cons_succ, List.getElem_cons_zero, Act.put, List.setIfInBounds_toArray, List.set_cons_zero, List.set_cons_succ]
      have y34 := grown_trans y3 y4
      have b24 := b2d.keep y34 (by simp)
      have hO4 := hOd.keep y34
      have G4 := grown_trans G2 y34
      refine wpAnyZ_take [15] 11 (.agg #[.int .i64 (x : Int), .int .i64 (y : Int)]) rfl (by kernel_rfl) (fun _ _ _ h => h) S4 rfl (by intro wz hz; go_simp) ?_
      try simp only [List.getElem_toArray, List.getElem_cons_succ, List.getElem_cons_zero, Act.put, List.setIfInBounds_toArray, List.set_cons_zero, List.set_cons_succ]
      have bA := BxS.new w4 82 #[.int .i64 (x : Int), .int .i64 (y : Int)]
      have yA := World.grownBy_alloc w4 (.cells #[.int .i64 (x : Int), .int .i64 (y : Int)] 82) none
      refine wpAnyZ_oneB 12 rfl (by kernel_rfl) (fun KK hKK => ?_)
      go_simp
      have S5 := S4.keep yA (by simp)
      have b25 := b24.keep yA (by simp)
      have hO5 := hO4.keep yA
      have G5 := grown_trans G4 yA
      refine hKK _ _ (fun _ => S5) ?_
      try simp only [List.getElem_toArray, List.getElem_cons_succ, List.getElem_cons_zero, Act.put, List.setIfInBounds_toArray, List.set_cons_zero, List.set_cons_succ]
      have z4 := G4.size
      generalize w4.alloc (.cells #[.int .i64 (x : Int), .int .i64 (y : Int)] 82) = w5 at *
      obtain ⟨v0, v1⟩ := bA.cell2
      refine wpAnyZ_oneB 13 rfl (by kernel_rfl) (fun KK hKK => ?_)
      refine step_apS w5 rfl _ _ 24 82 i0 (.agg #[.int .i64 0, .int .i64 0]) 2 16 Try.underlying24 hi hz0 hz1 hz2 rfl (by decide) rfl (.slice q j d) j (flG (gpF (gpR j c)) j) rfl hO5.own ⟨w4.heap.size, 0, none⟩ 1 1 [.int .i64 (x : Int), .int .i64 (y : Int)] rfl rfl ?_ (by intro u hu; simp only [List.mem_cons, List.not_mem_nil, or_false] at hu; rcases hu with rfl | rfl <;> rfl) (by decide) (by unfold maxLen; omega) (by omega) ?_
      · intro i u hu
        match i with
        | 0 => simp only [List.getElem?_cons_zero, Option.some.injEq] at hu; subst hu; exact v0
        | 1 => simp only [List.getElem?_cons_succ, List.getElem?_cons_zero, Option.some.injEq] at hu; subst hu; exact v1
        | i + 2 => simp at hu
      intro gx cx w6 hor u6 hO6
      have hne : ∀ g t cs, BxS w5 g t cs → 82 ≠ t → some g ≠ (Value.slice q j d).ownBlock := fun g t cs hb ht => hO5.neB hb ht
      have S6 := S5.keep u6 (hne _ _ _ S5 (by decide))
      have b26 := b25.keep u6 (hne _ _ _ b25 (by decide))
      have z5 := G5.size
      have hgx : wS.heap.size ≤ gx := by
        rcases hor with h1 | h1
        · exact hO5.new gx h1
        · omega
      have G6 := grown_far G5 u6 (fun q9 e => hO5.new q9 e)
      refine hKK _ _ (fun _ => S6) ?_
      try simp only [List.getElem_toArray, List.getElem_cons_succ, List.getElem_cons_zero, Act.put, List.setIfInBounds_toArray, List.set_cons_zero, List.set_cons_succ]
      refine wpAnyZ_take [15] 14 (.pointer (some ⟨g4, 7, none⟩)) rfl (by kernel_rfl) (fun _ _ _ h => h) S6 rfl (by intro wz hz; go_simp) ?_
      try simp only [List.getElem_toArray, List.getElem_cons_succ, List.getElem_cons_zero, Act.put, List.setIfInBounds_toArray, List.set_cons_zero, List.set_cons_succ]
      refine wpAnyZ_oneB 15 rfl (by kernel_rfl) (fun KK hKK => ?_)
      refine step_stCd _ rfl _ _ _ rfl g4 7 27 _ #[.int .i64 ((4 : Nat) : Int), .int .i64 (id : Int), .string ByteArray.empty, .int .i64 0, .int .i64 0, .int .i64 0, .slice none 0 0, .slice (some ⟨gx, 0, none⟩) (j + 1) cx, .int .i64 0, .int .i64 0] (.slice (some ⟨gx, 0, none⟩) (j + 1) cx) rfl rfl S6 (fun w' h1 h2 => stc_slG _ _ _ _ _ _ h1 h2) (by show 7 < 10; decide) rfl ?_
      intro w7 b47 u7
      refine hKK _ _ (fun h => absurd (by decide) h) ?_
      try simp only [List.getElem_toArray, List.getElem_cons_succ, List.getElem_cons_zero, Act.put, List.setIfInBounds_toArray, List.set_cons_zero, List.set_cons_succ]
      refine wpAnyZ_doneB (by kernel_rfl) ?_ _
      have hO7 : OwGp w6 wS.heap.size (some ⟨gx, 0, none⟩) (j + 1) cx (gpR (j + 1) c) := by
        refine ⟨?_, gpR_len _ _, fun g e => by have e : gx = g := Option.some.inj e; omega⟩
        rw [gpR_succ, gpF_push _ _ _ (gpR_len _ _), ← HI.out, ← HI4.out, HX.out, HY.out]
        exact hO6
      have hO8 := hO7.bx S6 (by decide) u7
      have b27 := b26.keep u7 (fun e => h24 (Option.some.inj e))
      have G7 := grown_far G6 u7 (fun q9 e => by have e := Option.some.inj e; omega)
      have HI2 : Hid (i + 8 = 8 * (j + 1)) := by have := HI.out; show _ = _; omega
      simp only [Exit.inBlock, Exit.then]
      refine HK3.out _ _ ?_
      clear HK3
      have wr8 : IntKind.i64.wrap ((i : Int) + 8) = (i : Int) + 8 := wrap_i64_in _ (by omega) (by omega)
      go_wp2
      go_roundw
      case rel => exact ⟨i + 8, j + 1, cx, some ⟨gx, 0, none⟩, HI2, hi8, by go_num, b47, b27, hO8, G7⟩
      case measure => simp [intOf] <;> omega
    · obtain rfl : i = cn := by omega
      have li : ¬ (i : Int) < (i : Int) := by omega
      go_wp2
      refine HK1.out _ _ ?_
      clear HK1
      have hdiv : c.length / 8 = j := by have := HI.out; omega
      rw [hdiv]
      exact no_t33 wr wS g2 g4 ⟨4, id, [], 0, 0, 0, [], gpR j c, 0, 0⟩ none 0 0 q j d b4r b2r h2 (Ans.nil _ _) (hOr) (fun e => by cases e) (by omega) Gr
end Go.Proofs.Ytnimehkfnpepfaa
