import Derived.Test.YthdjpbfknbafgaaTCd
namespace Go.Proofs.Ythdjpbfknbafgaa
open Go.RowKit Go.Shelf
set_option maxRecDepth 100000
set_option linter.unusedVariables false
set_option linter.unusedSimpArgs false
attribute [local go_sem] Oper.semAt_some

theorem pickC_any (n of : Int) (w : World) (h1 : -9223372036854775808 ≤ n) (h2 : n ≤ 9223372036854775807) (ho : 0 < of) (ho2 : of ≤ 9223372036854775807) :
    Calls Try.prog 13 #[.int .i64 n, .int .i64 of] w fun e w' => ∃ v : Nat, (v : Int) < of ∧ e = .returned (.int .i64 v) ∧ w' = w := by
  by_cases hn : n < 0
  · have hnz : ¬ of = 0 := by omega
    go_enter Try.func13, Try.ntmps13
    go_wp2
    go_ret
    have p1 := Int.emod_nonneg (-(n + 1)) (show of ≠ 0 by omega)
    have p2 := Int.emod_lt_of_pos (-(n + 1)) ho
    have e : -((n + 1).tmod of) = (-(n + 1)) % of := by rw [← Int.neg_tmod, Int.tmod_eq_emod_of_nonneg (by omega)]
    refine ⟨((-(n + 1)) % of).toNat, by omega, ?_, rfl⟩
    refine congrArg (fun z => Ending.returned (Value.int .i64 z)) (?_ : -((n + 1).tmod of) = _)
    rw [e]; omega
  · have hnz : ¬ of = 0 := by omega
    go_enter Try.func13, Try.ntmps13
    go_wp2
    go_ret
    have p1 := Int.emod_nonneg n (show of ≠ 0 by omega)
    have p2 := Int.emod_lt_of_pos n ho
    refine ⟨(n % of).toNat, by omega, ?_, rfl⟩
    refine congrArg (fun z => Ending.returned (Value.int .i64 z)) (?_ : n % of = _)
    omega

theorem ruE_ok {L F H M : Int} (h : ruE L F H M = 0) : (1 ≤ L ∧ L ≤ 2048) ∧ (0 ≤ F ∧ F ≤ 8) ∧ (0 ≤ H ∧ H ≤ 12) ∧ (0 ≤ M ∧ M ≤ 8) := by
  unfold ruE at h
  split at h
  · cases h
  · split at h
    · rename_i h1 h2
      exact ⟨by omega, h2⟩
    · cases h
/-- numbers as they are read -/
structure RdIC (w : World) (a : Option Addr) (n : Nat) (G : Nat → Int) : Prop where
  at' : 0 < n → ∃ b o, a = some ⟨b, o, none⟩ ∧ ∀ i, i < n → w.cell? ⟨b, o + i, none⟩ = some (.int .i64 (G i)) ∧ -9223372036854775808 ≤ G i ∧ G i ≤ 9223372036854775807
set_option maxHeartbeats 16000000 in
theorem cuts_walk (L0 F0 H0 M0 : Int) (a1 a2 : Option Addr) (n1 c1 n2 c2 : Nat) (B : List Nat) (G : Nat → Int) (w0 : World) (hR1 : Rd w0 a1 n1 c1 B) (hB : n1 ≤ 1048576) (hG : RdIC w0 a2 n2 G) (hn2 : n2 ≤ 9000000000000) :
    Calls Try.prog 4 #[.agg #[.int .i64 L0, .int .i64 F0, .int .i64 H0, .int .i64 M0], .slice a1 n1 c1, .slice a2 n2 c2] w0 fun e w' => e = .returned (.bool true) ∧ w0.grownBy w' none := by
  go_enter Try.func4, Try.ntmps4
  have g0 := World.grownBy_alloc w0 (.cells #[.int .i64 L0, .int .i64 F0, .int .i64 H0, .int .i64 M0] 23) none
  have b0 := BxS.new w0 23 #[.int .i64 L0, .int .i64 F0, .int .i64 H0, .int .i64 M0]
  have hBl := hR1.len
  refine wp_seq_k fun K0 hK0 => ?_
  have HK0 : Hid _ := hK0
  clear hK0
  go_wp2
  (try simp only [Exit.inBlock, Exit.then])
  refine HK0.out _ _ ?_
  clear HK0
  have F1 : Frm (fun _ => False) w0 (w0.alloc (.cells #[.int .i64 L0, .int .i64 F0, .int .i64 H0, .int .i64 M0] 23)) := Frm.of g0 (fun k e _ => by cases e)
  have hz1 : w0.heap.size + 1 ≤ (w0.alloc (.cells #[.int .i64 L0, .int .i64 F0, .int .i64 H0, .int .i64 M0] 23)).heap.size := by simp
  generalize w0.alloc (.cells #[.int .i64 L0, .int .i64 F0, .int .i64 H0, .int .i64 M0] 23) = w1 at *
  have hR1w := Rd.keepF (p := fun _ => False) hR1 F1
  refine wp_seq_k fun K1 hK1 => ?_
  have HK1 : Hid _ := hK1
  clear hK1
  go_wp2
  (try simp only [Exit.inBlock, Exit.then])
  refine HK1.out _ _ ?_
  clear HK1
  refine wp_seq_k fun K2 hK2 => ?_
  have HK2 : Hid _ := hK2
  clear hK2
  go_wp2_with (refine wpList_clB w1 rfl _ _ rfl rfl a1 n1 c1 B rfl hR1w (by omega) ?_; intro ac cc w2 g2 hAc)
  (try simp only [Exit.inBlock, Exit.then])
  refine HK2.out _ _ ?_
  clear HK2
  have F2 : Frm (fun _ => False) w1 w2 := Frm.of g2 (fun k e _ => by cases e)
  have hz2 := F2.size
  have b2 : BxS w2 w0.heap.size 23 #[.int .i64 L0, .int .i64 F0, .int .i64 H0, .int .i64 M0] := (F2.block _ (BxS.lt b0) (fun h => h)).trans b0
  have F02 := F1.trans F2 (fun _ _ h => h)
  have hz02 := F02.size
  obtain ⟨gc, hgc, hRB⟩ : ∃ gc, gc < w2.heap.size ∧ RdB w2 gc ac n1 cc B := by
    rcases hAc.cases with ⟨h1, _, _⟩ | ⟨gc, h1, _, h3⟩
    · exact ⟨w0.heap.size, by omega, hAc.rd, fun b e => by rw [h1] at e; cases e⟩
    · exact ⟨gc, h3, hAc.rd, fun b e => by rw [h1] at e; cases e; exact ⟨rfl, rfl⟩⟩
  clear F1 F2 g0 g2 b0 hR1w hAc hz1
  refine wp_seq_k fun K3 hK3 => ?_
  have HK3 : Hid _ := hK3
  clear hK3
  go_wp2
  go_loopw [7, 8, 9] (fun v7 v8 v9 wr => ∃ (i : Nat) (a7 : Option Addr) (c7 : Nat) (ar : Option Addr) (nr cr : Nat) (V : List Value) (Ps : List (List Nat)) (R : List Nat), v7 = .slice a7 i c7 ∧ v8 = .slice ar nr cr ∧ v9 = .int .i64 i ∧ i ≤ 50 ∧ AnsX 25 wr w2.heap.size a7 i c7 V ∧ CuP wr gc V Ps ∧ RdB wr gc ar nr cr R ∧ Hid (Ps.flatten ++ R = B) ∧ nr ≤ 1048576 ∧ Frm (fun _ => False) w2 wr) (fun _ _ v9 _ => 50 - (intOf v9).toNat)
  case atStart => exact ⟨0, none, 0, ac, n1, cc, [], [], B, rfl, rfl, rfl, Nat.zero_le _, AnsX.nil0 _ _ _, ⟨rfl, fun i v B h _ => by cases h⟩, hRB, rfl, hB, Frm.refl _ _⟩
  case round =>
    obtain ⟨i, a7, c7, ar, nr, cr, V, Ps, R, rfl, rfl, rfl, hi, hX, hP, hr, HFL, hnr, Fr⟩ := hrel
    have fin : ∀ {u0 u2 u4 u5 u9 u10 u11 u12 u13 u14 u15 u16 u17 u18 u19 u20 u21 u22 u23 u24 u25 u26 u27 u28 u29 u30 u31 u32 u33 u34 u35 u36 u37 u38 u39 u40 u41 u42 u43 u44 u45 u46 u47 u48 u49 u50 u51 u52 u53 u54 u55 u56 u57 u58 u59 u60 u61 u62 u63 u64 u65 u66 u67 u68 u69 u70 u71 u72 u73 u74 u75 u76 u77 u78 u79 u80 u81 u82 u83 u84 u85 u86 u87 u88 u89 u90 u91 u92 u93 u94 u95 u96 u97 u98 u99 u100 u101 u102 u103 u104 u105 u106 u107 u108 u109 u110 u111 u112 u113 u114 u115 u116 u117 u118 u119 u120 u121 u122 u123 u124 u125 u126 u127 u128 u129 u130 u131 u132 u133 u134 u135 u136 u137 u138 u139 u140 u141 u142 u143 u144 u145 u146 u147 u148 u149 u150 u151 u152 u153 u154 u155 u156 u157 u158 u159 u160 u161 u162 u163 u164 u165 u166 u167 u168 u169 u170 u171 u172 u173 u174 u175 u176 u177 u178 u179 u180 u181 u182 u183 u184 u185 u186 u187 u188 u189 u190 : Value}, Code.wp Try.prog (tailR 9 (Try.f4.body.getD .skip)) (bodyPost Try.prog Try.f4 (fun e w' => e = .returned (.bool true) ∧ w0.grownBy w' none)) (Act.mk (List.toArray (u0 :: (.slice a1 n1 c1) :: u2 :: (.pointer (some ⟨w0.heap.size, 0, none⟩)) :: u4 :: u5 :: (.bool false) :: (.slice a7 i c7) :: (.slice ar nr cr) :: u9 :: u10 :: u11 :: u12 :: u13 :: u14 :: u15 :: u16 :: u17 :: u18 :: u19 :: u20 :: u21 :: u22 :: u23 :: u24 :: u25 :: u26 :: u27 :: u28 :: u29 :: u30 :: u31 :: u32 :: u33 :: u34 :: u35 :: u36 :: u37 :: u38 :: u39 :: u40 :: u41 :: u42 :: u43 :: u44 :: u45 :: u46 :: u47 :: u48 :: u49 :: u50 :: u51 :: u52 :: u53 :: u54 :: u55 :: u56 :: u57 :: u58 :: u59 :: u60 :: u61 :: u62 :: u63 :: u64 :: u65 :: u66 :: u67 :: u68 :: u69 :: u70 :: u71 :: u72 :: u73 :: u74 :: u75 :: u76 :: u77 :: u78 :: u79 :: u80 :: u81 :: u82 :: u83 :: u84 :: u85 :: u86 :: u87 :: u88 :: u89 :: u90 :: u91 :: u92 :: u93 :: u94 :: u95 :: u96 :: u97 :: u98 :: u99 :: u100 :: u101 :: u102 :: u103 :: u104 :: u105 :: u106 :: u107 :: u108 :: u109 :: u110 :: u111 :: u112 :: u113 :: u114 :: u115 :: u116 :: u117 :: u118 :: u119 :: u120 :: u121 :: u122 :: u123 :: u124 :: u125 :: u126 :: u127 :: u128 :: u129 :: u130 :: u131 :: u132 :: u133 :: u134 :: u135 :: u136 :: u137 :: u138 :: u139 :: u140 :: u141 :: u142 :: u143 :: u144 :: u145 :: u146 :: u147 :: u148 :: u149 :: u150 :: u151 :: u152 :: u153 :: u154 :: u155 :: u156 :: u157 :: u158 :: u159 :: u160 :: u161 :: u162 :: u163 :: u164 :: u165 :: u166 :: u167 :: u168 :: u169 :: u170 :: u171 :: u172 :: u173 :: u174 :: u175 :: u176 :: u177 :: u178 :: u179 :: u180 :: u181 :: u182 :: u183 :: u184 :: u185 :: u186 :: u187 :: u188 :: u189 :: u190 :: [])) []) wr := by
      intros
      have bw : BxS wr w0.heap.size 23 #[.int .i64 L0, .int .i64 F0, .int .i64 H0, .int .i64 M0] := (Fr.block _ (BxS.lt b2) (fun h => h)).trans b2
      have h7 : ∀ x, (Value.slice a7 i c7).ownBlock = some x → x ≠ gc := fun x hx => by have := hX.new x hx; omega
      by_cases hru : ruE L0 F0 H0 M0 = 0
      · obtain ⟨e1, e2, e3, e4⟩ := ruE_ok hru
        exact cu_9ok ⟨L0.toNat, F0.toNat, H0.toNat, M0.toNat⟩ w0 wr w0.heap.size i n1 c1 c7 nr cr gc L0 F0 H0 M0 a1 a7 ar V Ps B R hi (by omega) HFL.out bw hR1 (hX.low (by omega)) hP hr h7 (F02.trans Fr (fun _ _ h => h)) (by dsimp only; omega) (by dsimp only; omega) (by dsimp only; omega) (by dsimp only; omega) (by dsimp only; omega) (by dsimp only; omega) (by dsimp only; omega) (by dsimp only; omega) (by dsimp only; omega)
      · exact cu_9bad w0 wr w0.heap.size i n1 c1 c7 nr cr gc L0 F0 H0 M0 a1 a7 ar V Ps B R hi (by omega) HFL.out bw hR1 (hX.low (by omega)) hP hr h7 (F02.trans Fr (fun _ _ h => h)) hru
    have FIN : Hid _ := @fin
    clear fin
    by_cases hlt : i < n2
    · have hin : (i : Int) < (n2 : Int) := by omega
      by_cases h50 : i < 50
      · have hin2 : (i : Int) < 50 := by omega
        obtain ⟨bg, og, rfl, hgc2⟩ := hG.at' (by omega)
        obtain ⟨cg0, hg1, hg2⟩ := hgc2 i hlt
        have F0r := F02.trans Fr (fun _ _ h => h)
        have cgW := cell_frm cg0 F0r (fun h => h)
        have HLT : Hid _ := hlt
        have H50 : Hid _ := h50
        have HGC : Hid _ := hgc2
        clear hlt h50 hgc2 cg0
        refine wp_seq_k fun K20 hK20 => ?_
        have HK20 : Hid _ := hK20
        clear hK20
        refine wp_seq_k fun K21 hK21 => ?_
        have HK21 : Hid _ := hK21
        clear hK21
        go_wp2
        (try simp only [Exit.inBlock, Exit.then])
        refine HK21.out _ _ ?_
        clear HK21
        go_wp2
        (try simp only [Exit.inBlock, Exit.then])
        refine HK20.out _ _ ?_
        clear HK20
        refine wp_seq_k fun K22 hK22 => ?_
        have HK22 : Hid _ := hK22
        clear hK22
        refine wp_block ?_
        refine wp_seq_k fun K6 hK6 => ?_
        have HK6 : Hid _ := hK6
        clear hK6
        go_wp2_with (go_at_call 13; refine (pickC_any (G i) ((nr : Int) + 1) _ hg1 hg2 (by omega) (by omega)).mono ?_; rintro e wz ⟨v, hv, rfl, hw⟩; have hw := hw.symm; subst hw)
        (try simp only [Exit.inBlock, Exit.then])
        refine HK6.out _ _ ?_
        clear HK6
        have hvn : v ≤ nr := by omega
        clear hv
        have OB := heap_alloc_new wr (.cells #[.slice ar v cr] 25)
        have Fa : Frm (fun _ => False) wr (wr.alloc (.cells #[.slice ar v cr] 25)) := Frm.of (World.grownBy_alloc wr _ none) (fun k e _ => by cases e)
        have hXa := hX.frm Fa (fun _ _ h => h)
        have hza := Fa.size
        have hzr := Fr.size
        have h7 : ∀ x, (Value.slice a7 i c7).ownBlock = some x → w2.heap.size ≤ x := fun x hx => hX.new x hx
        have step : ∀ (g8 d8 : Nat) (w6 : World), AnsX 25 w6 w2.heap.size (some ⟨g8, 0, none⟩) (i + 1) d8 (V ++ [.slice ar v cr]) → (wr.alloc (.cells #[.slice ar v cr] 25)).grownBy w6 (Value.slice a7 i c7).ownBlock → ∀ (T1 T2 : List Nat) (ad : Option Addr), RdB wr gc ar v cr T1 → RdB wr gc ad (nr - v) (cr - v) T2 → T1 ++ T2 = R → CuP w6 gc (V ++ [.slice ar v cr]) (Ps ++ [T1]) ∧ RdB w6 gc ad (nr - v) (cr - v) T2 ∧ Hid ((Ps ++ [T1]).flatten ++ T2 = B) ∧ Frm (fun _ => False) w2 w6 := by
          intro g8 d8 w6 _ hg T1 T2 ad h1 h2 h3
          have Fg : Frm (fun x => (Value.slice a7 i c7).ownBlock = some x) wr w6 := (Fa.weak (q := fun x => (Value.slice a7 i c7).ownBlock = some x) (fun _ _ h => h.elim)).trans (Frm.of (p := fun x => (Value.slice a7 i c7).ownBlock = some x) hg (fun k e _ => e)) (fun _ _ h => h)
          have hng : ¬ (Value.slice a7 i c7).ownBlock = some gc := fun h => by have := h7 gc h; omega
          refine ⟨(hP.add h1).frm Fg hng, h2.frm Fg hng, ?_, Fr.trans Fg (fun k hk h => by have := h7 k h; omega)⟩
          show _ = _
          rw [List.flatten_append, ← HFL.out, ← h3]
          simp
        have HST : Hid _ := step
        have HP : Hid _ := hP
        have HRR : Hid _ := hr
        have HFR : Hid _ := Fr
        cases ar with
        | none =>
          have hc0 : cr = 0 := hr.rd.nil rfl
          have hn0 : nr = 0 := by have := hr.rd.le; omega
          subst hc0 hn0
          have hv0 : v = 0 := by omega
          subst hv0
          have hR0 : R = [] := List.eq_nil_of_length_eq_zero hr.rd.len
          subst hR0
          clear step hP hr Fr
          refine wp_seq_k fun K7 hK7 => ?_
          have HK7 : Hid _ := hK7
          clear hK7
          go_wp2_with (refine wpList_psR _ Try.underlying24 Try.inf_sb rfl (by decide) (.slice none 0 0) rfl rfl _ _ rfl a7 i c7 w2.heap.size V rfl hXa (by omega) wr.heap.size rfl (cell_of_row _ _ 0 _ _ _ OB) (by omega) ?_; intro g8 d8 w6 hX6 g6 hx6)
          (try simp only [Exit.inBlock, Exit.then])
          refine HK7.out _ _ ?_
          clear HK7
          obtain ⟨H1, H2, H3, H4⟩ := HST.out g8 d8 w6 hX6 g6 [] [] none HRR.out HRR.out rfl
          have HH : Hid _ := (⟨hX6, H1, H2, H4⟩ : AnsX 25 w6 w2.heap.size (some ⟨g8, 0, none⟩) (i + 1) d8 (V ++ [.slice none 0 0]) ∧ CuP w6 gc (V ++ [.slice none 0 0]) (Ps ++ [[]]) ∧ RdB w6 gc none (0 - 0) (0 - 0) [] ∧ Frm (fun _ => False) w2 w6)
          clear hX6 H1 H2 H4 g6 hx6
          go_wp2
          (try simp only [Exit.inBlock, Exit.then])
          refine HK22.out _ _ ?_
          clear HK22
          go_wp2
          go_roundw
          case rel => exact ⟨i + 1, _, _, _, _, _, _, Ps ++ [[]], [], rfl, rfl, by go_num, by have := H50.out; omega, HH.out.1, HH.out.2.1, HH.out.2.2.1, H3, by omega, HH.out.2.2.2⟩
          case measure => have := H50.out; simp [intOf]; omega
        | some ad =>
          obtain ⟨hb1, hb2⟩ := hr.blk ad rfl
          obtain ⟨bb, bo, bs⟩ := ad
          dsimp only at hb1 hb2
          subst hb1 hb2
          obtain ⟨hT, hDr⟩ := hr.cut hvn
          have hle := hr.rd.le
          have hvi : (v : Int) ≤ (nr : Int) := by omega
          have hvc : (v : Int) ≤ (cr : Int) := by omega
          have HDR : Hid _ := hDr
          have HTT : Hid _ := hT
          have hcn : cr ≤ maxLen := hr.rd.max
          have HCN : Hid _ := hcn
          clear step hP hr Fr hT hDr hcn
          refine wp_seq_k fun K7 hK7 => ?_
          have HK7 : Hid _ := hK7
          clear hK7
          go_wp2_with (refine wpList_psR _ Try.underlying24 Try.inf_sb rfl (by decide) (.slice (some ⟨bb, bo, none⟩) v cr) rfl rfl _ _ rfl a7 i c7 w2.heap.size V rfl hXa (by omega) wr.heap.size rfl (cell_of_row _ _ 0 _ _ _ OB) (by omega) ?_; intro g8 d8 w6 hX6 g6 hx6)
          (try simp only [Exit.inBlock, Exit.then])
          refine HK7.out _ _ ?_
          clear HK7
          obtain ⟨H1, H2, H3, H4⟩ := HST.out g8 d8 w6 hX6 g6 (R.take v) (R.drop v) _ HTT.out HDR.out (List.take_append_drop v R)
          by_cases hcv : cr = v
          · rw [if_pos hcv] at H2
            have hnv : nr = v := by omega
            have HH : Hid _ := (⟨hX6, H1, H2, H4⟩ : AnsX 25 w6 w2.heap.size (some ⟨g8, 0, none⟩) (i + 1) d8 (V ++ [.slice (some ⟨bb, bo, none⟩) v cr]) ∧ CuP w6 bb (V ++ [.slice (some ⟨bb, bo, none⟩) v cr]) (Ps ++ [R.take v]) ∧ RdB w6 bb (some ⟨bb, bo, none⟩) (nr - v) (cr - v) (R.drop v) ∧ Frm (fun _ => False) w2 w6)
            clear hX6 H1 H2 H4 g6 hx6
            subst hcv
            go_wp2
            (try simp only [Exit.inBlock, Exit.then])
            refine HK22.out _ _ ?_
            clear HK22
            go_wp2
            go_roundw
            case rel => exact ⟨i + 1, _, _, _, _, _, _, Ps ++ [R.take cr], R.drop cr, rfl, rfl, by go_num, by have := H50.out; omega, HH.out.1, HH.out.2.1, by have h9 := HH.out.2.2.1; rw [hnv, Nat.sub_self] at h9; exact h9, H3, by omega, HH.out.2.2.2⟩
            case measure => have := H50.out; simp [intOf]; omega
          · rw [if_neg hcv] at H2
            have HH : Hid _ := (⟨hX6, H1, H2, H4⟩ : AnsX 25 w6 w2.heap.size (some ⟨g8, 0, none⟩) (i + 1) d8 (V ++ [.slice (some ⟨bb, bo, none⟩) v cr]) ∧ CuP w6 bb (V ++ [.slice (some ⟨bb, bo, none⟩) v cr]) (Ps ++ [R.take v]) ∧ RdB w6 bb (some ⟨bb, bo + v, none⟩) (nr - v) (cr - v) (R.drop v) ∧ Frm (fun _ => False) w2 w6)
            clear hX6 H1 H2 H4 g6 hx6
            go_wp2
            (try simp only [Exit.inBlock, Exit.then])
            refine HK22.out _ _ ?_
            clear HK22
            go_wp2
            go_roundw
            case rel => exact ⟨i + 1, _, _, _, _, _, _, Ps ++ [R.take v], R.drop v, rfl, rfl, by go_num, by have := H50.out; omega, HH.out.1, HH.out.2.1, HH.out.2.2.1, H3, by omega, HH.out.2.2.2⟩
            case measure => have := H50.out; simp [intOf]; omega
      · have hge : ¬ ((i : Int) < 50) := by omega
        go_wp2
        (try simp only [Exit.inBlock, Exit.then])
        refine HK3.out _ _ ?_
        clear HK3
        refine FIN.out
    · have hge : ¬ ((i : Int) < (n2 : Int)) := by omega
      go_wp2
      (try simp only [Exit.inBlock, Exit.then])
      refine HK3.out _ _ ?_
      clear HK3
      refine FIN.out
end Go.Proofs.Ythdjpbfknbafgaa
