import Derived.Test.YthdjpbfknbafgaaTAm
namespace Go.Proofs.Ythdjpbfknbafgaa
open Go.RowKit Go.Shelf
set_option maxRecDepth 100000
set_option linter.unusedVariables false
set_option linter.unusedSimpArgs false
attribute [local go_sem] Oper.semAt_some

set_option maxHeartbeats 16000000 in
theorem all_walk (L0 F0 H0 M0 : Int) (t : Bool) (ap : Option Addr) (np cp : Nat) (Ps : List (List Nat)) (w0 : World) (hP : RdPs w0 ap np cp Ps) (hnp : np ≤ 140737488351232)
    (hL0 : -9223372036854775808 ≤ L0 ∧ L0 ≤ 9223372036854775807) (hF0 : -9223372036854775808 ≤ F0 ∧ F0 ≤ 9223372036854775807) (hH0 : -9223372036854775808 ≤ H0 ∧ H0 ≤ 9223372036854775807) (hM0 : -9223372036854775808 ≤ M0 ∧ M0 ≤ 9223372036854775807) :
    Calls Try.prog 5 #[.agg #[.int .i64 L0, .int .i64 F0, .int .i64 H0, .int .i64 M0], .slice ap np cp, .bool t] w0 fun e w' => e = .returned (.bool true) ∧ w0.grownBy w' none := by
  go_enter Try.func5, Try.ntmps5
  have g0 := World.grownBy_alloc w0 (.cells #[.int .i64 L0, .int .i64 F0, .int .i64 H0, .int .i64 M0] 23) none
  have b0 := BxS.new w0 23 #[.int .i64 L0, .int .i64 F0, .int .i64 H0, .int .i64 M0]
  have HP : Hid _ := hP
  clear hP
  refine wp_seq_k fun K0 hK0 => ?_
  have HK0 : Hid _ := hK0
  clear hK0
  go_wp2
  (try simp only [Exit.inBlock, Exit.then])
  refine HK0.out _ _ ?_
  clear HK0
  refine wp_seq_k fun K1 hK1 => ?_
  have HK1 : Hid _ := hK1
  clear hK1
  refine wp_mono (Q := fun e a' w' => e = .normal ∧ K1 a' w') (al_1 _ _ w0.heap.size L0 F0 H0 M0 b0 hL0 hF0 hH0 hM0 (fun c a a' w _ h => by cases h.1) ?_) (fun e a' w' h => by obtain ⟨rfl, h⟩ := h; exact h)
  intro l f h m W1 z17 z18 z19 z20 z21 z22 z23 z24 z25 z26 z27 z28 z29 z30 hl hf hh hm b1 g1
  refine ⟨rfl, ?_⟩
  (try simp only [Exit.inBlock, Exit.then])
  refine HK1.out _ _ ?_
  clear HK1
  have F01 : Frm (fun _ => False) w0 W1 := (Frm.of (p := fun _ => False) g0 (fun k e _ => by cases e)).trans (Frm.of (p := fun k => k = w0.heap.size) g1 (fun k e _ => (Option.some.inj e).symm)) (fun k hk h => by omega)
  obtain ⟨L, hL⟩ : ∃ L, L = 1 + l := ⟨_, rfl⟩
  rw [← hL] at b1
  have hL1 : 1 ≤ L := by omega
  have hL2 : L ≤ 40 := by omega
  clear hL
  have c0 : W1.cell? ⟨w0.heap.size, 0, none⟩ = some (.int .i64 (L : Nat)) := b1.cell 0 (by show 0 < 4; decide)
  have hRo := rows_any ap np cp Ps L W1 (HP.out.keepF F01) hL1 (by omega) hnp
  have B1 : Hid _ := b1
  have HF01 : Hid _ := F01
  clear b0 g0 g1 F01 b1
  refine wp_seq_k fun K2 hK2 => ?_
  have HK2 : Hid _ := hK2
  clear hK2
  go_wp2_with (go_at_call 14; refine hRo.mono ?_; rintro e w3 ⟨a7, n7, c7, a8, c8, V, ds, rfl, hA, hX, hR, hd, hdl, g3⟩; have HDL : Hid _ := hdl; clear hdl)
  (try simp only [Exit.inBlock, Exit.then])
  refine HK2.out _ _ ?_
  clear HK2
  have F3 : Frm (fun _ => False) W1 w3 := Frm.of g3 (fun k e _ => by cases e)
  have b3 : BxS w3 w0.heap.size 23 #[.int .i64 (L : Nat), .int .i64 (f : Nat), .int .i64 (h : Nat), .int .i64 (m : Nat)] := (F3.block _ (BxS.lt B1.out) (fun h => h)).trans B1.out
  have F03 := HF01.out.trans F3 (fun _ _ h => h)
  have hz0 := HF01.out.size
  have hA0 : Ans w3 w0.heap.size a7 n7 c7 (catF ds) := hA.wide hz0
  have hX0 : AnsX 25 w3 w0.heap.size a8 ds.length c8 V := hX.low hz0
  have hR0 : PiR w3 V ds w0.heap.size (fun k => (Value.slice a7 n7 c7).ownBlock = some k) := ⟨hR.len, fun i v B h1 h2 => by
    obtain ⟨g, c, e, h3, h4, h5⟩ := hR.at' i v B h1 h2
    exact ⟨g, c, e, h3, by omega, h5⟩⟩
  have hdl1 : ∀ d, d ∈ ds → d.length = L := fun d h => (hd d h).1
  have hdp : ∀ d, d ∈ ds → 0 < d.length := fun d h => by rw [hdl1 d h]; omega
  have hbl := (catF_len ds hdl1)
  have hal := hA.len
  have hN20 : ds.length ≤ 20 := by have := HDL.out; omega
  have hn7 : n7 ≤ 20000 := by
    rw [hal] at hbl
    have : ds.length * (32 + 8 * L) ≤ 20 * (32 + 8 * 40) := Nat.mul_le_mul hN20 (by omega)
    omega
  obtain ⟨N, hN⟩ : ∃ N, N = ds.length := ⟨_, rfl⟩
  rw [← hN] at hX0 hN20
  have HN : Hid _ := hN
  have HAL : Hid _ := hal
  have hb2 := catF_two ds hdl1

  try simp only [← hN]
  have e7X : ∀ x, (Value.slice a7 n7 c7).ownBlock = some x → (∃ cs, w3.heap[x]? = some (.cells cs 5)) := fun x hx => (row_lt hA0.own hx).2
  clear hA hX hR hRo hbl hal hN c0 F3 g3
  refine wp_seq_k fun K3 hK3 => ?_
  have HK3 : Hid _ := hK3
  clear hK3
  go_wp2
  (try simp only [Exit.inBlock, Exit.then])
  refine HK3.out _ _ ?_
  clear HK3
  refine wp_seq_k fun K5 hK5 => ?_
  have HK5 : Hid _ := hK5
  clear hK5
  go_wp2
  go_loopw [10] (fun v wr => ∃ i : Nat, v = .int .i64 i ∧ i ≤ n7 ∧ (t = false → i = 0) ∧ Ans wr w0.heap.size a7 n7 c7 (fpN (catF ds) i) ∧ Frm (fun k => (Value.slice a7 n7 c7).ownBlock = some k) w3 wr) (fun v _ => n7 - (intOf v).toNat)
  case atStart => exact ⟨0, rfl, Nat.zero_le _, fun _ => rfl, by rw [fpN_zero]; exact hA0, Frm.refl _ _⟩
  case round =>
    obtain ⟨i, rfl, hi, hti, hA, Fr⟩ := hrel
    have fin : t = true ∧ i = n7 ∨ t = false → ∀ {u0 u1 u4 u5 u6 u9 u10 u11 u12 u13 u14 u15 u16 u17 u18 u19 u20 u21 u22 u23 u24 u25 u26 u27 u28 u29 u30 u31 u32 u33 u34 u35 u36 u37 u38 u39 u40 u41 u42 u43 u44 u45 u46 u47 u48 u49 u50 u51 u52 u53 u54 u55 u56 u57 u58 u59 u60 u61 u62 u63 u64 u65 u66 u67 u68 u69 u70 u71 u72 u73 u74 u75 u76 u77 u78 u79 u80 u81 u82 u83 u84 u85 u86 u87 u88 u89 u90 u91 u92 u93 u94 u95 u96 u97 u98 u99 u100 u101 u102 u103 u104 u105 u106 u107 u108 u109 u110 u111 u112 u113 u114 u115 u116 u117 u118 u119 u120 u121 u122 u123 u124 u125 u126 u127 u128 u129 u130 u131 u132 : Value}, Code.wp Try.prog (tailR 9 (Try.f5.body.getD .skip)) (bodyPost Try.prog Try.f5 (fun e w' => e = .returned (.bool true) ∧ w0.grownBy w' none)) (Act.mk (List.toArray (u0 :: u1 :: (.bool t) :: (.pointer (some ⟨w0.heap.size, 0, none⟩)) :: u4 :: u5 :: u6 :: (.slice a7 n7 c7) :: (.slice a8 N c8) :: u9 :: u10 :: u11 :: u12 :: u13 :: u14 :: u15 :: u16 :: u17 :: u18 :: u19 :: u20 :: u21 :: u22 :: u23 :: u24 :: u25 :: u26 :: u27 :: u28 :: u29 :: u30 :: u31 :: u32 :: u33 :: u34 :: u35 :: u36 :: u37 :: u38 :: u39 :: u40 :: u41 :: u42 :: u43 :: u44 :: u45 :: u46 :: u47 :: u48 :: u49 :: u50 :: u51 :: u52 :: u53 :: u54 :: u55 :: u56 :: u57 :: u58 :: u59 :: u60 :: u61 :: u62 :: u63 :: u64 :: u65 :: u66 :: u67 :: u68 :: u69 :: u70 :: u71 :: u72 :: u73 :: u74 :: u75 :: u76 :: u77 :: u78 :: u79 :: u80 :: u81 :: u82 :: u83 :: u84 :: u85 :: u86 :: u87 :: u88 :: u89 :: u90 :: u91 :: u92 :: u93 :: u94 :: u95 :: u96 :: u97 :: u98 :: u99 :: u100 :: u101 :: u102 :: u103 :: u104 :: u105 :: u106 :: u107 :: u108 :: u109 :: u110 :: u111 :: u112 :: u113 :: u114 :: u115 :: u116 :: u117 :: u118 :: u119 :: u120 :: u121 :: u122 :: u123 :: u124 :: u125 :: u126 :: u127 :: u128 :: u129 :: u130 :: u131 :: u132 :: [])) []) wr := fun hc => by
      intros
      have hcat : catB t ds = fpN (catF ds) i := by
        rcases hc with ⟨h1, h2⟩ | h1
        · subst h1; show fpN _ (catF ds).length = _; rw [HAL.out, h2]
        · rw [hti h1, fpN_zero]; subst h1; rfl
      have hbr : BxS wr w0.heap.size 23 #[.int .i64 (L : Nat), .int .i64 (f : Nat), .int .i64 (h : Nat), .int .i64 (m : Nat)] := (Fr.block _ b3.lt (fun h => by
        obtain ⟨cs, e⟩ := e7X _ h
        exact cells_ne e b3 (by decide))).trans b3
      refine al_9 w0 wr w0.heap.size N L f h m t a7 a8 n7 c7 c8 V ds HN.out.symm hN20 hL1 hL2 (by omega) (by omega) (by omega) hbr (by rw [hcat]; exact hA) (hX0.frm Fr (fun x hx hp => ?_)) (hR0.frm _ Fr (fun k hk _ _ => hk) hdp (fun k hk => .inl hk)) hd (F03.trans Fr (fun k hk hp => ?_))
      · obtain ⟨cs, e⟩ := e7X _ hp
        obtain ⟨_, cs2, e2⟩ := row_lt hX0.own hx
        exact cells_ne e e2 (by decide)
      · have := hA0.new k hp; omega
    have FIN : Hid _ := @fin
    clear fin
    cases t with
    | false =>
      have hi0 := hti rfl
      subst hi0
      by_cases hlt : 0 < n7
      · have hin : (0 : Int) < (n7 : Int) := by omega
        go_wp2
        (try simp only [Exit.inBlock, Exit.then])
        refine HK5.out _ _ ?_
        clear HK5
        refine FIN.out (by simp)
      · have hin : ¬ (0 : Int) < (n7 : Int) := by omega
        go_wp2
        (try simp only [Exit.inBlock, Exit.then])
        refine HK5.out _ _ ?_
        clear HK5
        refine FIN.out (by simp)
    | true =>
      by_cases hlt : i < n7
      · have hin : (i : Int) < (n7 : Int) := by omega
        obtain ⟨g7, rfl⟩ : ∃ g7, a7 = some ⟨g7, 0, none⟩ := by
          rcases hA0.cases with ⟨_, h2, _⟩ | ⟨g7, h1, _⟩
          · omega
          · exact ⟨g7, h1⟩
        have hll : i < (catF ds).length := by rw [HAL.out]; exact hlt
        have hx := hb2 i hll
        have hni : nth (fpN (catF ds) i) i = nth (catF ds) i := by
          unfold fpN
          rw [tab_nth _ _ _ hll, if_neg (by omega)]
        have hc : wr.cell? ⟨g7, i, none⟩ = some (.int .u8 (nth (catF ds) i : Nat)) := by
          obtain ⟨b', o', e', _, hcc⟩ := hA.rd.at' (by omega)
          cases e'
          have := hcc i hlt
          rw [Nat.zero_add, hni] at this
          exact this
        have hfz : wr.frozen? ⟨g7, i, none⟩ = false := hA.own.frozenAt i
        have hxo := xor_oneT _ hx
        have hst := fpN_step (catF ds) i hll
        have hAs := hA.set i (1 - nth (catF ds) i) (by omega)
        rw [hst] at hAs
        have HAS : Hid _ := hAs
        have HFS : Hid (Frm (fun k => (Value.slice (some ⟨g7, 0, none⟩) n7 c7).ownBlock = some k) w3 (wr.setCell ⟨g7, i, none⟩ (.int .u8 ((1 - nth (catF ds) i : Nat) : Int)))) := Fr.trans (Frm.of (p := fun k => g7 = k) (grown_set wr g7 i _) (fun k e _ => Option.some.inj e)) (fun k _ e => by rw [← e]; rfl)
        generalize nth (catF ds) i = x at *
        have HI : Hid _ := hlt
        clear hA hst hAs hni Fr hlt
        obtain ⟨y, hy⟩ : ∃ y, y = 1 - x := ⟨_, rfl⟩
        rw [← hy] at hxo HAS HFS
        clear hy
        go_wp2
        go_roundw
        case rel => exact ⟨i + 1, by go_num, by have := HI.out; omega, (fun h => by cases h), HAS.out, HFS.out⟩
        case measure => have := HI.out; simp [intOf]; omega
      · obtain rfl : i = n7 := by omega
        have hin : ¬ (i : Int) < (i : Int) := by omega
        go_wp2
        (try simp only [Exit.inBlock, Exit.then])
        refine HK5.out _ _ ?_
        clear HK5
        refine FIN.out (by simp)
end Go.Proofs.Ythdjpbfknbafgaa
