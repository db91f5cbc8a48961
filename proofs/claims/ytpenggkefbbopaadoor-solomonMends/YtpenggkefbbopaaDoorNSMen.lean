import Derived.Test.YtpenggkefbbopaaDoorNSMM
import Derived.Test.YtpenggkefbbopaaDoorNSSpo2
namespace Go.Proofs.YtpenggkefbbopaaDoor
open Go.RowKit
set_option maxRecDepth 100000
set_option linter.unusedVariables false
set_option linter.unusedSimpArgs false

/-- 'append(v, x...)', v the call's own and not empty, x whatever -/
theorem wpList_apA [Add GF] [Mul GF] [OfNat GF 0] [OfNat GF 1] [L : Nonempty GL] (w : World) {ops : Array Oper} {rest : List Oper} {o : Oper} {a : Act} {Q : Exit → Act → World → Prop} (hg : o.guard = none) (s x : Operand)
    (hop : o.op = Op.call { callee := .builtin .append, args := #[s, x], argTypes := #[22, 22] }) (g0 n cap0 : Nat) (A : List Nat) (hs : a.eval s = .slice (some ⟨g0, 0, none⟩) n cap0)
    (hown : w.ownsRow 0 5 1 (.slice (some ⟨g0, 0, none⟩) n cap0) n (bys A)) (h0 : 0 < n) (ao : Option Addr) (m c : Nat) (L : List Nat) (hx : a.eval x = .slice ao m c) (hR : Rd w ao m c L) (hb : n + m ≤ 140737488355328)
    (hK : ∀ g cap w', (g = g0 ∨ w.heap.size ≤ g) → w.grownBy w' (some g0) → w'.ownsRow 0 5 1 (.slice (some ⟨g, 0, none⟩) (n + m) cap) (n + m) (bys (A ++ L)) →
      wpList Tryd.prog ops Q rest (a.put o.dst (.slice (some ⟨g, 0, none⟩) (n + m) cap)) w') :
    wpList Tryd.prog ops Q (o :: rest) a w := by
  obtain ⟨i0, hi, hz0, hz1, hz2⟩ := info_parts Tryd.info_u8
  by_cases hm : m = 0
  · subst hm
    have e : L = [] := List.eq_nil_of_length_eq_zero hR.len
    subst e
    have done := hK g0 cap0 w (.inl rfl) (World.grownBy.refl _ _) (by rw [List.append_nil, Nat.add_zero]; exact hown)
    rw [Nat.add_zero] at done
    cases ao with
    | none =>
      have hc0 : c = 0 := hR.nil rfl
      subst hc0
      exact wpList_append_own_none hg s x 22 hop 0 5 i0 1 Tryd.underlying22 hi _ n (bys A) hs hown hx done
    | some ad =>
      have hle := hown.2
      rcases hle with ⟨h, _⟩ | ⟨g, cap', cur, h, _, _, hnc, _⟩
      · cases h
      · cases h
        refine wpList_append_fits w hg s x 22 hop 0 5 i0 1 Tryd.underlying22 hi hz1 g0 n cap0 (bys A) hs hown ad 0 c [] hx (by simp) (fun j u h => by simp at h) (fun u h => by simp at h) (by omega) ?_
        intro w' hown' hgr
        exact hK g0 cap0 w' (.inl rfl) hgr (by simpa using hown')
  · obtain ⟨b, off, rfl, hbw, hc⟩ := hR.at' (by omega)
    refine wpList_apB w hg s x hop _ n (bys A) hs hown ⟨b, off, none⟩ m c (bys L) hx (by rw [bys_length, hR.len]) (rd_news hR) (bys_one _) (by omega) hb ?_
    intro g cap w' h1 h2 h3
    refine hK g cap w' (h1.elim (fun h => .inl (Option.some.inj h).symm) .inr) h2 ?_
    rw [← bys_app]; exact h3
theorem free_cells {w : World} {b off i : Nat} {x y : Int} (h1 : w.cell? ⟨b, off + i * 2, none⟩ = some (.int .i64 x)) (h2 : w.cell? ⟨b, off + i * 2 + 1, none⟩ = some (.int .i64 y)) : w.cell? ⟨b, off + i * 2, none⟩ = some (.int .i64 x) ∧ w.cell? ⟨b, off + i * 2 + 1, none⟩ = some (.int .i64 y) := ⟨h1, h2⟩
def tGood (F : List (Int × Int)) : Prop := ∀ i, inI (tA F i) ∧ inI (tB F i)
theorem tA_nil (i : Nat) : tA [] i = 0 := by simp [tA]
theorem tB_nil (i : Nat) : tB [] i = 0 := by simp [tB]
theorem tGood_nil : tGood [] := fun i => by rw [tA_nil, tB_nil]; exact ⟨⟨by decide, by decide⟩, ⟨by decide, by decide⟩⟩
theorem tA_app (F : List (Int × Int)) (t : Int × Int) (i : Nat) : tA (F ++ [t]) i = if i < F.length then tA F i else if i = F.length then t.1 else 0 := by
  unfold tA
  rw [List.getD_eq_getElem?_getD, List.getD_eq_getElem?_getD]
  by_cases h : i < F.length
  · rw [if_pos h, List.getElem?_append_left h]
  · rw [if_neg h, List.getElem?_append_right (by omega)]
    by_cases e : i = F.length
    · rw [if_pos e, e]; simp
    · rw [if_neg e, List.getElem?_eq_none (by simp; omega)]; rfl
theorem tB_app (F : List (Int × Int)) (t : Int × Int) (i : Nat) : tB (F ++ [t]) i = if i < F.length then tB F i else if i = F.length then t.2 else 0 := by
  unfold tB
  rw [List.getD_eq_getElem?_getD, List.getD_eq_getElem?_getD]
  by_cases h : i < F.length
  · rw [if_pos h, List.getElem?_append_left h]
  · rw [if_neg h, List.getElem?_append_right (by omega)]
    by_cases e : i = F.length
    · rw [if_pos e, e]; simp
    · rw [if_neg e, List.getElem?_eq_none (by simp; omega)]; rfl
theorem tGood_app {F : List (Int × Int)} (h : tGood F) (x y : Int) (hx : inI x) (hy : inI y) : tGood (F ++ [(x, y)]) := fun i => by
  rw [tA_app, tB_app]
  have hz : inI 0 := ⟨by decide, by decide⟩
  by_cases h1 : i < F.length
  · rw [if_pos h1, if_pos h1]; exact h i
  · rw [if_neg h1, if_neg h1]
    by_cases h2 : i = F.length
    · rw [if_pos h2, if_pos h2]; exact ⟨hx, hy⟩
    · rw [if_neg h2, if_neg h2]; exact ⟨hz, hz⟩
set_option maxHeartbeats 40000000 in
theorem mends_walk [Add GF] [Mul GF] [OfNat GF 0] [OfNat GF 1] [L : Nonempty GL] (a a2 a3 : Option Addr) (n cap m2 c2 m3 c3 : Nat) (ck : Int) (L : List Nat) (T1 T2 : List (Int × Int)) (w : World) (hp : Rd w a n cap L) (hT1 : RdT w a2 m2 c2 T1) (hT2 : RdT w a3 m3 c3 T2)
    (hn : n ≤ 140737488351232) (hm3 : m3 * 16 ≤ 140737488351232) (hk1 : -9223372036854775808 ≤ ck) (hk2 : ck ≤ 9223372036854775807) :
    Calls Tryd.prog 3 #[.slice a n cap, .int .i64 ck, .slice a2 m2 c2, .slice a3 m3 c3] w fun e w' => e = .returned (.bool true) ∧ Below w.heap.size w w' := by
  have HPK : Calls Tryd.prog 4 #[.int .i64 ck, .int .i64 64] w fun e w' => e = .returned (.int .i64 (pk ck 64 : Nat)) ∧ w' = w := picked_any ck 64 w hk1 hk2 (by decide) (by decide)
  have hkl := pk_lt ck 64 (by decide)
  obtain ⟨k, hk⟩ : ∃ k, k = pk ck 64 := ⟨_, rfl⟩
  rw [← hk] at HPK hkl
  clear hk
  obtain ⟨c, hcd⟩ : ∃ c, c = k + 1 := ⟨_, rfl⟩
  have hck : (1 : Int) + (k : Int) = (c : Int) := by omega
  have hc1 : 1 ≤ c := by omega
  have hc : c ≤ 64 := by omega
  clear hcd hkl
  have hB7 : Blk (w.alloc (.cells #[.int .u8 7] 5)) w.heap.size [7] := heap_alloc_new w _
  have hA7 := hB7.ans (n := 1) (lo := w.heap.size) (fun y hy => by simp at hy; omega) (by simp) (by unfold maxLen; simp) (Nat.le_refl _)
  have gA := World.grownBy_alloc w (.cells #[.int .u8 7] 5) none
  have hpA := hp.keep gA
  obtain ⟨D0, hD0⟩ : ∃ D0, D0 = 7 :: L := ⟨_, rfl⟩
  have hD0B : IsB D0 := by rw [hD0]; intro x hx; rcases List.mem_cons.1 hx with h | h; (· rw [h]; decide); (· exact hp.byte x h)
  have hD0l : D0.length = 1 + n := by rw [hD0, List.length_cons, hp.len]; omega
  have hD0e : [7] ++ L = D0 := hD0.symm
  have HD0e : Hid ([7] ++ L = D0) := hD0e
  have HDl : Hid (D0.length = 1 + n) := hD0l
  clear hD0 hD0e hD0l
  by_cases hbig : 255 - c < 1 + n
  · go_enter Tryd.func3, Tryd.ntmps3
    go_wp2_with (first
      | (go_at_call 4; refine HPK.mono ?_; rintro e w' ⟨rfl, hw⟩; have hw := hw.symm; subst hw)
      | (at_builtin; refine wpList_apA _ rfl (.tmp 25) (.tmp 26) rfl w.heap.size 1 1 [7] rfl hA7.own (by decide) a n cap L rfl hpA (by omega) ?_; intro gd cd w1 hgd hgr1 hown1; rw [HD0e.out] at hown1; have hncd : 1 + n ≤ cd := (by rcases hown1.2 with ⟨h, _⟩ | ⟨g', cap', cur, h, _, _, h4, _⟩; (· cases h); (· cases h; exact h4))))
    have hans : Ans w1 w.heap.size (some ⟨gd, 0, none⟩) (1 + n) cd D0 := ⟨hown1, hD0B, fun g h => by
      have e : gd = g := Option.some.inj h
      rw [← e]
      rcases hgd with h2 | h2
      · rw [h2]; exact Nat.le_refl _
      · exact Nat.le_trans gA.size h2⟩
    have g01 := grown_far gA hgr1 (fun g e => by cases e; exact Nat.le_refl _)
    obtain ⟨dn, hdn⟩ : ∃ dn, dn = 255 - c := ⟨_, rfl⟩
    rw [← hdn]
    obtain ⟨D, hDD⟩ : ∃ D, D = D0.take dn := ⟨_, rfl⟩
    have hD := hans.cut (m := dn) (by omega)
    rw [← hDD] at hD
    have hdl := hD.len
    have hDB := hD.byte
    have hdn0 : 0 < dn := by omega
    have hdnc : dn + c ≤ 255 := by omega
    clear hDD hown1 hgr1 hgd hans hncd hdn hA7 hB7 hpA HPK hbig HD0e HDl hD0B
    refine (encode_ok _ dn cd c D w1 hD.rd hdn0 hc1 hc hdnc).mono ?_
    rintro e w2 ⟨aw, nw, cw, rfl, hE, g12⟩
    have hnw : nw = dn + c := by have := hE.len; rw [encL_len, hdl] at this; omega
    have hsumz : (dn : Int) + (c : Int) = (nw : Int) := by omega
    have hnw2 : nw ≤ 255 := by omega
    have hnw0 : 0 < nw := by omega
    have HNW : Hid (nw = dn + c) := hnw
    clear hnw
    have g02 := grown_trans g01 g12
    have t1 : True := trivial
    go_wp2_with (go_at_call 6; have _t := t1; clear t1; refine (spoilt_any aw a2 nw cw m2 c2 c (encL D c) T1 w2 hE.rd (hT1.keep g02) hnw0 hnw2 hc).mono ?_; rintro e w3 ⟨go1, co1, ap1, np1, cp1, S1, P1, rfl, hS1, hP1, g23, sp1, hP1c⟩)
    have g03 := grown_trans g02 g23
    have hnp1 := hP1.len
    have HSP1 : Hid (Spo (encL D c) S1 P1 T1 nw m2) := sp1
    have hT23 := hT2.keep g03
    clear sp1
    go_loopw [15, 16] (fun s ii wr => ∃ (i nf cf : Nat) (af : Option Addr) (F : List (Int × Int)), i ≤ m3 ∧ ii = .int .i64 i ∧ s = .slice af nf cf ∧ w3.grownBy wr none ∧ AnsT wr w3.heap.size af nf cf F ∧ nf ≤ i ∧ tGood F ∧ ∀ j, j < F.length → has P1 (pk (tA F j) nw) P1.length = false) (fun _ ii _ => m3 - (intOf ii).toNat)
    case atStart => exact ⟨0, 0, 0, none, [], by omega, rfl, rfl, World.grownBy.refl _ _, ansT_nil _ _, by omega, tGood_nil, fun j h => by simp at h⟩
    case round =>
      obtain ⟨i, nf, cf, af, F, hi, rfl, rfl, hgr, hF, hnfi, hFg, hFn⟩ := hrel
      have HFn : Hid (∀ j, j < F.length → has P1 (pk (tA F j) nw) P1.length = false) := hFn
      have HFg : Hid (tGood F) := hFg
      clear hFn hFg
      by_cases him : i < m3
      · obtain ⟨wo, rfl⟩ : ∃ wo : World, wo = wr := ⟨_, rfl⟩
        have hT2o := hT23.keep hgr
        have hia := hT2.inA i
        have hib := hT2.inB i
        obtain ⟨ta, hta⟩ : ∃ t, t = tA T2 i := ⟨_, rfl⟩
        obtain ⟨tb, htb⟩ : ∃ t, t = tB T2 i := ⟨_, rfl⟩
        have HPX := fun w => picked_any ta nw w (by rw [hta]; exact hia.1) (by rw [hta]; exact hia.2) hnw0 (by omega)
        rw [← hta] at hia
        rw [← htb] at hib
        obtain ⟨x, hx⟩ : ∃ x, x = pk ta nw := ⟨_, rfl⟩
        simp only [← hx] at HPX
        have HX : Hid (x = pk ta nw) := hx
        have HTA : Hid (ta = tA T2 i ∧ tb = tB T2 i) := ⟨hta, htb⟩
        clear hx hta htb
        go_wp2
        go_loopw [17, 18] (fun hh jj wr => ∃ j : Nat, j ≤ np1 ∧ jj = .int .i64 j ∧ hh = .bool (has P1 x j) ∧ wo.grownBy wr none) (fun _ jj _ => np1 - (intOf jj).toNat)
        case atStart => exact ⟨0, by omega, rfl, rfl, World.grownBy.refl _ _⟩
        case round =>
          obtain ⟨j, hj, rfl, rfl, hgo⟩ := hrel
          by_cases hjn : j < np1
          · obtain ⟨gp, hgp, hpc⟩ := (hP1.keep (grown_trans hgr hgo)).at' (by omega)
            subst hgp
            have hpj := hpc j hjn
            obtain ⟨b, off, hbe, hbw, hcc⟩ := (hT2o.keep hgo).at' (by omega)
            subst hbe
            obtain ⟨hca, hcb⟩ := hcc i him
            rw [← HTA.out.1] at hca
            by_cases hb : has P1 x j = true
            · have HB : Hid (has P1 x (j + 1) = true) := by show _ = _; simp only [has, hb, Bool.true_or]
              rw [hb]
              clear hpc hcc hb
              go_wp2
              go_quiet (fail)
              go_wp2
              go_roundw
              case rel => exact ⟨j + 1, by omega, by go_num, by rw [HB.out], grown_trans hgo (grown_drewN _ _ _)⟩
              case measure => simp [intOf]; omega
            · have hb' : has P1 x j = false := by simpa using hb
              have HB : Hid (has P1 x (j + 1) = (nth P1 j == x)) := by show _ = _; simp only [has, hb', Bool.false_or]
              have hcmp : ((nth P1 j : Int) == (x : Int)) = (nth P1 j == x) := by rw [Bool.eq_iff_iff, beq_iff_eq, beq_iff_eq]; omega
              rw [hb']
              clear hpc hcc hb hb'
              go_wp2
              go_quiet ((go_at_call 4; exact Calls.quiet_of_same (HPX _)))
              go_wp2
              go_roundw
              case rel => exact ⟨j + 1, by omega, by go_num, by first | (rw [HB.out]; done) | (rw [HB.out, ← hcmp]), grown_trans hgo (grown_drewN _ _ _)⟩
              case measure => simp [intOf]; omega
          · have hje : j = np1 := by omega
            subst hje
            by_cases hb : has P1 x j = true
            · rw [hb]
              clear hb
              go_wp2
              go_roundw
              case rel => exact ⟨i + 1, nf, cf, af, F, by omega, by go_num, rfl, grown_trans hgr hgo, hF.keep hgo, by omega, HFg.out, HFn.out⟩
              case measure => simp [intOf]; omega
            · have hb' : has P1 x j = false := by simpa using hb
              rw [hb']
              have HB : Hid (has P1 x P1.length = false) := by show _ = _; rw [hnp1]; exact hb'
              obtain ⟨b, off, hbe, hbw, hcc⟩ := (hT2o.keep hgo).at' (by omega)
              subst hbe
              obtain ⟨hca, hcb⟩ := hcc i him
              rw [← HTA.out.1] at hca
              rw [← HTA.out.2] at hcb
              have hFo := (hF.keep hgo).own.alloc (.cells #[.int .i64 ta, .int .i64 tb] 32)
              have gT := World.grownBy_alloc wr (.cells #[.int .i64 ta, .int .i64 tb] 32) none
              have htc := turn_cell wr (.int .i64 ta) (.int .i64 tb)
              clear hcc hb hb'
              go_wp2_with (at_builtin; refine wpList_apT _ rfl (.tmp 91) (.tmp 96) rfl (.slice af nf cf) nf (tvs F) rfl hFo ⟨wr.heap.size, 0, none⟩ 1 1 [.int .i64 ta, .int .i64 tb] rfl rfl htc (by simp [Value.oneCell']) (by decide) (by omega) ?_; intro gx cx w5 hgx hgr5 hown5)
              rw [tvs_add] at hown5
              have hG5 := grown_far (grown_trans hgr (grown_trans hgo gT)) hgr5 (fun gg e => hF.new gg e)
              have hgxl : w3.heap.size ≤ gx := by
                rcases hgx with h | h
                · exact hF.new gx h
                · exact Nat.le_trans (grown_trans hgr (grown_trans hgo gT)).size h
              go_wp2
              go_roundw
              case rel =>
                refine ⟨i + 1, nf + 1, cx, some ⟨gx, 0, none⟩, F ++ [(ta, tb)], by omega, by go_num, rfl, hG5, ⟨hown5, fun g' h => by have e : gx = g' := Option.some.inj h; omega⟩, by omega, tGood_app HFg.out ta tb hia hib, fun q hq => ?_⟩
                rw [tA_app]
                by_cases h1 : q < F.length
                · rw [if_pos h1]; exact HFn.out q h1
                · simp at hq
                  rw [if_neg h1, if_pos (by omega)]
                  show has P1 (pk ta nw) P1.length = false
                  rw [← HX.out]; exact HB.out
              case measure => simp [intOf]; omega
      · obtain ⟨k2, hk2e⟩ : ∃ k2, k2 = (c - np1) / 2 := ⟨_, rfl⟩
        have hsub : (c : Int) - (np1 : Int) = ((c - np1 : Nat) : Int) := by omega
        obtain ⟨cm, hcm⟩ : ∃ cm, cm = c - np1 := ⟨_, rfl⟩
        rw [← hcm] at hsub hk2e
        have hdv : (cm : Int).tdiv 2 = (k2 : Int) := by rw [Int.tdiv_eq_ediv_of_nonneg (by omega)]; omega
        have hdv2 : (cm : Int) / 2 = (k2 : Int) := by omega
        have hk2l : k2 ≤ 64 := by omega
        have HK2 : Hid (2 * k2 + np1 ≤ c) := by show _ ≤ _; omega
        have hFl := hF.len
        have hS1r := hS1.rd.keep hgr
        have hFr := hF.rd (fun q => (HFg.out q).1) (fun q => (HFg.out q).2)
        clear hcm hk2e
        go_wp2_with (go_at_call 6; refine (spoilt_any _ af nw co1 nf cf k2 S1 F wr hS1r hFr hnw0 hnw2 hk2l).mono ?_; rintro e w4 ⟨go2, co2, ap2, np2, cp2, S2, P2, rfl, hS2, hP2, g34, sp2, hP2c⟩)
        have hnp2 := hP2.len
        have hP14 := hP1.keep (grown_trans hgr g34)
        have g04 := grown_trans g03 (grown_trans hgr g34)
        obtain ⟨M1, M2, M3⟩ := mends_math (T1 := T1) (T2 := F) (m1 := m2) (m2 := nf) hDB hc (n := nw) (by rw [hdl]; exact HNW.out.symm) hnw2 hc1 (by omega) HSP1.out sp2 hFl.symm HFn.out (by have := HK2.out; omega)
        rw [hnp1] at M1
        have HMK := mark_ok ap1 np1 cp1 nw w2.heap.size P1 w4 hP14 HSP1.out.lt HSP1.out.dist (by omega) (by omega)
        refine (Decode_with _ ap1 nw co2 np1 cp1 c S2 (mkN P1 nw np1) w4 hS2.rd hc1 hc (by have := HNW.out; omega) hnw2 HMK).mono ?_
        rintro e w5 ⟨g45, h5⟩
        rcases h5 with ⟨h5, _⟩ | ⟨W', P, a5, c5, ap5, np5, cp5, h5, rfl, hP5, hD5, _⟩
        · rw [M1] at h5; cases h5
        · rw [M1] at h5
          cases h5
          have hnc : nw - c = dn := by have := HNW.out; omega
          rw [M3] at hD5
          have hlen5 := hP5.len
          rw [M2, hnp1, hnp2] at hlen5
          have e5 := str_any w5 a5 (nw - c) c5 D hD5.rd
          rw [hnc] at e5
          have e6 := str_any w5 _ dn cd D ((hD.rd.keep (grown_trans g12 (grown_trans g23 (grown_trans hgr g34)))).keep g45)
          have hl5 : (np5 : Int) = (np1 : Int) + (np2 : Int) := by omega
          clear hlen5 M1 M2 M3 HMK
          go_wp2
          go_ret
          exact ⟨rfl, (Below.refl _ _).grown (grown_trans g04 g45) (Nat.le_refl _) (fun k hk => by cases hk)⟩
  · go_enter Tryd.func3, Tryd.ntmps3
    go_wp2_with (first
      | (go_at_call 4; refine HPK.mono ?_; rintro e w' ⟨rfl, hw⟩; have hw := hw.symm; subst hw)
      | (at_builtin; refine wpList_apA _ rfl (.tmp 25) (.tmp 26) rfl w.heap.size 1 1 [7] rfl hA7.own (by decide) a n cap L rfl hpA (by omega) ?_; intro gd cd w1 hgd hgr1 hown1; rw [HD0e.out] at hown1; have hncd : 1 + n ≤ cd := (by rcases hown1.2 with ⟨h, _⟩ | ⟨g', cap', cur, h, _, _, h4, _⟩; (· cases h); (· cases h; exact h4))))
    have hans : Ans w1 w.heap.size (some ⟨gd, 0, none⟩) (1 + n) cd D0 := ⟨hown1, hD0B, fun g h => by
      have e : gd = g := Option.some.inj h
      rw [← e]
      rcases hgd with h2 | h2
      · rw [h2]; exact Nat.le_refl _
      · exact Nat.le_trans gA.size h2⟩
    have g01 := grown_far gA hgr1 (fun g e => by cases e; exact Nat.le_refl _)
    obtain ⟨dn, hdn⟩ : ∃ dn, dn = 1 + n := ⟨_, rfl⟩
    rw [← hdn]
    obtain ⟨D, hDD⟩ : ∃ D, D = D0.take dn := ⟨_, rfl⟩
    have hD := hans.cut (m := dn) (by omega)
    rw [← hDD] at hD
    have hdl := hD.len
    have hDB := hD.byte
    have hdn0 : 0 < dn := by omega
    have hdnc : dn + c ≤ 255 := by omega
    clear hDD hown1 hgr1 hgd hans hncd hdn hA7 hB7 hpA HPK hbig HD0e HDl hD0B
    refine (encode_ok _ dn cd c D w1 hD.rd hdn0 hc1 hc hdnc).mono ?_
    rintro e w2 ⟨aw, nw, cw, rfl, hE, g12⟩
    have hnw : nw = dn + c := by have := hE.len; rw [encL_len, hdl] at this; omega
    have hsumz : (dn : Int) + (c : Int) = (nw : Int) := by omega
    have hnw2 : nw ≤ 255 := by omega
    have hnw0 : 0 < nw := by omega
    have HNW : Hid (nw = dn + c) := hnw
    clear hnw
    have g02 := grown_trans g01 g12
    have t1 : True := trivial
    go_wp2_with (go_at_call 6; have _t := t1; clear t1; refine (spoilt_any aw a2 nw cw m2 c2 c (encL D c) T1 w2 hE.rd (hT1.keep g02) hnw0 hnw2 hc).mono ?_; rintro e w3 ⟨go1, co1, ap1, np1, cp1, S1, P1, rfl, hS1, hP1, g23, sp1, hP1c⟩)
    have g03 := grown_trans g02 g23
    have hnp1 := hP1.len
    have HSP1 : Hid (Spo (encL D c) S1 P1 T1 nw m2) := sp1
    have hT23 := hT2.keep g03
    clear sp1
    go_loopw [15, 16] (fun s ii wr => ∃ (i nf cf : Nat) (af : Option Addr) (F : List (Int × Int)), i ≤ m3 ∧ ii = .int .i64 i ∧ s = .slice af nf cf ∧ w3.grownBy wr none ∧ AnsT wr w3.heap.size af nf cf F ∧ nf ≤ i ∧ tGood F ∧ ∀ j, j < F.length → has P1 (pk (tA F j) nw) P1.length = false) (fun _ ii _ => m3 - (intOf ii).toNat)
    case atStart => exact ⟨0, 0, 0, none, [], by omega, rfl, rfl, World.grownBy.refl _ _, ansT_nil _ _, by omega, tGood_nil, fun j h => by simp at h⟩
    case round =>
      obtain ⟨i, nf, cf, af, F, hi, rfl, rfl, hgr, hF, hnfi, hFg, hFn⟩ := hrel
      have HFn : Hid (∀ j, j < F.length → has P1 (pk (tA F j) nw) P1.length = false) := hFn
      have HFg : Hid (tGood F) := hFg
      clear hFn hFg
      by_cases him : i < m3
      · obtain ⟨wo, rfl⟩ : ∃ wo : World, wo = wr := ⟨_, rfl⟩
        have hT2o := hT23.keep hgr
        have hia := hT2.inA i
        have hib := hT2.inB i
        obtain ⟨ta, hta⟩ : ∃ t, t = tA T2 i := ⟨_, rfl⟩
        obtain ⟨tb, htb⟩ : ∃ t, t = tB T2 i := ⟨_, rfl⟩
        have HPX := fun w => picked_any ta nw w (by rw [hta]; exact hia.1) (by rw [hta]; exact hia.2) hnw0 (by omega)
        rw [← hta] at hia
        rw [← htb] at hib
        obtain ⟨x, hx⟩ : ∃ x, x = pk ta nw := ⟨_, rfl⟩
        simp only [← hx] at HPX
        have HX : Hid (x = pk ta nw) := hx
        have HTA : Hid (ta = tA T2 i ∧ tb = tB T2 i) := ⟨hta, htb⟩
        clear hx hta htb
        go_wp2
        go_loopw [17, 18] (fun hh jj wr => ∃ j : Nat, j ≤ np1 ∧ jj = .int .i64 j ∧ hh = .bool (has P1 x j) ∧ wo.grownBy wr none) (fun _ jj _ => np1 - (intOf jj).toNat)
        case atStart => exact ⟨0, by omega, rfl, rfl, World.grownBy.refl _ _⟩
        case round =>
          obtain ⟨j, hj, rfl, rfl, hgo⟩ := hrel
          by_cases hjn : j < np1
          · obtain ⟨gp, hgp, hpc⟩ := (hP1.keep (grown_trans hgr hgo)).at' (by omega)
            subst hgp
            have hpj := hpc j hjn
            obtain ⟨b, off, hbe, hbw, hcc⟩ := (hT2o.keep hgo).at' (by omega)
            subst hbe
            obtain ⟨hca, hcb⟩ := hcc i him
            rw [← HTA.out.1] at hca
            by_cases hb : has P1 x j = true
            · have HB : Hid (has P1 x (j + 1) = true) := by show _ = _; simp only [has, hb, Bool.true_or]
              rw [hb]
              clear hpc hcc hb
              go_wp2
              go_quiet (fail)
              go_wp2
              go_roundw
              case rel => exact ⟨j + 1, by omega, by go_num, by rw [HB.out], grown_trans hgo (grown_drewN _ _ _)⟩
              case measure => simp [intOf]; omega
            · have hb' : has P1 x j = false := by simpa using hb
              have HB : Hid (has P1 x (j + 1) = (nth P1 j == x)) := by show _ = _; simp only [has, hb', Bool.false_or]
              have hcmp : ((nth P1 j : Int) == (x : Int)) = (nth P1 j == x) := by rw [Bool.eq_iff_iff, beq_iff_eq, beq_iff_eq]; omega
              rw [hb']
              clear hpc hcc hb hb'
              go_wp2
              go_quiet ((go_at_call 4; exact Calls.quiet_of_same (HPX _)))
              go_wp2
              go_roundw
              case rel => exact ⟨j + 1, by omega, by go_num, by first | (rw [HB.out]; done) | (rw [HB.out, ← hcmp]), grown_trans hgo (grown_drewN _ _ _)⟩
              case measure => simp [intOf]; omega
          · have hje : j = np1 := by omega
            subst hje
            by_cases hb : has P1 x j = true
            · rw [hb]
              clear hb
              go_wp2
              go_roundw
              case rel => exact ⟨i + 1, nf, cf, af, F, by omega, by go_num, rfl, grown_trans hgr hgo, hF.keep hgo, by omega, HFg.out, HFn.out⟩
              case measure => simp [intOf]; omega
            · have hb' : has P1 x j = false := by simpa using hb
              rw [hb']
              have HB : Hid (has P1 x P1.length = false) := by show _ = _; rw [hnp1]; exact hb'
              obtain ⟨b, off, hbe, hbw, hcc⟩ := (hT2o.keep hgo).at' (by omega)
              subst hbe
              obtain ⟨hca, hcb⟩ := hcc i him
              rw [← HTA.out.1] at hca
              rw [← HTA.out.2] at hcb
              have hFo := (hF.keep hgo).own.alloc (.cells #[.int .i64 ta, .int .i64 tb] 32)
              have gT := World.grownBy_alloc wr (.cells #[.int .i64 ta, .int .i64 tb] 32) none
              have htc := turn_cell wr (.int .i64 ta) (.int .i64 tb)
              clear hcc hb hb'
              go_wp2_with (at_builtin; refine wpList_apT _ rfl (.tmp 91) (.tmp 96) rfl (.slice af nf cf) nf (tvs F) rfl hFo ⟨wr.heap.size, 0, none⟩ 1 1 [.int .i64 ta, .int .i64 tb] rfl rfl htc (by simp [Value.oneCell']) (by decide) (by omega) ?_; intro gx cx w5 hgx hgr5 hown5)
              rw [tvs_add] at hown5
              have hG5 := grown_far (grown_trans hgr (grown_trans hgo gT)) hgr5 (fun gg e => hF.new gg e)
              have hgxl : w3.heap.size ≤ gx := by
                rcases hgx with h | h
                · exact hF.new gx h
                · exact Nat.le_trans (grown_trans hgr (grown_trans hgo gT)).size h
              go_wp2
              go_roundw
              case rel =>
                refine ⟨i + 1, nf + 1, cx, some ⟨gx, 0, none⟩, F ++ [(ta, tb)], by omega, by go_num, rfl, hG5, ⟨hown5, fun g' h => by have e : gx = g' := Option.some.inj h; omega⟩, by omega, tGood_app HFg.out ta tb hia hib, fun q hq => ?_⟩
                rw [tA_app]
                by_cases h1 : q < F.length
                · rw [if_pos h1]; exact HFn.out q h1
                · simp at hq
                  rw [if_neg h1, if_pos (by omega)]
                  show has P1 (pk ta nw) P1.length = false
                  rw [← HX.out]; exact HB.out
              case measure => simp [intOf]; omega
      · obtain ⟨k2, hk2e⟩ : ∃ k2, k2 = (c - np1) / 2 := ⟨_, rfl⟩
        have hsub : (c : Int) - (np1 : Int) = ((c - np1 : Nat) : Int) := by omega
        obtain ⟨cm, hcm⟩ : ∃ cm, cm = c - np1 := ⟨_, rfl⟩
        rw [← hcm] at hsub hk2e
        have hdv : (cm : Int).tdiv 2 = (k2 : Int) := by rw [Int.tdiv_eq_ediv_of_nonneg (by omega)]; omega
        have hdv2 : (cm : Int) / 2 = (k2 : Int) := by omega
        have hk2l : k2 ≤ 64 := by omega
        have HK2 : Hid (2 * k2 + np1 ≤ c) := by show _ ≤ _; omega
        have hFl := hF.len
        have hS1r := hS1.rd.keep hgr
        have hFr := hF.rd (fun q => (HFg.out q).1) (fun q => (HFg.out q).2)
        clear hcm hk2e
        go_wp2_with (go_at_call 6; refine (spoilt_any _ af nw co1 nf cf k2 S1 F wr hS1r hFr hnw0 hnw2 hk2l).mono ?_; rintro e w4 ⟨go2, co2, ap2, np2, cp2, S2, P2, rfl, hS2, hP2, g34, sp2, hP2c⟩)
        have hnp2 := hP2.len
        have hP14 := hP1.keep (grown_trans hgr g34)
        have g04 := grown_trans g03 (grown_trans hgr g34)
        obtain ⟨M1, M2, M3⟩ := mends_math (T1 := T1) (T2 := F) (m1 := m2) (m2 := nf) hDB hc (n := nw) (by rw [hdl]; exact HNW.out.symm) hnw2 hc1 (by omega) HSP1.out sp2 hFl.symm HFn.out (by have := HK2.out; omega)
        rw [hnp1] at M1
        have HMK := mark_ok ap1 np1 cp1 nw w2.heap.size P1 w4 hP14 HSP1.out.lt HSP1.out.dist (by omega) (by omega)
        refine (Decode_with _ ap1 nw co2 np1 cp1 c S2 (mkN P1 nw np1) w4 hS2.rd hc1 hc (by have := HNW.out; omega) hnw2 HMK).mono ?_
        rintro e w5 ⟨g45, h5⟩
        rcases h5 with ⟨h5, _⟩ | ⟨W', P, a5, c5, ap5, np5, cp5, h5, rfl, hP5, hD5, _⟩
        · rw [M1] at h5; cases h5
        · rw [M1] at h5
          cases h5
          have hnc : nw - c = dn := by have := HNW.out; omega
          rw [M3] at hD5
          have hlen5 := hP5.len
          rw [M2, hnp1, hnp2] at hlen5
          have e5 := str_any w5 a5 (nw - c) c5 D hD5.rd
          rw [hnc] at e5
          have e6 := str_any w5 _ dn cd D ((hD.rd.keep (grown_trans g12 (grown_trans g23 (grown_trans hgr g34)))).keep g45)
          have hl5 : (np5 : Int) = (np1 : Int) + (np2 : Int) := by omega
          clear hlen5 M1 M2 M3 HMK
          go_wp2
          go_ret
          exact ⟨rfl, (Below.refl _ _).grown (grown_trans g04 g45) (Nat.le_refl _) (fun k hk => by cases hk)⟩
end Go.Proofs.YtpenggkefbbopaaDoor
