import Derived.Test.YtpenggkefbbopaaDoorNSSpo
import Derived.Deep.RegionLawGrows
namespace Go.Proofs.YtpenggkefbbopaaDoor
open Go.RowKit
set_option maxRecDepth 100000
set_option linter.unusedVariables false
set_option linter.unusedSimpArgs false

theorem Spo.mono {L D P : List Nat} {T : List (Int × Int)} {n i j : Nat} (s : Spo L D P T n i) (h : i ≤ j) : Spo L D P T n j :=
  ⟨s.len, s.byte, s.dist, s.lt, fun q h2 => by obtain ⟨q', h3, h4⟩ := s.of q h2; exact ⟨q', by omega, h4⟩, s.dif⟩
set_option maxHeartbeats 40000000 in
theorem spoilt_any [Add GF] [Mul GF] [OfNat GF 0] [OfNat GF 1] [L : Nonempty GL] (a am : Option Addr) (n cap m capm k : Nat) (L : List Nat) (T : List (Int × Int)) (w : World) (hp : Rd w a n cap L) (hT : RdT w am m capm T) (h0 : 0 < n) (hn : n ≤ 255) (hk : k ≤ 64) :
    Calls Tryd.prog 6 #[.slice a n cap, .slice am m capm, .int .i64 k] w fun e w' => ∃ go co ap np cp D P, e = .returned (.tuple #[.slice (some ⟨go, 0, none⟩) n co, .slice ap np cp]) ∧
      Ans w' w.heap.size (some ⟨go, 0, none⟩) n co D ∧ AnsI w' w.heap.size ap np cp P ∧ w.grownBy w' none ∧ Spo L D P T n m ∧ P.length ≤ k := by
  have HL : Hid (L.length = n) := hp.len
  have hmx := hT.le
  have hmx2 := hT.max
  unfold maxLen at hmx2
  go_enter Tryd.func6, Tryd.ntmps6
  go_wp2_with (at_builtin; refine wpList_clB _ rfl _ (.tmp 14) rfl rfl a n cap L rfl hp (by omega) ?_; intro ao co w1 hg1 hA1; obtain ⟨go, hgo⟩ : ∃ g, ao = some ⟨g, 0, none⟩ := (hA1.cases).elim (fun h => absurd h.2.1 (Nat.ne_of_gt h0)) (fun h => h.elim fun g hg => ⟨g, hg.1⟩); subst hgo)
  have hgol : w.heap.size ≤ go := hA1.new go rfl
  have hgo1 : go < w1.heap.size := by
    rcases hA1.cases with ⟨h, _⟩ | ⟨g, h, _, h2⟩
    · cases h
    · cases h; exact h2
  have hT1 := hT.keep hg1
  have hTn : ∀ x, am = some x → 0 < m → x.block ≠ go := fun x hx hm0 => by
    obtain ⟨b, off, e, hb, _⟩ := hT.at' hm0
    rw [hx] at e
    cases e
    show b ≠ go
    omega
  go_loopw [9, 10] (fun s ii wr => ∃ (i np cp : Nat) (ap : Option Addr) (D P : List Nat), i ≤ m ∧ ii = .int .i64 i ∧ s = .slice ap np cp ∧ w1.grownBy wr (some go) ∧ AnsI wr w1.heap.size ap np cp P ∧ Ans wr w.heap.size (some ⟨go, 0, none⟩) n co D ∧ Spo L D P T n i ∧ P.length ≤ k) (fun _ ii _ => m - (intOf ii).toNat)
  case atStart => exact ⟨0, 0, 0, none, L, [], by omega, rfl, rfl, World.grownBy.refl _ _, ansI_nil _ _, hA1, spo_start hp.byte T n HL.out, by simp⟩
  case round =>
    obtain ⟨i, np, cp, ap, D, P, hi, rfl, rfl, hgr, hP, hD, hS, hPk⟩ := hrel
    have hnp := hP.len
    have HS : Hid (Spo L D P T n i) := hS
    have hend : ∀ wr : World, w1.grownBy wr (some go) → w.grownBy wr none := fun wr h => grown_far hg1 h (fun g e => by cases e; exact hgol)
    by_cases him : i < m
    · by_cases hnk : np < k
      · obtain ⟨b, off, hbe, hbw, hcc⟩ := (hT1.far hgr (fun x hx => by have := hTn x hx (by omega); simp; exact this)).at' (by omega)
        subst hbe
        obtain ⟨hca, hcb⟩ := hcc i him
        have hia := hT.inA i
        have hib := hT.inB i
        obtain ⟨ta, hta⟩ : ∃ t, t = tA T i := ⟨_, rfl⟩
        obtain ⟨tb, htb⟩ : ∃ t, t = tB T i := ⟨_, rfl⟩
        rw [← hta] at hca hia
        rw [← htb] at hcb hib
        have HPA := picked_any ta n wr hia.1 hia.2 h0 (by omega)
        have hxl := pk_lt ta n h0
        obtain ⟨x, hx⟩ : ∃ x, x = pk ta n := ⟨_, rfl⟩
        rw [← hx] at HPA hxl
        have HX : Hid (x = pk (tA T i) n) := by show _ = _; rw [hx, hta]
        have HPB : ∀ w : World, Calls Tryd.prog 4 #[.int .i64 tb, .int .i64 255] w fun e w' => e = .returned (.int .i64 (pk tb 255 : Nat)) ∧ w' = w := fun w => picked_any tb 255 w hib.1 hib.2 (by decide) (by decide)
        have hzl := pk_lt tb 255 (by decide)
        obtain ⟨z, hz⟩ : ∃ z, z = pk tb 255 := ⟨_, rfl⟩
        simp only [← hz] at HPB hzl
        have HTB : Hid (tB T i = tb) := htb.symm
        clear hta htb hx hz hcc hS
        go_wp2_with (go_at_call 4; refine HPA.mono ?_; rintro e w' ⟨rfl, hw⟩; have hw := hw.symm; subst hw)
        go_loop [12, 13] (fun kn jj => ∃ j : Nat, j ≤ np ∧ jj = .int .i64 j ∧ kn = .bool (has P x j)) (fun _ jj => np - (intOf jj).toNat)
        case atStart => exact ⟨0, by omega, rfl, rfl⟩
        case round =>
          obtain ⟨j, hj, rfl, rfl⟩ := hrel
          by_cases hjn : j < np
          · obtain ⟨gp, hgp, hpc⟩ := hP.at' (by omega)
            subst hgp
            have hpj := hpc j hjn
            by_cases hb : has P x j = true
            · have HB : Hid (has P x (j + 1) = true) := by show _ = _; simp only [has, hb, Bool.true_or]
              rw [hb]
              clear hpc hb
              go_wp2
              go_round
              case rel => exact ⟨j + 1, by omega, by go_num, by rw [HB.out]⟩
              case measure => simp [intOf]; omega
            · have hb' : has P x j = false := by simpa using hb
              have HB : Hid (has P x (j + 1) = (nth P j == x)) := by show _ = _; simp only [has, hb', Bool.false_or]
              have hcmp : ((nth P j : Int) == (x : Int)) = (nth P j == x) := by rw [Bool.eq_iff_iff, beq_iff_eq, beq_iff_eq]; omega
              rw [hb']
              clear hpc hb hb'
              go_wp2
              go_round
              case rel => exact ⟨j + 1, by omega, by go_num, by first | (rw [HB.out]; done) | (rw [HB.out, ← hcmp])⟩
              case measure => simp [intOf]; omega
          · have hje : j = np := by omega
            subst hje
            by_cases hb : has P x j = true
            · rw [hb]
              clear hb
              go_wp2
              go_roundw
              case rel => exact ⟨i + 1, j, cp, ap, D, P, by omega, by go_num, rfl, hgr, hP, hD, HS.out.skip, hPk⟩
              case measure => simp [intOf]; omega
            · have hb' : has P x j = false := by simpa using hb
              rw [hb']
              have HB : Hid (has P x P.length = false) := by show _ = _; rw [hnp]; exact hb'
              have hSo := hP.own.alloc (.cells #[.int .i64 (x : Int)] 3)
              have gA := World.grownBy_alloc wr (.cells #[.int .i64 (x : Int)] 3) none
              have hic := int_cell wr (.int .i64 (x : Int))
              clear hb hb'
              go_wp2_with (at_builtin; refine wpList_apI _ rfl (.tmp 52) (.tmp 54) rfl (.slice ap j cp) j (ins P) rfl hSo ⟨wr.heap.size, 0, none⟩ 1 1 [.int .i64 (x : Int)] rfl rfl hic (by simp [Value.oneCell']) (by decide) (by omega) ?_; intro gx cx w5 hgx hgr5 hown5)
              rw [ins_add] at hown5
              have g15 := grown_off (grown_trans hgr (grown_weak gA _)) hgr5 (fun gg e => hP.new gg e)
              have hD5 := (hD.keep gA).kept hgr5 (by
                right
                show some go ≠ _
                intro e
                have h1 := hP.new go e.symm
                omega)
              have hgxl : w1.heap.size ≤ gx := by
                rcases hgx with h | h
                · exact hP.new gx h
                · exact Nat.le_trans (grown_trans hgr (grown_weak gA _)).size h
              obtain ⟨b', off', hbe', _, hcc'⟩ := (hT1.far g15 (fun y hy => by have := hTn y hy (by omega); simp; exact this)).at' (by omega)
              cases hbe'
              have hcb5 := (hcc' i him).2
              rw [HTB.out] at hcb5
              have hbx := hD.byte.nth x
              have hcx := own_cell hD5.own x hxl
              have hfx := hD5.own.frozenAt x
              have hcv : IntKind.u8.wrap (1 + (z : Int)) = ((1 + z : Nat) : Int) := by rw [IntKind.wrap_u8']; omega
              have HXR : Hid (bits .xor .u8 (nth D x : Int) (1 + (z : Int)) = ((nth D x ^^^ (1 + z) : Nat) : Int)) := by
                have h := u8_xor_nat (nth D x) (1 + z) hbx (by omega)
                rw [show ((1 + z : Nat) : Int) = 1 + (z : Int) by omega] at h
                exact h
              have hD6 := hD5.set x (nth D x ^^^ (1 + z)) (Fld.xor_lt hbx (by omega))
              have gE := grown_trans (grown_set w5 go x (.int .u8 ((nth D x ^^^ (1 + z) : Nat) : Int))) (grown_drew _ _)
              have hA5 : AnsI w5 w1.heap.size (some ⟨gx, 0, none⟩) (j + 1) cx (P ++ [x]) := ⟨hown5, fun g' h => by have e : gx = g' := Option.some.inj h; omega⟩
              have hA6 := hA5.kept gE (.inr (fun e => by have e2 : gx = go := Option.some.inj e; omega))
              have hD7 := hD6.kept (grown_drew _ none) (by simp [Value.ownBlock])
              have FIN : Hid (∃ (i' np' cp' : Nat) (ap' : Option Addr) (D' P' : List Nat), i' ≤ m ∧ Value.int .i64 ((i : Int) + 1) = .int .i64 i' ∧ Value.slice (some ⟨gx, 0, none⟩) (j + 1) cx = .slice ap' np' cp' ∧ w1.grownBy (w5.setCell ⟨go, x, none⟩ (.int .u8 ((nth D x ^^^ (1 + z) : Nat) : Int))).drew (some go) ∧
                  AnsI (w5.setCell ⟨go, x, none⟩ (.int .u8 ((nth D x ^^^ (1 + z) : Nat) : Int))).drew w1.heap.size ap' np' cp' P' ∧ Ans (w5.setCell ⟨go, x, none⟩ (.int .u8 ((nth D x ^^^ (1 + z) : Nat) : Int))).drew w.heap.size (some ⟨go, 0, none⟩) n co D' ∧ Spo L D' P' T n i' ∧ P'.length ≤ k) :=
                ⟨i + 1, j + 1, cx, some ⟨gx, 0, none⟩, _, P ++ [x], by omega, by go_num, rfl, grown_trans g15 gE, hA6, hD7, HS.out.turn x (1 + z) hxl HX.out (by omega) (by omega) HB.out, by simp; omega⟩
              have hmi : m - (i + 1) < m - i := by omega
              clear hcc' hcb hca HPA HS g15 hD5 hD6 hD7 hA5 hA6 gE
              go_region_law (first | (go_simp; go_at_call 4; refine (HPB _).mono ?_; rintro e w' ⟨rfl, rfl⟩))
              all_goals
                go_wp2
                go_roundw
                case rel => rw [HXR.out]; exact FIN.out
                case measure => simp [intOf]; omega
      · clear hS
        go_wp2
        go_ret2
        exact ⟨go, co, ap, np, cp, D, P, rfl, hD, ⟨hP.own, fun g h => Nat.le_trans hg1.size (hP.new g h)⟩, hend _ hgr, HS.out.mono hi, hPk⟩
    · clear hS
      go_wp2
      go_ret2
      exact ⟨go, co, ap, np, cp, D, P, rfl, hD, ⟨hP.own, fun g h => Nat.le_trans hg1.size (hP.new g h)⟩, hend _ hgr, HS.out.mono hi, hPk⟩
end Go.Proofs.YtpenggkefbbopaaDoor
