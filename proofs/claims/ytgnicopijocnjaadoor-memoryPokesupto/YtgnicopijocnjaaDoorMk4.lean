import Derived.Test.YtgnicopijocnjaaDoorMk3
import Derived.Test.YtgnicopijocnjaaDoorMk2
import Derived.Deep.RegionLawGrows
import Derived.RangeFuncNested
import Derived.RangeFuncBound
import Derived.RangeFuncCalls
import Derived.RangeFuncLeaves
import Derived.RangeFuncBox
import Derived.Shelf.Abstract
import Derived.Shelf.RegionOpen
import Derived.OwnWalkIn
import Derived.TacticsInMore
import Derived.LoopNIn
import Derived.LoopIn
import Derived.Maps.AppendAt
import Derived.Laws.EntriesVeiled
namespace Go.Proofs.YtgnicopijocnjaaDoor
open Go.RowKit
set_option maxRecDepth 100000
set_option linter.unusedVariables false
set_option linter.unusedSimpArgs false

section
/-- 'l = append(l, v)' of numbers, whatever else was written ahead of it -/
theorem wpList_pushZ (w : World) (lo : Nat) {ops : Array Oper} {rest : List Oper} {o : Oper} {a : Act} {Q : Exit → Act → World → Prop} (hg : o.guard = none) (s x : Operand)
    (hop : o.op = Op.call { callee := .builtin .append, args := #[s, x], argTypes := #[27, 27] }) (ao : Option Addr) (m co : Nat) (v : Int) (D : List Int) (hs : a.eval s = .slice ao m co)
    (hA : AnsZ w lo ao m co D) (hlw : lo ≤ w.heap.size) (hx : a.eval x = .slice (some ⟨w.heap.size, 0, none⟩) 1 1) (hb : m + 1 ≤ 17592186044416)
    (hK : ∀ gx cx w', AnsZ w' lo (some ⟨gx, 0, none⟩) (m + 1) cx (D ++ [v]) → ((Value.slice ao m co).ownBlock = some gx ∨ w.heap.size ≤ gx) → w.grownBy w' (Value.slice ao m co).ownBlock → wpList Tryd.prog ops Q rest (a.put o.dst (.slice (some ⟨gx, 0, none⟩) (m + 1) cx)) w') :
    wpList Tryd.prog ops Q (o :: rest) a (w.alloc (.cells #[.int .i64 v] 3)) := by
  have gA0 := World.grownBy_alloc w (.cells #[.int .i64 v] 3) none
  refine wpList_apI _ hg s x hop (.slice ao m co) m (zys D) hs (hA.own.alloc _) ⟨w.heap.size, 0, none⟩ 1 1 [.int .i64 v] hx rfl (cell_oneI w _) (by simp [Value.oneCell']) (by decide) hb ?_
  intro gx cx w2 hgx hgr2 hown2
  have e : zys D ++ [Value.int .i64 v] = zys (D ++ [v]) := by simp [zys]
  rw [e] at hown2
  have hsz := gA0.size
  have hgx' : (Value.slice ao m co).ownBlock = some gx ∨ w.heap.size ≤ gx := hgx.elim .inl (fun h => .inr (Nat.le_trans hsz h))
  refine hK gx cx w2 ⟨hown2, fun g h => ?_⟩ hgx' (grown_trans (World.grownBy_alloc w _ _) hgr2)
  have e : gx = g := Option.some.inj h
  subst e
  rcases hgx' with h | h
  · exact hA.new gx h
  · exact Nat.le_trans hlw h
set_option maxHeartbeats 4000000 in
theorem scrub_any (gm gc nx n : Nat) (C : List Nat) (w : World) (h : Mem w gm gc nx C) (hn : n ≤ C.length) :
    Calls Tryd.prog 14 #[.pointer (some ⟨gm, 0, none⟩), .int .i64 n] w fun e w' => ∃ al nl cl, e = .returned (.tuple #[.int .i64 (mgN C nx n : Nat), .slice al nl cl, .nilIface]) ∧ Mem w' gm gc ((nx + n) % C.length) (mgC C nx n) ∧ AnsZ w' w.heap.size al nl cl (mgL C nx n) ∧ Fw (mB gm gc) w w' := by
  have c0 := h.box.cell 0 (by simp)
  simp at c0
  have hm := h.most
  have hgm := h.box.lt
  have hgc := h.row.lt
  have H1 := fun wz => mwithin_any (n : Int) (C.length : Int) wz
  rw [inN_t ⟨by omega, by omega⟩] at H1
  go_enter Tryd.func14, Tryd.ntmps14
  go_wp2_with (first
    | (go_at_call 23; refine (H1 _).mono ?_; rintro e w' ⟨rfl, hww⟩; have hww := hww.symm; subst hww))
  go_loopw [7, 8, 21] (fun mv lv i wr => ∃ (j nl cl : Nat) (al : Option Addr), j ≤ n ∧ i = .int .i64 j ∧ lv = .slice al nl cl ∧ mv = .int .i64 (mgN C nx j : Nat) ∧ Mem wr gm gc ((nx + j) % C.length) (mgC C nx j) ∧ AnsZ wr w.heap.size al nl cl (mgL C nx j) ∧ Fw (mB gm gc) w wr) (fun _ _ i _ => n - (intOf i).toNat)
  case atStart => exact ⟨0, 0, 0, none, by omega, rfl, rfl, rfl, by rw [Nat.add_zero, Nat.mod_eq_of_lt h.next]; exact h, ansZ_nil _ _, Fw.refl _ _⟩
  case round =>
    obtain ⟨j, nl, cl, al, hj, rfl, rfl, rfl, hM, hA, hF⟩ := hrel
    by_cases hlt : j < n
    · have hpl : (nx + j) % C.length < (mgC C nx j).length := by rw [mgC_len]; exact Nat.mod_lt _ (by omega)
      have HV := visit_any gm gc _ _ _ wr hM hpl
      have hjn : (j : Int) < (n : Int) := by omega
      have hsl := mgN_le C nx j
      have hll := mgL_le C nx j
      have HS : Hid (mgC C nx (j + 1) = (mgC C nx j).set ((nx + j) % C.length) (viW (nth (mgC C nx j) ((nx + j) % C.length)))) := rfl
      have HN : Hid (mgN C nx (j + 1) = if wrW (nth (mgC C nx j) ((nx + j) % C.length)) == 1 then mgN C nx j + 1 else mgN C nx j) := rfl
      have HL : Hid (mgL C nx (j + 1) = if wrW (nth (mgC C nx j) ((nx + j) % C.length)) = 2 then mgL C nx j ++ [(((nx + j) % C.length : Nat) : Int)] else mgL C nx j) := rfl
      have HP : Hid ((nx + (j + 1)) % C.length = ((nx + j) % C.length + 1) % C.length) := by
        show _ = _
        rw [← Nat.add_assoc, Nat.mod_add_mod]
      have hpn : ((nx + j) % C.length + 1) % C.length < C.length := Nat.mod_lt _ (by omega)
      have HLn : Hid ((mgC C nx (j + 1)).length = C.length) := mgC_len _ _ _
      rw [← HS.out] at HV
      obtain ⟨C', hC'⟩ : ∃ C', C' = mgC C nx (j + 1) := ⟨_, rfl⟩
      rw [← hC'] at HV HLn
      have HC' : Hid (C' = mgC C nx (j + 1)) := hC'
      clear hC'
      rw [mgC_len] at hpl
      have c1 : wr.cell? ⟨gm, 1, none⟩ = some (.int .i64 (((nx + j) % C.length : Nat) : Int)) := hM.box.cell 1 (by simp)
      have hal := hA.len
      generalize mgL C nx j = LL at hA HL hll hal
      generalize mgN C nx j = s at HN hsl ⊢
      generalize nth (mgC C nx j) ((nx + j) % C.length) = y at HV HN HL
      obtain ⟨p, hp⟩ : ∃ p, p = (nx + j) % C.length := ⟨_, rfl⟩
      rw [← hp] at HV HL HP hpl hpn c1
      have hem : ((p : Int) + 1) % (C.length : Int) = (((p + 1) % C.length : Nat) : Int) := by
        have := Int.natCast_emod (p + 1) C.length
        rw [this]; simp
      have hem2 : ((p : Int) + 1).tmod (C.length : Int) = (((p + 1) % C.length : Nat) : Int) := by rw [Int.tmod_eq_emod_of_nonneg (by omega)]; exact hem
      have hlz : ¬ (C.length : Int) = 0 := by omega
      generalize (p + 1) % C.length = p' at hem hem2 HP hpn
      have HPP : Hid (p = (nx + j) % C.length) := hp
      have HF : Hid (Fw (mB gm gc) w wr) := hF
      have HA : Hid (AnsZ wr w.heap.size al nl cl LL) := hA
      clear hM hp hF hA HS
      have hwr := HF.out.size
      have hcases : wrW y = 1 ∨ wrW y = 2 ∨ wrW y = 0 := by have := mwr_le y; omega
      rcases hcases with hy | hy | hy
      · skip
        have e1 : (wrW y == 1) = true := by simp; omega
        have e2 : riE y = 0 := by unfold riE; rw [if_neg (by omega)]
        rw [e1, e2] at HV
        have HN1 : Hid (mgN C nx (j + 1) = s + 1) := HN.out.trans (by rw [e1]; rfl)
        have HL1 : Hid (mgL C nx (j + 1) = LL) := HL.out.trans (by rw [if_neg (by omega)])
        clear HN HL e1 e2 hy
        refine wp_seq_k fun K17 hK17 => ?_
        have HK17 : Hid _ := hK17
        clear hK17
        go_wp2
        (try simp only [Exit.inBlock, Exit.then])
        refine HK17.out _ _ ?_
        clear HK17
        refine wp_seq_k fun K16 hK16 => ?_
        have HK16 : Hid _ := hK16
        clear hK16
        go_wp2
        (try simp only [Exit.inBlock, Exit.then])
        refine HK16.out _ _ ?_
        clear HK16
        refine wp_seq_k fun K18 hK18 => ?_
        have HK18 : Hid _ := hK18
        clear hK18
        refine wp_block ?_
        refine wp_seq_k fun K7 hK7 => ?_
        have HK7 : Hid _ := hK7
        clear hK7
        go_wp2_with (go_at_call 20; refine HV.mono ?_; rintro e w1 ⟨rfl, hM1, hG1⟩)
        (try simp only [Exit.inBlock, Exit.then])
        refine HK7.out _ _ ?_
        clear HK7
        have hA1 : AnsZ w1 w.heap.size al nl cl LL := HA.out.kept hG1 (by
          right
          intro e
          have := HA.out.new gc e
          omega)
        have hF1 : Fw (mB gm gc) w w1 := HF.out.step hG1 (fun k e _ => .inr (Option.some.inj e).symm)
        have hw1 := hG1.size
        clear HV HA HF c1 hG1
        have c1 : w1.cell? ⟨gm, 1, none⟩ = some (.int .i64 (p : Int)) := hM1.box.cell 1 (by simp)
        refine wp_seq_k fun K8 hK8 => ?_
        have HK8 : Hid _ := hK8
        clear hK8
        go_wp2
        (try simp only [Exit.inBlock, Exit.then])
        refine HK8.out _ _ ?_
        clear HK8
        refine wp_seq_k fun K10 hK10 => ?_
        have HK10 : Hid _ := hK10
        clear hK10
        go_wp2
        (try simp only [Exit.inBlock, Exit.then])
        refine HK10.out _ _ ?_
        clear HK10
        have xM := hM1
        have xF := hF1
        have xA := hA1
        clear hM1 hF1 hA1 c1
        have d0 : w1.cell? ⟨gm, 0, none⟩ = some (.slice (some ⟨gc, 0, none⟩) C'.length C'.length) := xM.box.cell 0 (by simp)
        have d1 : w1.cell? ⟨gm, 1, none⟩ = some (.int .i64 (p : Int)) := xM.box.cell 1 (by simp)
        have d2 := xM.box.free 1
        rw [HLn.out] at d0
        have hM2 : Hid (Mem (w1.setCell ⟨gm, 1, none⟩ (.int .i64 (p' : Int))).drew gm gc p' C') := (xM.nextTo p' (by rw [HLn.out]; exact hpn)).grown (grown_drew _ none) (by simp) (by simp)
        have hF2 : Hid (Fw (mB gm gc) w (w1.setCell ⟨gm, 1, none⟩ (.int .i64 (p' : Int))).drew) := (xF.step (grown_set w1 gm 1 (.int .i64 (p' : Int))) (fun k e _ => .inl (Option.some.inj e).symm)).step (grown_drew _ none) (fun k e _ => nomatch e)
        have hA2 : Hid (AnsZ (w1.setCell ⟨gm, 1, none⟩ (.int .i64 (p' : Int))).drew w.heap.size al nl cl _) := ((xA).kept (grown_set w1 gm 1 (.int .i64 (p' : Int))) (.inr (fun e => by have := (xA).new gm e; omega))).keep (grown_drew _ none)
        clear xM xF xA
        go_region
        all_goals
          (try simp only [Exit.inBlock, Exit.then])
          refine HK18.out _ _ ?_
          go_wp2
          go_roundw
          case rel => exact ⟨j + 1, nl, cl, al, by omega, by go_num, rfl, by rw [HN1.out]; go_num, by rw [HP.out, ← HC'.out]; exact hM2.out, by rw [HL1.out]; exact hA2.out, hF2.out⟩
          case measure => simp [intOf]; omega
      · skip
        have e1 : (wrW y == 1) = false := by simp; omega
        have e2 : riE y = 18 := by unfold riE; rw [if_pos (by omega)]
        rw [e1, e2] at HV
        have HN1 : Hid (mgN C nx (j + 1) = s) := HN.out.trans (by rw [e1]; rfl)
        have HL1 : Hid (mgL C nx (j + 1) = LL ++ [(p : Int)]) := HL.out.trans (by rw [if_pos (by omega)])
        clear HN HL e1 e2 hy
        refine wp_seq_k fun K17 hK17 => ?_
        have HK17 : Hid _ := hK17
        clear hK17
        go_wp2
        (try simp only [Exit.inBlock, Exit.then])
        refine HK17.out _ _ ?_
        clear HK17
        refine wp_seq_k fun K16 hK16 => ?_
        have HK16 : Hid _ := hK16
        clear hK16
        go_wp2
        (try simp only [Exit.inBlock, Exit.then])
        refine HK16.out _ _ ?_
        clear HK16
        refine wp_seq_k fun K18 hK18 => ?_
        have HK18 : Hid _ := hK18
        clear hK18
        refine wp_block ?_
        refine wp_seq_k fun K7 hK7 => ?_
        have HK7 : Hid _ := hK7
        clear hK7
        go_wp2_with (go_at_call 20; refine HV.mono ?_; rintro e w1 ⟨rfl, hM1, hG1⟩)
        (try simp only [Exit.inBlock, Exit.then])
        refine HK7.out _ _ ?_
        clear HK7
        have hA1 : AnsZ w1 w.heap.size al nl cl LL := HA.out.kept hG1 (by
          right
          intro e
          have := HA.out.new gc e
          omega)
        have hF1 : Fw (mB gm gc) w w1 := HF.out.step hG1 (fun k e _ => .inr (Option.some.inj e).symm)
        have hw1 := hG1.size
        clear HV HA HF c1 hG1
        have c1 : w1.cell? ⟨gm, 1, none⟩ = some (.int .i64 (p : Int)) := hM1.box.cell 1 (by simp)
        refine wp_seq_k fun K8 hK8 => ?_
        have HK8 : Hid _ := hK8
        clear hK8
        go_wp2
        (try simp only [Exit.inBlock, Exit.then])
        refine HK8.out _ _ ?_
        clear HK8
        refine wp_seq_k fun K10 hK10 => ?_
        have HK10 : Hid _ := hK10
        clear hK10
        have HA1 : Hid _ := hA1
        have HF1 : Hid _ := hF1
        have HM1 : Hid _ := hM1
        clear hA1 hF1 hM1
        go_wp2_with (at_builtin; refine wpList_pushZ w1 w.heap.size rfl (.tmp 37) (.tmp 42) rfl al nl cl (p : Int) LL rfl HA1.out (by omega) rfl (by omega) ?_; intro gx cx w2 hA2 hgx hg2)
        (try simp only [Exit.inBlock, Exit.then])
        refine HK10.out _ _ ?_
        clear HK10
        have xM := HM1.out.grown hg2 (fun e => by have := HA1.out.new gm e.symm; omega) (fun e => by have := HA1.out.new gc e.symm; omega)
        have xF := HF1.out.step hg2 (fun k e h => by have := HA1.out.new k e; omega)
        have xA := hA2
        clear hA2 HM1 HF1 HA1 c1
        have d0 : w2.cell? ⟨gm, 0, none⟩ = some (.slice (some ⟨gc, 0, none⟩) C'.length C'.length) := xM.box.cell 0 (by simp)
        have d1 : w2.cell? ⟨gm, 1, none⟩ = some (.int .i64 (p : Int)) := xM.box.cell 1 (by simp)
        have d2 := xM.box.free 1
        rw [HLn.out] at d0
        have hM2 : Hid (Mem (w2.setCell ⟨gm, 1, none⟩ (.int .i64 (p' : Int))).drew gm gc p' C') := (xM.nextTo p' (by rw [HLn.out]; exact hpn)).grown (grown_drew _ none) (by simp) (by simp)
        have hF2 : Hid (Fw (mB gm gc) w (w2.setCell ⟨gm, 1, none⟩ (.int .i64 (p' : Int))).drew) := (xF.step (grown_set w2 gm 1 (.int .i64 (p' : Int))) (fun k e _ => .inl (Option.some.inj e).symm)).step (grown_drew _ none) (fun k e _ => nomatch e)
        have hA2 : Hid (AnsZ (w2.setCell ⟨gm, 1, none⟩ (.int .i64 (p' : Int))).drew w.heap.size (some ⟨gx, 0, none⟩) (nl + 1) cx _) := ((xA).kept (grown_set w2 gm 1 (.int .i64 (p' : Int))) (.inr (fun e => by have := (xA).new gm e; omega))).keep (grown_drew _ none)
        clear xM xF xA
        go_region
        all_goals
          (try simp only [Exit.inBlock, Exit.then])
          refine HK18.out _ _ ?_
          go_wp2
          go_roundw
          case rel => exact ⟨j + 1, (nl + 1), cx, (some ⟨gx, 0, none⟩), by omega, by go_num, rfl, by rw [HN1.out], by rw [HP.out, ← HC'.out]; exact hM2.out, by rw [HL1.out]; exact hA2.out, hF2.out⟩
          case measure => simp [intOf]; omega
      · skip
        have e1 : (wrW y == 1) = false := by simp; omega
        have e2 : riE y = 0 := by unfold riE; rw [if_neg (by omega)]
        rw [e1, e2] at HV
        have HN1 : Hid (mgN C nx (j + 1) = s) := HN.out.trans (by rw [e1]; rfl)
        have HL1 : Hid (mgL C nx (j + 1) = LL) := HL.out.trans (by rw [if_neg (by omega)])
        clear HN HL e1 e2 hy
        refine wp_seq_k fun K17 hK17 => ?_
        have HK17 : Hid _ := hK17
        clear hK17
        go_wp2
        (try simp only [Exit.inBlock, Exit.then])
        refine HK17.out _ _ ?_
        clear HK17
        refine wp_seq_k fun K16 hK16 => ?_
        have HK16 : Hid _ := hK16
        clear hK16
        go_wp2
        (try simp only [Exit.inBlock, Exit.then])
        refine HK16.out _ _ ?_
        clear HK16
        refine wp_seq_k fun K18 hK18 => ?_
        have HK18 : Hid _ := hK18
        clear hK18
        refine wp_block ?_
        refine wp_seq_k fun K7 hK7 => ?_
        have HK7 : Hid _ := hK7
        clear hK7
        go_wp2_with (go_at_call 20; refine HV.mono ?_; rintro e w1 ⟨rfl, hM1, hG1⟩)
        (try simp only [Exit.inBlock, Exit.then])
        refine HK7.out _ _ ?_
        clear HK7
        have hA1 : AnsZ w1 w.heap.size al nl cl LL := HA.out.kept hG1 (by
          right
          intro e
          have := HA.out.new gc e
          omega)
        have hF1 : Fw (mB gm gc) w w1 := HF.out.step hG1 (fun k e _ => .inr (Option.some.inj e).symm)
        have hw1 := hG1.size
        clear HV HA HF c1 hG1
        have c1 : w1.cell? ⟨gm, 1, none⟩ = some (.int .i64 (p : Int)) := hM1.box.cell 1 (by simp)
        refine wp_seq_k fun K8 hK8 => ?_
        have HK8 : Hid _ := hK8
        clear hK8
        go_wp2
        (try simp only [Exit.inBlock, Exit.then])
        refine HK8.out _ _ ?_
        clear HK8
        refine wp_seq_k fun K10 hK10 => ?_
        have HK10 : Hid _ := hK10
        clear hK10
        go_wp2
        (try simp only [Exit.inBlock, Exit.then])
        refine HK10.out _ _ ?_
        clear HK10
        have xM := hM1
        have xF := hF1
        have xA := hA1
        clear hM1 hF1 hA1 c1
        have d0 : w1.cell? ⟨gm, 0, none⟩ = some (.slice (some ⟨gc, 0, none⟩) C'.length C'.length) := xM.box.cell 0 (by simp)
        have d1 : w1.cell? ⟨gm, 1, none⟩ = some (.int .i64 (p : Int)) := xM.box.cell 1 (by simp)
        have d2 := xM.box.free 1
        rw [HLn.out] at d0
        have hM2 : Hid (Mem (w1.setCell ⟨gm, 1, none⟩ (.int .i64 (p' : Int))).drew gm gc p' C') := (xM.nextTo p' (by rw [HLn.out]; exact hpn)).grown (grown_drew _ none) (by simp) (by simp)
        have hF2 : Hid (Fw (mB gm gc) w (w1.setCell ⟨gm, 1, none⟩ (.int .i64 (p' : Int))).drew) := (xF.step (grown_set w1 gm 1 (.int .i64 (p' : Int))) (fun k e _ => .inl (Option.some.inj e).symm)).step (grown_drew _ none) (fun k e _ => nomatch e)
        have hA2 : Hid (AnsZ (w1.setCell ⟨gm, 1, none⟩ (.int .i64 (p' : Int))).drew w.heap.size al nl cl _) := ((xA).kept (grown_set w1 gm 1 (.int .i64 (p' : Int))) (.inr (fun e => by have := (xA).new gm e; omega))).keep (grown_drew _ none)
        clear xM xF xA
        go_region
        all_goals
          (try simp only [Exit.inBlock, Exit.then])
          refine HK18.out _ _ ?_
          go_wp2
          go_roundw
          case rel => exact ⟨j + 1, nl, cl, al, by omega, by go_num, rfl, by rw [HN1.out], by rw [HP.out, ← HC'.out]; exact hM2.out, by rw [HL1.out]; exact hA2.out, hF2.out⟩
          case measure => simp [intOf]; omega
    · obtain rfl : j = n := by omega
      go_wp2
      go_ret3
      exact ⟨al, nl, cl, rfl, hM, hA, hF⟩
end

section
theorem md_no {z : Int} (h : ¬ (0 ≤ z ∧ z ≤ 549755813887)) : mdV z = 0 ∧ mdB z = false ∧ mdE z = 2 := by
  unfold mdV mdB mdE
  rw [inN_f h]
  exact ⟨rfl, rfl, rfl⟩
theorem md_ok {z : Int} (h : 0 ≤ z ∧ z ≤ 549755813887) : mdV z = gaW (riW z.toNat) 39 ∧ mdB z = (wrW z.toNat == 1) ∧ mdE z = riE z.toNat := by
  unfold mdV mdB mdE
  rw [inN_t h]
  exact ⟨if_pos rfl, Bool.true_and _, if_pos rfl⟩
theorem gaW_zero : gaW 0 39 = 0 := by
  have h : ∀ k, gaW 0 k = 0 := by
    intro k
    induction k with
    | zero => rfl
    | succ k ih =>
      unfold gaW
      rw [ih, Nat.zero_div]
      split
      · simp
      · rfl
  exact h 39
theorem odW_int (c : Nat) : (((pcN 39 c : Nat) : Int) % 2 == 1) = odW c := by
  unfold odW
  generalize pcN 39 c = p
  by_cases h : p % 2 = 1
  · rw [show ((p : Int) % 2) = 1 by omega, h]; rfl
  · rw [show ((p : Int) % 2) = 0 by omega, show p % 2 = 0 by omega]; rfl
theorem rmend_any (z : Int) (w : World) : Calls Tryd.prog 7 #[.int .i64 z] w fun e w' => e = .returned (.tuple #[.int .i64 (mdV z : Nat), .bool (mdB z), .int .i64 (mdE z : Nat)]) ∧ w' = w := by
  by_cases h : 0 ≤ z ∧ z ≤ 549755813887
  · obtain ⟨e1, e2, e3⟩ := md_ok h
    rw [e1, e2, e3]
    obtain ⟨c, rfl⟩ : ∃ n : Nat, z = n := ⟨z.toNat, by omega⟩
    rw [Int.toNat_natCast]
    have hc : c < 549755813888 := by omega
    have h39 : ((c : Int) / 549755813888) = 0 := by omega
    clear h e1 e2 e3
    have H1 := fun w => rones_any c hc w
    have ho := odW_int c
    have hx := xsW_lt c 39 (by omega)
    have hy := pcN_le 39 c
    generalize pcN 39 c = y at H1 ho hy
    cases hb : odW c
    · rw [hb] at ho
      by_cases h0 : xsW c 39 = 0
      · obtain ⟨e1, e2, e3⟩ := ri_0 hb h0
        rw [e1, e2, e3]
        rw [h0] at H1
        clear hx hb h0 e1 e2 e3
        go_enter Tryd.func7, Tryd.ntmps7
        go_wp2_with (go_at_call 17; refine (H1 _).mono ?_; rintro e w' ⟨rfl, rfl⟩)
        go_loop [8, 9, 10] (fun nv bv i => ∃ k t s : Nat, k ≤ 39 ∧ i = .int .i64 k ∧ bv = .int .i64 t ∧ nv = .int .i64 s ∧ t ≤ 32 ∧ Hid (t = cntW k) ∧ Hid (s = gaW c k)) (fun _ _ i => 39 - (intOf i).toNat)
        case atStart => exact ⟨1, 0, 0, by omega, rfl, rfl, rfl, by omega, rfl, rfl⟩
        case round =>
          obtain ⟨k, t, s, hk, rfl, rfl, rfl, htl, ht, hs⟩ := hrel
          by_cases hlt : k < 39
          · have HW := isW_num k hlt
            have hs63 : s < 2 ^ 63 := by rw [hs.out]; exact lt63 (gaW_lt c k) (by rw [← ht.out]; omega)
            have hb := bit_at c k t (by omega) (by omega)
            have ho := i64_or_nat s ((c / 2 ^ k % 2) <<< t) hs63 (lt63 (shl_ltM (c / 2 ^ k) t 40 (by omega)) (by decide))
            have HY := ga_yes c k
            have HN := ga_no c k
            have hl1 := cntW_le (k + 1) (by omega)
            rw [← ht.out, ← hs.out] at HY HN
            generalize (c / 2 ^ k % 2) <<< t = q at hb ho HY
            generalize s ||| q = s' at ho HY
            cases hw : isW k
            · rw [hw] at HW
              have HN : Hid _ := HN hw
              clear hb ho HY hl1 hw
              go_wp2
              go_round
              case rel => exact ⟨k + 1, t, s, by omega, by go_num, rfl, rfl, htl, HN.out.1.symm, HN.out.2.symm⟩
              case measure => simp [intOf]; omega
            · rw [hw] at HW
              have hl2 : t + 1 ≤ 32 := by rw [← (HY hw).1]; exact hl1
              have HY : Hid _ := HY hw
              clear HN hl1 hw
              go_wp2
              go_round
              case rel => exact ⟨k + 1, t + 1, s', by omega, by go_num, by go_num, rfl, hl2, HY.out.1.symm, HY.out.2.symm⟩
              case measure => simp [intOf]; omega
          · obtain rfl : k = 39 := by omega
            go_wp2
            go_ret3
            exact ⟨by rw [← hs.out]; rfl, rfl⟩
      · obtain ⟨e1, e2, e3⟩ := ri_2 hb h0
        rw [e1, e2, e3, gaW_zero]
        clear e1 e2 e3 hb
        generalize xsW c 39 = s at H1 hx h0
        have hz : ((s : Int) == 0) = false := by simp; omega
        go_enter Tryd.func7, Tryd.ntmps7
        go_wp2_with (go_at_call 17; refine (H1 _).mono ?_; rintro e w' ⟨rfl, rfl⟩)
        go_ret3
        exact ⟨rfl, rfl⟩
    · rw [hb] at ho
      by_cases h0 : xsW c 39 < 39
      · have hrl := riW_lt c hc
        obtain ⟨e1, e2, e3⟩ := ri_1 hb h0
        rw [e1] at hrl
        rw [e1, e2, e3]
        clear e1 e2 e3 hb
        generalize xsW c 39 = s at H1 hx h0 hrl ⊢
        have e1 := shl_one s h0
        have e2 : 1 <<< s < 2 ^ 63 := by
          rw [Nat.shiftLeft_eq, Nat.one_mul]
          exact Nat.pow_lt_pow_right (by decide) (by omega)
        have e3 := i64_xor_nat c (1 <<< s) (by omega) e2
        rw [← e1] at e3
        generalize c ^^^ 1 <<< s = r at e3 hrl ⊢
        clear e1 e2
        go_enter Tryd.func7, Tryd.ntmps7
        go_wp2_with (go_at_call 17; refine (H1 _).mono ?_; rintro e w' ⟨rfl, rfl⟩)
        go_loop [8, 9, 10] (fun nv bv i => ∃ k t s : Nat, k ≤ 39 ∧ i = .int .i64 k ∧ bv = .int .i64 t ∧ nv = .int .i64 s ∧ t ≤ 32 ∧ Hid (t = cntW k) ∧ Hid (s = gaW r k)) (fun _ _ i => 39 - (intOf i).toNat)
        case atStart => exact ⟨1, 0, 0, by omega, rfl, rfl, rfl, by omega, rfl, rfl⟩
        case round =>
          obtain ⟨k, t, s, hk, rfl, rfl, rfl, htl, ht, hs⟩ := hrel
          by_cases hlt : k < 39
          · have HW := isW_num k hlt
            have hs63 : s < 2 ^ 63 := by rw [hs.out]; exact lt63 (gaW_lt r k) (by rw [← ht.out]; omega)
            have hb := bit_at r k t (by omega) (by omega)
            have ho := i64_or_nat s ((r / 2 ^ k % 2) <<< t) hs63 (lt63 (shl_ltM (r / 2 ^ k) t 40 (by omega)) (by decide))
            have HY := ga_yes r k
            have HN := ga_no r k
            have hl1 := cntW_le (k + 1) (by omega)
            rw [← ht.out, ← hs.out] at HY HN
            generalize (r / 2 ^ k % 2) <<< t = q at hb ho HY
            generalize s ||| q = s' at ho HY
            cases hw : isW k
            · rw [hw] at HW
              have HN : Hid _ := HN hw
              clear hb ho HY hl1 hw
              go_wp2
              go_round
              case rel => exact ⟨k + 1, t, s, by omega, by go_num, rfl, rfl, htl, HN.out.1.symm, HN.out.2.symm⟩
              case measure => simp [intOf]; omega
            · rw [hw] at HW
              have hl2 : t + 1 ≤ 32 := by rw [← (HY hw).1]; exact hl1
              have HY : Hid _ := HY hw
              clear HN hl1 hw
              go_wp2
              go_round
              case rel => exact ⟨k + 1, t + 1, s', by omega, by go_num, by go_num, rfl, hl2, HY.out.1.symm, HY.out.2.symm⟩
              case measure => simp [intOf]; omega
          · obtain rfl : k = 39 := by omega
            go_wp2
            go_ret3
            exact ⟨by rw [← hs.out]; rfl, rfl⟩
      · obtain ⟨e1, e2, e3⟩ := ri_3 hb h0
        rw [e1, e2, e3, gaW_zero]
        clear e1 e2 e3 hb
        generalize xsW c 39 = s at H1 hx h0
        have hz : ¬ ((s : Int) < 39) := by omega
        go_enter Tryd.func7, Tryd.ntmps7
        go_wp2_with (go_at_call 17; refine (H1 _).mono ?_; rintro e w' ⟨rfl, rfl⟩)
        go_ret3
        exact ⟨rfl, rfl⟩
  · obtain ⟨e1, e2, e3⟩ := md_no h
    rw [e1, e2, e3]
    by_cases h1 : z < 0
    · go_enter Tryd.func7, Tryd.ntmps7
      go_wp2
      go_ret3
      exact ⟨rfl, rfl⟩
    · have h2 : (z / 549755813888 == 0) = false := by simp; omega
      go_enter Tryd.func7, Tryd.ntmps7
      go_wp2
      go_ret3
      exact ⟨rfl, rfl⟩
end

section
theorem Ans.set {w : World} {lo g n cap : Nat} {L : List Nat} (h : Ans w lo (some ⟨g, 0, none⟩) n cap L) (j x : Nat) (hx : x < 256) : Ans (w.setCell ⟨g, j, none⟩ (.int .u8 (x : Int))) lo (some ⟨g, 0, none⟩) n cap (L.set j x) :=
  ⟨own_set h.own j x, isB_set h.byte _ _ hx, h.new⟩
theorem Ans.wide {w : World} {lo lo' : Nat} {a : Option Addr} {n cap : Nat} {L : List Nat} (h : Ans w lo a n cap L) (hl : lo' ≤ lo) : Ans w lo' a n cap L := ⟨h.own, h.byte, fun g hg => Nat.le_trans hl (h.new g hg)⟩
end

section
theorem xor4KxTm : ∀ a b c d : Nat, a < 2 → b < 2 → c < 2 → d < 2 → ((a ^^^ b) ^^^ c) ^^^ d = (a + b + c + d) % 2 := by
  intro a b c d ha hb hc hd
  have e : ∀ a, a < 2 → ∀ b, b < 2 → ∀ c, c < 2 → ∀ d, d < 2 → ((a ^^^ b) ^^^ c) ^^^ d = (a + b + c + d) % 2 := by decide
  exact e a ha b hb c hc d hd

/-! the program's row -/
/-! lists that are told by their places -/
/-- the block that an answer may be written into: the one that it had at first, or a new one -/
def Mine (w0 : World) (r : Option Nat) (ao : Option Addr) (m co : Nat) : Prop := ∀ g, (Value.slice ao m co).ownBlock = some g → r = some g ∨ w0.heap.size ≤ g
end

section
open Go.RowKit Go.Shelf
attribute [local go_sem] Oper.semAt_some

/-- the blocks that p names lie as they lay -/
def KeepB (p : Nat → Prop) (W W' : World) : Prop := ∀ k, p k → W'.heap[k]? = W.heap[k]?
theorem KeepB.refl (p : Nat → Prop) (W : World) : KeepB p W W := fun _ _ => rfl
theorem KeepB.trans {p : Nat → Prop} {A B C : World} (h : KeepB p A B) (k : KeepB p B C) : KeepB p A C := fun i hi => (k i hi).trans (h i hi)
theorem KeepB.cell {p : Nat → Prop} {W W' : World} (h : KeepB p W W') {a : Addr} (ha : p a.block) : W'.cell? a = W.cell? a := World.cell?_of_block (h _ ha)
theorem KeepB.put {p : Nat → Prop} {w : World} (hp : ∀ k, p k → k < w.heap.size) (W : World) (l : Nat) (o o' : Obj) (hl : w.heap.size ≤ l) (_ : W.heap[l]? = some o) (_ : o.isCells = false) (_ : o.isWalk = false) : KeepB p W (W.putObj l o') :=
  fun k hk => World.putObj_heap_other (by have := hp k hk; omega)
end

section
open Go.RowKit Go.Shelf
attribute [local go_sem] Oper.semAt_some

theorem row_from {W W' : World} {row : Option Nat} {base e size n k : Nat} {v : Value} {xs : List Value} (h : W.ownsRow base e size v n xs) (hg : W.grownBy W' row) (hr : ∀ r, row = some r → k ≤ r ∧ ∃ o : Obj, W.heap[r]? = some o ∧ o.isCells = false) : W'.ownsRow base e size v n xs := by
  refine h.kept hg ?_
  rcases h.2 with ⟨rfl, _⟩ | ⟨g, cap, cur, rfl, _, hgb, _⟩
  · exact .inl rfl
  · refine .inr fun e' => ?_
    obtain ⟨_, o, ho, hc⟩ := hr g e'.symm
    rw [hgb] at ho; cases ho; cases hc
end

section
/-! one who listens, in memory -/
def syA (L F H M k : Nat) (lk : Bool) (tk la p : Nat) (tu : Bool) (mi : Nat) (d : Value) : Array Value :=
  #[.int .i64 L, .int .i64 F, .int .i64 H, .int .i64 M, .func (.func k) #[] #[], .bool lk, .int .i64 tk, .int .u64 la, .int .i64 p, .bool tu, .int .i64 mi, d]
end

section
open Go.RowKit Go.Shelf

/-! what is found -/
structure Fv where
  p : Nat
  tu : Bool
  mi : Nat
  a : Option Addr
  n : Nat
  D : List Nat
def cellsF (f : Fv) : List Value := [.int .i64 f.p, .bool f.tu, .int .i64 f.mi, .slice f.a f.n f.n]
def flatF (fs : List Fv) : List Value := fs.flatMap cellsF
/-- all blocks but those that p names lie as they lay -/
structure Frm (p : Nat → Prop) (w w' : World) : Prop where
  os : w'.os = w.os
  tape : w'.tape = w.tape
  output : w'.output = w.output
  size : w.heap.size ≤ w'.heap.size
  block : ∀ k, k < w.heap.size → ¬ p k → w'.heap[k]? = w.heap[k]?
theorem Frm.refl (p : Nat → Prop) (w : World) : Frm p w w := ⟨rfl, rfl, rfl, Nat.le_refl _, fun _ _ _ => rfl⟩
theorem Frm.of {p : Nat → Prop} {w w' : World} {r : Option Nat} (h : w.grownBy w' r) (hr : ∀ k, r = some k → k < w.heap.size → p k) : Frm p w w' :=
  ⟨h.os, h.tape, h.output, h.size, fun k hk hn => h.block k hk (fun e => hn (hr k e.symm hk))⟩
theorem Frm.trans {p q : Nat → Prop} {a b c : World} (h : Frm p a b) (k : Frm q b c) (hq : ∀ i, i < a.heap.size → q i → p i) : Frm p a c :=
  ⟨k.os.trans h.os, k.tape.trans h.tape, k.output.trans h.output, Nat.le_trans h.size k.size, fun i hi hn => (k.block i (Nat.lt_of_lt_of_le hi h.size) (fun e => hn (hq i hi e))).trans (h.block i hi hn)⟩
theorem Frm.weak {p q : Nat → Prop} {a b : World} (h : Frm p a b) (hq : ∀ i, i < a.heap.size → p i → q i) : Frm q a b := ⟨h.os, h.tape, h.output, h.size, fun i hi hn => h.block i hi (fun e => hn (hq i hi e))⟩
end

section
open Go.RowKit Go.Shelf

/-- the frames that were told lie in memory, apart from what is gathered -/
def FdOk (w : World) (dv : Value) (fs : List Fv) : Prop := ∀ f, f ∈ fs → Ans w 0 f.a f.n f.n f.D ∧ ((Value.slice f.a f.n f.n).ownBlock = none ∨ (Value.slice f.a f.n f.n).ownBlock ≠ dv.ownBlock)
theorem box_frm {w w' : World} {p : Nat → Prop} {B : Nat} {t : TypeId} {v : Value} (h : Boxed w B t v) (hF : Frm p w w') (hn : ¬ p B) : Boxed w' B t v := (hF.block B h.lt hn).trans h
theorem row_frm {w w' : World} {p : Nat → Prop} {base e sz n : Nat} {v : Value} {xs : List Value} (h : w.ownsRow base e sz v n xs) (hF : Frm p w w') (hn : ∀ x, v.ownBlock = some x → ¬ p x) : w'.ownsRow base e sz v n xs := by
  refine ⟨h.1, ?_⟩
  rcases h.2 with h2 | ⟨g, cap, cur, rfl, h4, h5, h6⟩
  · exact .inl h2
  · exact .inr ⟨g, cap, cur, rfl, h4, (hF.block g (Array.getElem?_eq_some_iff.1 h5).1 (hn g rfl)).trans h5, h6⟩
theorem row_lt {w : World} {base e sz n x : Nat} {v : Value} {xs : List Value} (h : w.ownsRow base e sz v n xs) (hx : v.ownBlock = some x) : x < w.heap.size ∧ ∃ cur, w.heap[x]? = some (.cells cur e) := by
  rcases h.2 with ⟨rfl, _⟩ | ⟨g, cap, cur, rfl, h4, h5, h6⟩
  · simp [Value.ownBlock] at hx
  · have e : g = x := Option.some.inj hx
    subst e
    exact ⟨(Array.getElem?_eq_some_iff.1 h5).1, cur, h5⟩
theorem cells_ne {w : World} {x : Nat} {A B : Array Value} {t u : TypeId} (h : w.heap[x]? = some (.cells A t)) (k : w.heap[x]? = some (.cells B u)) (hne : t ≠ u) : False := by
  rw [h] at k; cases k; exact hne rfl
theorem Ans.frm {w w' : World} {p : Nat → Prop} {lo n c : Nat} {a : Option Addr} {L : List Nat} (h : Ans w lo a n c L) (hF : Frm p w w') (hn : ∀ x, (Value.slice a n c).ownBlock = some x → ¬ p x) : Ans w' lo a n c L := ⟨row_frm h.own hF hn, h.byte, h.new⟩
end
end Go.Proofs.YtgnicopijocnjaaDoor
