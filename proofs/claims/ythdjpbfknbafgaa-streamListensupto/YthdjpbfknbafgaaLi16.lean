import Derived.Deep.LoopGhost
import Derived.Test.YthdjpbfknbafgaaLi15
import Derived.Test.YthdjpbfknbafgaaLi0
import Derived.Test.YthdjpbfknbafgaaLi11
namespace Go.Proofs.Ythdjpbfknbafgaa
open Go.RowKit
set_option maxRecDepth 100000
set_option linter.unusedVariables false
set_option linter.unusedSimpArgs false

section
open Go.RowKit Go.Shelf
attribute [local go_sem] Oper.semAt_some

/-- copies with room behind them, one for each piece -/
def EaR (W : World) (lo : Nat) (V : List Value) (Ps : List (List Nat)) : Prop := ∀ (j : Nat) v B, V[j]? = some v → Ps[j]? = some B → ∃ g D, v = .slice (some ⟨g, 0, none⟩) B.length (B.length + 5) ∧ lo ≤ g ∧ Roomy W g B.length B D
theorem Roomy.step {w w' : World} {g n k : Nat} {L D : List Nat} {v : Value} {xs : List Value} (h : Roomy w g n L D) (hg : w.grownBy w' v.ownBlock) (hv : w.ownsRow 0 25 1 v k xs) : Roomy w' g n L D :=
  h.grown hg (fun e => by
    obtain ⟨_, cs, e2⟩ := row_lt hv e.symm
    exact cells_ne e2 h.blk (by decide))
theorem EaR.step {w w' : World} {lo k : Nat} {V : List Value} {Ps : List (List Nat)} {v : Value} {xs : List Value} (h : EaR w lo V Ps) (hg : w.grownBy w' v.ownBlock) (hv : w.ownsRow 0 25 1 v k xs) : EaR w' lo V Ps := fun j u B h1 h2 => by
  obtain ⟨g, D, e, hl, hr⟩ := h j u B h1 h2
  exact ⟨g, D, e, hl, hr.step hg hv⟩
theorem EaR.keep {w w' : World} {lo : Nat} {V : List Value} {Ps : List (List Nat)} (h : EaR w lo V Ps) (hg : w.grownBy w' none) : EaR w' lo V Ps := fun j u B h1 h2 => by
  obtain ⟨g, D, e, hl, hr⟩ := h j u B h1 h2
  exact ⟨g, D, e, hl, hr.keep hg⟩
set_option maxHeartbeats 16000000 in
theorem sl_2 {u0 u3 u4 u6 u7 u8 u9 u10 u11 u12 u13 u14 u15 u16 u17 u18 u19 u20 u21 u22 u23 u24 u25 u26 u27 u28 u29 u30 u31 u32 u33 u34 u35 u36 u37 u38 u39 u40 u41 u42 u43 u44 u45 u46 u47 u48 u49 u50 u51 u52 u53 u54 u55 u56 u57 u58 u59 u60 u61 u62 u63 u64 u65 u66 u67 u68 u69 u70 u71 u72 u73 u74 u75 u76 u77 u78 u79 u80 u81 u82 u83 u84 u85 u86 u87 u88 u89 u90 u91 u92 u93 u94 u95 u96 u97 u98 u99 u100 u101 u102 u103 u104 u105 u106 u107 u108 u109 u110 u111 u112 u113 u114 u115 u116 u117 u118 u119 u120 u121 u122 u123 u124 : Value} {Q : Exit → Act → World → Prop} (w : World) (gR np cp : Nat) (ap : Option Addr) (Ps : List (List Nat)) (hP : RdPs w ap np cp Ps) (hnp : np ≤ 4000000000000) (hm : ∀ B, B ∈ Ps → B.length ≤ 4194304)
    (hQ : ∀ a5 c5 V W {z6 z17 z18 z19 z20 z21 z22 z23 z24 z25 z26 z27 z28 z29 z30 : Value}, AnsX 25 W w.heap.size a5 np c5 V → EaR W w.heap.size V Ps → Frm (fun _ => False) w W → Code.wp Try.prog (tailR 6 (Try.f3.body.getD .skip)) Q (Act.mk (List.toArray (u0 :: (.slice ap np cp) :: (.pointer (some ⟨gR, 0, none⟩)) :: u3 :: u4 :: (.slice a5 np c5) :: z6 :: u7 :: u8 :: u9 :: u10 :: u11 :: u12 :: u13 :: u14 :: u15 :: u16 :: z17 :: z18 :: z19 :: z20 :: z21 :: z22 :: z23 :: z24 :: z25 :: z26 :: z27 :: z28 :: z29 :: z30 :: u31 :: u32 :: u33 :: u34 :: u35 :: u36 :: u37 :: u38 :: u39 :: u40 :: u41 :: u42 :: u43 :: u44 :: u45 :: u46 :: u47 :: u48 :: u49 :: u50 :: u51 :: u52 :: u53 :: u54 :: u55 :: u56 :: u57 :: u58 :: u59 :: u60 :: u61 :: u62 :: u63 :: u64 :: u65 :: u66 :: u67 :: u68 :: u69 :: u70 :: u71 :: u72 :: u73 :: u74 :: u75 :: u76 :: u77 :: u78 :: u79 :: u80 :: u81 :: u82 :: u83 :: u84 :: u85 :: u86 :: u87 :: u88 :: u89 :: u90 :: u91 :: u92 :: u93 :: u94 :: u95 :: u96 :: u97 :: u98 :: u99 :: u100 :: u101 :: u102 :: u103 :: u104 :: u105 :: u106 :: u107 :: u108 :: u109 :: u110 :: u111 :: u112 :: u113 :: u114 :: u115 :: u116 :: u117 :: u118 :: u119 :: u120 :: u121 :: u122 :: u123 :: u124 :: [])) []) W) :
    Code.wp Try.prog (tailR 2 (Try.f3.body.getD .skip)) Q (Act.mk (List.toArray (u0 :: (.slice ap np cp) :: (.pointer (some ⟨gR, 0, none⟩)) :: u3 :: u4 :: (.slice none 0 0) :: u6 :: u7 :: u8 :: u9 :: u10 :: u11 :: u12 :: u13 :: u14 :: u15 :: u16 :: u17 :: u18 :: u19 :: u20 :: u21 :: u22 :: u23 :: u24 :: u25 :: u26 :: u27 :: u28 :: u29 :: u30 :: u31 :: u32 :: u33 :: u34 :: u35 :: u36 :: u37 :: u38 :: u39 :: u40 :: u41 :: u42 :: u43 :: u44 :: u45 :: u46 :: u47 :: u48 :: u49 :: u50 :: u51 :: u52 :: u53 :: u54 :: u55 :: u56 :: u57 :: u58 :: u59 :: u60 :: u61 :: u62 :: u63 :: u64 :: u65 :: u66 :: u67 :: u68 :: u69 :: u70 :: u71 :: u72 :: u73 :: u74 :: u75 :: u76 :: u77 :: u78 :: u79 :: u80 :: u81 :: u82 :: u83 :: u84 :: u85 :: u86 :: u87 :: u88 :: u89 :: u90 :: u91 :: u92 :: u93 :: u94 :: u95 :: u96 :: u97 :: u98 :: u99 :: u100 :: u101 :: u102 :: u103 :: u104 :: u105 :: u106 :: u107 :: u108 :: u109 :: u110 :: u111 :: u112 :: u113 :: u114 :: u115 :: u116 :: u117 :: u118 :: u119 :: u120 :: u121 :: u122 :: u123 :: u124 :: [])) []) w := by
  have HQ : Hid _ := @hQ
  clear hQ
  have HP : Hid _ := hP
  have hpl := hP.len
  clear hP
  conv => enter [2]; whnf
  refine wp_seq_k fun K2 hK2 => ?_
  have HK2 : Hid _ := hK2
  clear hK2
  go_wp2
  go_loopw [5, 6] (fun v iv wr => ∃ (i : Nat) (a5 : Option Addr) (c5 : Nat) (V : List Value), v = .slice a5 i c5 ∧ iv = .int .i64 (i : Nat) ∧ i ≤ np ∧ AnsX 25 wr w.heap.size a5 i c5 V ∧ EaR wr w.heap.size V Ps ∧ Frm (fun _ => False) w wr) (fun _ iv _ => np - (intOf iv).toNat)
  case atStart => exact ⟨0, none, 0, [], rfl, rfl, Nat.zero_le _, AnsX.nil0 _ _ _, (fun j v B h => by cases h), Frm.refl _ _⟩
  case round =>
    obtain ⟨i, a5, c5, V, rfl, rfl, hi, hX, hEA, Fr⟩ := hrel
    by_cases hlt : i < np
    · obtain ⟨bp, po, rfl, hc⟩ := HP.out.at' (by omega)
      obtain ⟨B, hB⟩ : ∃ B, Ps[i]? = some B := ⟨_, List.getElem?_eq_getElem (by omega)⟩
      obtain ⟨a, m, cap, cI, hR⟩ := hc i B hB
      have hml := hm B (List.mem_of_getElem? hB)
      have hlen := hR.len
      have hcW := cell_frm cI Fr (fun h => h)
      have hRW := Rd.keepF (p := fun _ => False) hR Fr
      have hlt' : (i : Int) < (np : Int) := by omega
      have hw0 := Fr.size
      have hVl := hX.len
      have HX : Hid _ := hX
      have HEA : Hid _ := hEA
      have HFR : Hid _ := Fr
      have HB : Hid _ := hB
      have HLB : Hid _ := hlen
      have HVL : Hid _ := hVl
      have hmm : m ≤ 4194304 := by omega
      clear hX hEA Fr hB hc cI hR hlen hVl hpl hml
      refine wp_seq_k fun K3 hK3 => ?_
      have HK3 : Hid _ := hK3
      clear hK3
      go_wp2
      (try simp only [Exit.inBlock, Exit.then])
      refine HK3.out _ _ ?_
      clear HK3
      refine wp_seq_k fun K4 hK4 => ?_
      have HK4 : Hid _ := hK4
      clear hK4
      refine wp_block ?_
      go_wp2_with (first
        | (go_at_call 7; refine (roomy_any a m cap B wr hRW (by omega)).mono ?_; rintro e w1 ⟨rfl, ⟨D, hD⟩, g1⟩; have HD : Hid _ := hD; clear hD; have gA := World.grownBy_alloc w1 (.cells #[.slice (some ⟨wr.heap.size, 0, none⟩) m (m + 5)] 25) none; have OB := heap_alloc_new w1 (.cells #[.slice (some ⟨wr.heap.size, 0, none⟩) m (m + 5)] 25); have hX1 := AnsX.keep (AnsX.keep HX.out g1) gA; have hz1 := g1.size; have hz2 := gA.size; have t1 : True := trivial)
        | (have _t := t1; clear t1; refine wpList_psR _ Try.underlying24 Try.inf_sb rfl (by decide) (.slice (some ⟨wr.heap.size, 0, none⟩) m (m + 5)) rfl rfl _ _ rfl a5 i c5 w.heap.size V rfl hX1 (by omega) w1.heap.size rfl (cell_of_row _ _ 0 _ _ _ OB) (by omega) ?_; intro g8 d8 w6 hX6 g6 hx6))
      (try simp only [Exit.inBlock, Exit.then])
      (try simp only [Exit.inBlock, Exit.then])
      refine HK4.out _ _ ?_
      clear HK4
      have HH : Hid (AnsX 25 w6 w.heap.size (some ⟨g8, 0, none⟩) (i + 1) d8 (V ++ [.slice (some ⟨wr.heap.size, 0, none⟩) m (m + 5)]) ∧ EaR w6 w.heap.size (V ++ [.slice (some ⟨wr.heap.size, 0, none⟩) m (m + 5)]) Ps ∧ Frm (fun _ => False) w w6) := by
        have hmB := HLB.out
        have hVl := HVL.out
        have FA : Frm (fun _ => False) wr _ := Frm.of (grown_trans g1 gA) (fun k e _ => by cases e)
        refine ⟨hX6, fun j v B' h1 h2 => ?_, (HFR.out.trans FA (fun _ _ h => h)).trans (Frm.of (p := fun x => (Value.slice a5 i c5).ownBlock = some x) g6 (fun k e _ => e)) (fun k hk h => by have := hX1.new k h; omega)⟩
        by_cases hj : j < V.length
        · rw [List.getElem?_append_left hj] at h1
          exact (EaR.step (EaR.keep (EaR.keep (HEA.out : EaR wr w.heap.size V Ps) g1) gA) g6 hX1.own) j v B' h1 h2
        · rw [List.getElem?_append_right (by omega)] at h1
          have hj0 : j - V.length = 0 := by
            have := (List.getElem?_eq_some_iff.1 h1).1
            simp at this
            omega
          rw [hj0] at h1
          have e := Option.some.inj h1
          have hji : j = i := by omega
          subst hji
          rw [HB.out] at h2
          cases h2
          subst e
          rw [hmB]
          exact ⟨_, D, rfl, hw0, (HD.out.keep gA).step g6 hX1.own⟩
      clear hX6 g6 hx6 hX1 OB gA g1 HD hz2
      go_wp2
      go_roundw
      case rel => exact ⟨i + 1, _, _, _, rfl, by go_num, by omega, HH.out.1, HH.out.2.1, HH.out.2.2⟩
      case measure => simp [intOf]; omega
    · obtain rfl : i = np := by omega
      have hge : ¬ (i : Int) < (i : Int) := by omega
      have HX : Hid _ := hX
      have HEA : Hid _ := hEA
      have HFR : Hid _ := Fr
      clear hX hEA Fr
      go_wp2
      (try simp only [Exit.inBlock, Exit.then])
      (try simp only [Exit.inBlock, Exit.then])
      refine HK2.out _ _ ?_
      clear HK2
      exact HQ.out _ _ V _ HX.out HEA.out HFR.out
end

section
open Go.RowKit Go.Shelf
attribute [local go_sem] Oper.semAt_some

theorem ruE_ok {L F H M : Int} (h : ruE L F H M = 0) : (1 ≤ L ∧ L ≤ 2048) ∧ (0 ≤ F ∧ F ≤ 8) ∧ (0 ≤ H ∧ H ≤ 12) ∧ (0 ≤ M ∧ M ≤ 8) := by
  unfold ruE at h
  split at h
  · cases h
  · split at h
    · rename_i h1 h2
      exact ⟨by omega, h2⟩
    · cases h
end

section
open Go.RowKit Go.Shelf

set_option maxHeartbeats 2000000 in
theorem ruled_any (L F H M : Int) (w : World) : Calls Try.prog 9 #[ruZ L F H M] w fun e w' => e = .returned (.int .i64 (ruE L F H M : Nat)) ∧ w.grownBy w' none := by
  unfold ruZ
  have gA := World.grownBy_alloc w (.cells #[.int .i64 L, .int .i64 F, .int .i64 H, .int .i64 M] 23) none
  by_cases l1 : L < 1
  · have e : ruE L F H M = 1 := by unfold ruE; rw [if_pos (.inl l1)]
    rw [e]
    have d0 : decide (L < 1) = true := decide_eq_true l1
    clear e
    go_enter Try.func9, Try.ntmps9
    go_wp2
    go_ret
    exact ⟨rfl, gA⟩
  have d0 : decide (L < 1) = false := decide_eq_false l1
  by_cases l2 : 2048 < L
  · have e : ruE L F H M = 1 := by unfold ruE; rw [if_pos (.inr l2)]
    rw [e]
    have d1 : decide (2048 < L) = true := decide_eq_true l2
    clear e
    go_enter Try.func9, Try.ntmps9
    go_wp2
    go_ret
    exact ⟨rfl, gA⟩
  have d1 : decide (2048 < L) = false := decide_eq_false l2
  by_cases c0 : F < 0
  · have e : ruE L F H M = 2 := by unfold ruE; rw [if_neg (by omega), if_neg (by omega)]
    rw [e]
    have k0 : decide (F < 0) = true := decide_eq_true c0
    clear e
    go_enter Try.func9, Try.ntmps9
    go_wp2
    go_ret
    exact ⟨rfl, gA⟩
  have k0 : decide (F < 0) = false := decide_eq_false c0
  by_cases c1 : 8 < F
  · have e : ruE L F H M = 2 := by unfold ruE; rw [if_neg (by omega), if_neg (by omega)]
    rw [e]
    have k1 : decide (8 < F) = true := decide_eq_true c1
    clear e
    go_enter Try.func9, Try.ntmps9
    go_wp2
    go_ret
    exact ⟨rfl, gA⟩
  have k1 : decide (8 < F) = false := decide_eq_false c1
  by_cases c2 : H < 0
  · have e : ruE L F H M = 2 := by unfold ruE; rw [if_neg (by omega), if_neg (by omega)]
    rw [e]
    have k2 : decide (H < 0) = true := decide_eq_true c2
    clear e
    go_enter Try.func9, Try.ntmps9
    go_wp2
    go_ret
    exact ⟨rfl, gA⟩
  have k2 : decide (H < 0) = false := decide_eq_false c2
  by_cases c3 : 12 < H
  · have e : ruE L F H M = 2 := by unfold ruE; rw [if_neg (by omega), if_neg (by omega)]
    rw [e]
    have k3 : decide (12 < H) = true := decide_eq_true c3
    clear e
    go_enter Try.func9, Try.ntmps9
    go_wp2
    go_ret
    exact ⟨rfl, gA⟩
  have k3 : decide (12 < H) = false := decide_eq_false c3
  by_cases c4 : M < 0
  · have e : ruE L F H M = 2 := by unfold ruE; rw [if_neg (by omega), if_neg (by omega)]
    rw [e]
    have k4 : decide (M < 0) = true := decide_eq_true c4
    clear e
    go_enter Try.func9, Try.ntmps9
    go_wp2
    go_ret
    exact ⟨rfl, gA⟩
  have k4 : decide (M < 0) = false := decide_eq_false c4
  by_cases c5 : 8 < M
  · have e : ruE L F H M = 2 := by unfold ruE; rw [if_neg (by omega), if_neg (by omega)]
    rw [e]
    have k5 : decide (8 < M) = true := decide_eq_true c5
    clear e
    go_enter Try.func9, Try.ntmps9
    go_wp2
    go_ret
    exact ⟨rfl, gA⟩
  have k5 : decide (8 < M) = false := decide_eq_false c5
  have e : ruE L F H M = 0 := by unfold ruE; rw [if_neg (by omega), if_pos (by omega)]
  rw [e]
  clear e
  go_enter Try.func9, Try.ntmps9
  go_wp2
  go_ret
  exact ⟨rfl, gA⟩
end

section
open Go.RowKit Go.Shelf
attribute [local go_sem] Oper.semAt_some

theorem ruE_good {L F H M : Int} (h1 : 1 ≤ L ∧ L ≤ 2048) (h2 : 0 ≤ F ∧ F ≤ 8) (h3 : 0 ≤ H ∧ H ≤ 12) (h4 : 0 ≤ M ∧ M ≤ 8) : ruE L F H M = 0 := by
  unfold ruE
  repeat' split
  all_goals first | rfl | omega
theorem LsA.keep {w w' w2 : World} {np : Nat} {a4 a5 a6 : Option Addr} {c4 c5 c6 : Nat} {Ts : List (List Fa)} {Bs : List Bool} (h : LsA w w' np a4 a5 a6 c4 c5 c6 Ts Bs) (hg : w'.grownBy w2 none) : LsA w w2 np a4 a5 a6 c4 c5 c6 Ts Bs := by
  have F : Frm (fun _ => False) w' w2 := Frm.of hg (fun k e _ => by cases e)
  obtain ⟨⟨V, h1, dv, h2⟩, ⟨V', h3, dv', h4⟩, h5⟩ := h
  exact ⟨⟨V, h1.keep hg, dv, h2.frm F (fun k h _ => h.elim)⟩, ⟨V', h3.keep hg, dv', h4.frm F (fun k h _ => h.elim)⟩, h5.keep hg⟩

set_option maxHeartbeats 16000000 in
theorem sl_6b {u0 u3 u4 u6 u7 u8 u9 u10 u11 u12 u13 u14 u15 u16 u17 u18 u19 u20 u21 u22 u23 u24 u25 u26 u27 u28 u29 u30 u31 u32 u33 u34 u35 u36 u37 u38 u39 u40 u41 u42 u43 u44 u45 u46 u47 u48 u49 u50 u51 u52 u53 u54 u55 u56 u57 u58 u59 u60 u61 u62 u63 u64 u65 u66 u67 u68 u69 u70 u71 u72 u73 u74 u75 u76 u77 u78 u79 u80 u81 u82 u83 u84 u85 u86 u87 u88 u89 u90 u91 u92 u93 u94 u95 u96 u97 u98 u99 u100 u101 u102 u103 u104 u105 u106 u107 u108 u109 u110 u111 u112 u113 u114 u115 u116 u117 u118 u119 u120 u121 u122 u123 u124 : Value} {Q : Exit → Act → World → Prop} (W : World) (gR np cp c5 : Nat) (ap a5 : Option Addr) (L0 F0 H0 M0 : Int) (b : BxS W gR 23 #[.int .i64 L0, .int .i64 F0, .int .i64 H0, .int .i64 M0]) (hbad : ruE L0 F0 H0 M0 ≠ 0)
    (hQ : ∀ W' {z7 z8 z9 z10 z11 z31 z32 z33 z34 z35 z36 z37 z38 z39 z40 z41 z42 z43 z44 z45 : Value}, W.grownBy W' none → Q .ret (Act.mk (List.toArray (u0 :: (.slice ap np cp) :: (.pointer (some ⟨gR, 0, none⟩)) :: u3 :: (.bool true) :: (.slice a5 np c5) :: u6 :: z7 :: z8 :: z9 :: z10 :: z11 :: u12 :: u13 :: u14 :: u15 :: u16 :: u17 :: u18 :: u19 :: u20 :: u21 :: u22 :: u23 :: u24 :: u25 :: u26 :: u27 :: u28 :: u29 :: u30 :: z31 :: z32 :: z33 :: z34 :: z35 :: z36 :: z37 :: z38 :: z39 :: z40 :: z41 :: z42 :: z43 :: z44 :: z45 :: u46 :: u47 :: u48 :: u49 :: u50 :: u51 :: u52 :: u53 :: u54 :: u55 :: u56 :: u57 :: u58 :: u59 :: u60 :: u61 :: u62 :: u63 :: u64 :: u65 :: u66 :: u67 :: u68 :: u69 :: u70 :: u71 :: u72 :: u73 :: u74 :: u75 :: u76 :: u77 :: u78 :: u79 :: u80 :: u81 :: u82 :: u83 :: u84 :: u85 :: u86 :: u87 :: u88 :: u89 :: u90 :: u91 :: u92 :: u93 :: u94 :: u95 :: u96 :: u97 :: u98 :: u99 :: u100 :: u101 :: u102 :: u103 :: u104 :: u105 :: u106 :: u107 :: u108 :: u109 :: u110 :: u111 :: u112 :: u113 :: u114 :: u115 :: u116 :: u117 :: u118 :: u119 :: u120 :: u121 :: u122 :: u123 :: u124 :: [])) []) W') :
    Code.wp Try.prog (tailR 6 (Try.f3.body.getD .skip)) Q (Act.mk (List.toArray (u0 :: (.slice ap np cp) :: (.pointer (some ⟨gR, 0, none⟩)) :: u3 :: u4 :: (.slice a5 np c5) :: u6 :: u7 :: u8 :: u9 :: u10 :: u11 :: u12 :: u13 :: u14 :: u15 :: u16 :: u17 :: u18 :: u19 :: u20 :: u21 :: u22 :: u23 :: u24 :: u25 :: u26 :: u27 :: u28 :: u29 :: u30 :: u31 :: u32 :: u33 :: u34 :: u35 :: u36 :: u37 :: u38 :: u39 :: u40 :: u41 :: u42 :: u43 :: u44 :: u45 :: u46 :: u47 :: u48 :: u49 :: u50 :: u51 :: u52 :: u53 :: u54 :: u55 :: u56 :: u57 :: u58 :: u59 :: u60 :: u61 :: u62 :: u63 :: u64 :: u65 :: u66 :: u67 :: u68 :: u69 :: u70 :: u71 :: u72 :: u73 :: u74 :: u75 :: u76 :: u77 :: u78 :: u79 :: u80 :: u81 :: u82 :: u83 :: u84 :: u85 :: u86 :: u87 :: u88 :: u89 :: u90 :: u91 :: u92 :: u93 :: u94 :: u95 :: u96 :: u97 :: u98 :: u99 :: u100 :: u101 :: u102 :: u103 :: u104 :: u105 :: u106 :: u107 :: u108 :: u109 :: u110 :: u111 :: u112 :: u113 :: u114 :: u115 :: u116 :: u117 :: u118 :: u119 :: u120 :: u121 :: u122 :: u123 :: u124 :: [])) []) W := by
  have HQ : Hid _ := @hQ
  clear hQ
  conv => enter [2]; whnf
  have hLi := fun ap np cp w => listen_bad L0 F0 H0 M0 ap np cp w hbad
  have hRu := fun w => ruled_any L0 F0 H0 M0 w
  obtain ⟨x, hx⟩ : ∃ x, x = ruE L0 F0 H0 M0 := ⟨_, rfl⟩
  rw [← hx] at hLi hRu hbad
  have hxi : ¬ (x : Int) = 0 := by omega
  clear hx hbad
  unfold ruZ at hLi hRu
  have d0 : W.cell? ⟨gR, 0, none⟩ = some (.int .i64 L0) := b.cell 0 (by show 0 < 4; decide)
  have d1 : W.cell? ⟨gR, 1, none⟩ = some (.int .i64 F0) := b.cell 1 (by show 1 < 4; decide)
  have d2 : W.cell? ⟨gR, 2, none⟩ = some (.int .i64 H0) := b.cell 2 (by show 2 < 4; decide)
  have d3 : W.cell? ⟨gR, 3, none⟩ = some (.int .i64 M0) := b.cell 3 (by show 3 < 4; decide)
  refine wp_seq_k fun K6 hK6 => ?_
  have HK6 : Hid _ := hK6
  clear hK6
  go_wp2_with (go_at_call 8; refine (hLi _ _ _ _).mono ?_; rintro e w1 ⟨rfl, g1⟩)
  (try simp only [Exit.inBlock, Exit.then])
  refine HK6.out _ _ ?_
  clear HK6
  have F1 : Frm (fun _ => False) W w1 := Frm.of g1 (fun k e _ => by cases e)
  replace d0 := cell_frm d0 F1 (fun h => h)
  replace d1 := cell_frm d1 F1 (fun h => h)
  replace d2 := cell_frm d2 F1 (fun h => h)
  replace d3 := cell_frm d3 F1 (fun h => h)
  refine wp_seq_k fun K7 hK7 => ?_
  have HK7 : Hid _ := hK7
  clear hK7
  go_wp2_with (go_at_call 9; refine (hRu _).mono ?_; rintro e w2 ⟨rfl, g2⟩)
  (try simp only [Exit.inBlock, Exit.then])
  refine HK7.out _ _ ?_
  clear HK7
  have G := grown_trans g1 g2
  clear d0 d1 d2 d3 F1 b
  refine wp_seq_k fun K8 hK8 => ?_
  have HK8 : Hid _ := hK8
  clear hK8
  go_wp2
  (try simp only [Exit.inBlock, Exit.then])
  refine HK8.out _ _ ?_
  clear HK8
  refine wp_seq_k fun K10 hK10 => ?_
  have HK10 : Hid _ := hK10
  clear hK10
  go_wp2
  exact HQ.out w2 G
set_option maxHeartbeats 16000000 in
theorem sl_6g {u0 u3 u4 u6 u7 u8 u9 u10 u11 u12 u13 u14 u15 u16 u17 u18 u19 u20 u21 u22 u23 u24 u25 u26 u27 u28 u29 u30 u31 u32 u33 u34 u35 u36 u37 u38 u39 u40 u41 u42 u43 u44 u45 u46 u47 u48 u49 u50 u51 u52 u53 u54 u55 u56 u57 u58 u59 u60 u61 u62 u63 u64 u65 u66 u67 u68 u69 u70 u71 u72 u73 u74 u75 u76 u77 u78 u79 u80 u81 u82 u83 u84 u85 u86 u87 u88 u89 u90 u91 u92 u93 u94 u95 u96 u97 u98 u99 u100 u101 u102 u103 u104 u105 u106 u107 u108 u109 u110 u111 u112 u113 u114 u115 u116 u117 u118 u119 u120 u121 u122 u123 u124 : Value} {Q : Exit → Act → World → Prop} (W : World) (gR np cp c5 : Nat) (ap a5 : Option Addr) (r : Rx) (Ps : List (List Nat)) (b : BxS W gR 23 #[.int .i64 (r.L : Nat), .int .i64 (r.F : Nat), .int .i64 (r.H : Nat), .int .i64 (r.M : Nat)]) (hP : RdPs W a5 np c5 Ps) (hnp : np ≤ 4000000000000) (hm : ∀ B, B ∈ Ps → B.length ≤ 4194304) (htk : sumX Ps ≤ 4611686018427387904) (hL1 : 1 ≤ r.L) (hL : r.L ≤ 2048) (hF : r.F ≤ 8) (hH : r.H ≤ 12) (hM : r.M ≤ 8)
    (hQ : ∀ W' a7 a8 a9 c7 c8 c9 {z10 z11 z31 z32 z33 z34 z35 z36 z37 z38 z39 z40 z41 z42 z43 z44 z45 z46 z47 z48 z49 z50 z51 z52 z53 z54 z55 z56 z57 z58 z59 z60 z61 z62 z63 z64 : Value}, LsA W W' np a7 a8 a9 c7 c8 c9 (toX r s0X Ps) (loX r s0X Ps) → W.grownBy W' none → Code.wp Try.prog (tailR 14 (Try.f3.body.getD .skip)) Q (Act.mk (List.toArray (u0 :: (.slice ap np cp) :: (.pointer (some ⟨gR, 0, none⟩)) :: u3 :: u4 :: (.slice a5 np c5) :: u6 :: (.slice a7 np c7) :: (.slice a8 np c8) :: (.slice a9 np c9) :: z10 :: z11 :: u12 :: u13 :: u14 :: u15 :: u16 :: u17 :: u18 :: u19 :: u20 :: u21 :: u22 :: u23 :: u24 :: u25 :: u26 :: u27 :: u28 :: u29 :: u30 :: z31 :: z32 :: z33 :: z34 :: z35 :: z36 :: z37 :: z38 :: z39 :: z40 :: z41 :: z42 :: z43 :: z44 :: z45 :: z46 :: z47 :: z48 :: z49 :: z50 :: z51 :: z52 :: z53 :: z54 :: z55 :: z56 :: z57 :: z58 :: z59 :: z60 :: z61 :: z62 :: z63 :: z64 :: u65 :: u66 :: u67 :: u68 :: u69 :: u70 :: u71 :: u72 :: u73 :: u74 :: u75 :: u76 :: u77 :: u78 :: u79 :: u80 :: u81 :: u82 :: u83 :: u84 :: u85 :: u86 :: u87 :: u88 :: u89 :: u90 :: u91 :: u92 :: u93 :: u94 :: u95 :: u96 :: u97 :: u98 :: u99 :: u100 :: u101 :: u102 :: u103 :: u104 :: u105 :: u106 :: u107 :: u108 :: u109 :: u110 :: u111 :: u112 :: u113 :: u114 :: u115 :: u116 :: u117 :: u118 :: u119 :: u120 :: u121 :: u122 :: u123 :: u124 :: [])) []) W') :
    Code.wp Try.prog (tailR 6 (Try.f3.body.getD .skip)) Q (Act.mk (List.toArray (u0 :: (.slice ap np cp) :: (.pointer (some ⟨gR, 0, none⟩)) :: u3 :: u4 :: (.slice a5 np c5) :: u6 :: u7 :: u8 :: u9 :: u10 :: u11 :: u12 :: u13 :: u14 :: u15 :: u16 :: u17 :: u18 :: u19 :: u20 :: u21 :: u22 :: u23 :: u24 :: u25 :: u26 :: u27 :: u28 :: u29 :: u30 :: u31 :: u32 :: u33 :: u34 :: u35 :: u36 :: u37 :: u38 :: u39 :: u40 :: u41 :: u42 :: u43 :: u44 :: u45 :: u46 :: u47 :: u48 :: u49 :: u50 :: u51 :: u52 :: u53 :: u54 :: u55 :: u56 :: u57 :: u58 :: u59 :: u60 :: u61 :: u62 :: u63 :: u64 :: u65 :: u66 :: u67 :: u68 :: u69 :: u70 :: u71 :: u72 :: u73 :: u74 :: u75 :: u76 :: u77 :: u78 :: u79 :: u80 :: u81 :: u82 :: u83 :: u84 :: u85 :: u86 :: u87 :: u88 :: u89 :: u90 :: u91 :: u92 :: u93 :: u94 :: u95 :: u96 :: u97 :: u98 :: u99 :: u100 :: u101 :: u102 :: u103 :: u104 :: u105 :: u106 :: u107 :: u108 :: u109 :: u110 :: u111 :: u112 :: u113 :: u114 :: u115 :: u116 :: u117 :: u118 :: u119 :: u120 :: u121 :: u122 :: u123 :: u124 :: [])) []) W := by
  have HQ : Hid _ := @hQ
  clear hQ
  conv => enter [2]; whnf
  have hLi := listen_any r a5 np c5 Ps W hP hnp hm htk hL1 hL hF hH hM
  have hRu := fun w => ruled_any (r.L : Int) (r.F : Int) (r.H : Int) (r.M : Int) w
  have hr0 : ruE (r.L : Int) (r.F : Int) (r.H : Int) (r.M : Int) = 0 := ruE_good (by omega) (by omega) (by omega) (by omega)
  rw [hr0] at hRu
  clear hr0
  unfold ruZ at hRu
  unfold ruV at hLi
  have d0 : W.cell? ⟨gR, 0, none⟩ = some (.int .i64 (r.L : Nat)) := b.cell 0 (by show 0 < 4; decide)
  have d1 : W.cell? ⟨gR, 1, none⟩ = some (.int .i64 (r.F : Nat)) := b.cell 1 (by show 1 < 4; decide)
  have d2 : W.cell? ⟨gR, 2, none⟩ = some (.int .i64 (r.H : Nat)) := b.cell 2 (by show 2 < 4; decide)
  have d3 : W.cell? ⟨gR, 3, none⟩ = some (.int .i64 (r.M : Nat)) := b.cell 3 (by show 3 < 4; decide)
  clear hP
  refine wp_seq_k fun K6 hK6 => ?_
  have HK6 : Hid _ := hK6
  clear hK6
  go_wp2_with (go_at_call 8; refine hLi.mono ?_; rintro e w1 ⟨a7, a8, a9, c7, c8, c9, rfl, hLs, g1⟩; have HLS : Hid _ := hLs; clear hLs)
  (try simp only [Exit.inBlock, Exit.then])
  refine HK6.out _ _ ?_
  clear HK6
  have F1 : Frm (fun _ => False) W w1 := Frm.of g1 (fun k e _ => by cases e)
  replace d0 := cell_frm d0 F1 (fun h => h)
  replace d1 := cell_frm d1 F1 (fun h => h)
  replace d2 := cell_frm d2 F1 (fun h => h)
  replace d3 := cell_frm d3 F1 (fun h => h)
  refine wp_seq_k fun K7 hK7 => ?_
  have HK7 : Hid _ := hK7
  clear hK7
  go_wp2_with (go_at_call 9; refine (hRu _).mono ?_; rintro e w2 ⟨rfl, g2⟩)
  (try simp only [Exit.inBlock, Exit.then])
  refine HK7.out _ _ ?_
  clear HK7
  have G := grown_trans g1 g2
  have HG2 : Hid _ := g2
  have HG : Hid _ := G
  clear d0 d1 d2 d3 F1 b g1 g2 G
  refine wp_seq_k fun K8 hK8 => ?_
  have HK8 : Hid _ := hK8
  clear hK8
  go_wp2
  (try simp only [Exit.inBlock, Exit.then])
  refine HK8.out _ _ ?_
  clear HK8
  refine wp_seq_k fun K10 hK10 => ?_
  have HK10 : Hid _ := hK10
  clear hK10
  go_wp2
  (try simp only [Exit.inBlock, Exit.then])
  refine HK10.out _ _ ?_
  clear HK10
  refine wp_seq_k fun K12 hK12 => ?_
  have HK12 : Hid _ := hK12
  clear hK12
  go_wp2
  (try simp only [Exit.inBlock, Exit.then])
  refine HK12.out _ _ ?_
  clear HK12
  exact HQ.out w2 a7 a8 a9 c7 c8 c9 (HLS.out.keep HG2.out) HG.out
end

section
open Go.RowKit Go.Shelf
attribute [local go_sem] Oper.semAt_some
theorem Ans.upL {w : World} {lo : Nat} {a : Option Addr} {n cap : Nat} {L : List Nat} (h : Ans w lo a n cap L) : w.ownsRow lo 5 1 (.slice a n cap) n (bys L) := by
  refine ⟨h.own.1, ?_⟩
  rcases h.own.2 with h1 | ⟨g, c1, cur, h1, h2, h3⟩
  · exact .inl h1
  · refine .inr ⟨g, c1, cur, h1, ?_, h3⟩
    simp only [Value.slice.injEq] at h1
    obtain ⟨rfl, _, _⟩ := h1
    exact h.new g rfl
theorem wpList_joinL {w : World} {ops : Array Oper} {rest : List Oper} {o : Oper} {a : Act} {Q : Exit → Act → World → Prop} (hg : o.guard = none) (s x : Operand)
    (hop : o.op = Op.call { callee := .builtin .append, args := #[s, x], argTypes := #[25, 25] }) (ao : Option Addr) (m co lo : Nat) (D : List Nat) (hs : a.eval s = .slice ao m co)
    (hA : Ans w lo ao m co D) (hlo : lo ≤ w.heap.size) (ax : Option Addr) (nx cx : Nat) (X : List Nat) (hx : a.eval x = .slice ax nx cx) (hR : Rd w ax nx cx X) (hb : m + nx ≤ 200000000000000)
    (hK : ∀ a' c' w', Ans w' lo a' (m + nx) c' (D ++ X) → w.grownBy w' (Value.slice ao m co).ownBlock → wpList Try.prog ops Q rest (a.put o.dst (.slice a' (m + nx) c')) w') :
    wpList Try.prog ops Q (o :: rest) a w := by
  obtain ⟨i0, hi, hz0, hz1, hz2⟩ := info_parts Try.info_u8
  cases ax with
  | none =>
    have hc0 : cx = 0 := hR.nil rfl
    have hn0 : nx = 0 := by have := hR.le; omega
    subst hc0 hn0
    have e : X = [] := List.eq_nil_of_length_eq_zero hR.len
    subst e
    refine wpList_append_own_none hg s x 25 hop 0 5 i0 1 Try.underlying25 hi (.slice ao m co) m (bys D) hs hA.own hx ?_
    exact hK ao co w (by rw [List.append_nil]; exact hA) (World.grownBy.refl _ _)
  | some ad =>
    refine wpList_append_own_wide w hg s x 25 hop lo 5 i0 (.int .u8 0) 1 1 Try.underlying25 hi hz0 hz1 hz2 rfl (by decide) (.slice ao m co) m (bys D) hs hA.upL ad nx cx (bys X) hx (by rw [bys_length, hR.len]; omega) ?_ (bys_one _) (by unfold maxLen; omega) (by omega) hlo ?_
    · intro j u hu
      have hj : j < X.length := by
        have := (List.getElem?_eq_some_iff.1 hu).1
        rw [bys_length] at this; exact this
      have h0 : 0 < nx := by rw [hR.len] at hj; omega
      obtain ⟨b, off, e, _, hc⟩ := hR.at' h0
      cases e
      rw [nth_bys X j hj] at hu
      rw [← hu, addr_add]
      exact hc j (by rw [← hR.len]; exact hj)
    · intro v' w' hown hgr _
      rw [bys_app] at hown
      have hown' := hown
      rcases hown.2 with ⟨h1, h2⟩ | ⟨g, c1, cur, h1, h2, h3⟩
      · subst h1
        have e0 : m + nx = 0 := h2
        have hq := hK none 0 w' ⟨by rw [e0]; exact own_base (by rw [e0] at hown'; exact hown'), isB_append hA.byte hR.byte, fun g h => by simp [Value.ownBlock] at h⟩ hgr
        rw [e0] at hq
        exact hq
      · subst h1
        exact hK (some ⟨g, 0, none⟩) c1 w' ⟨own_base hown', isB_append hA.byte hR.byte, fun g' h => by have e : g = g' := Option.some.inj h; omega⟩ hgr

/-- what is in a block -/
def blkT : Code → Code
  | .block _ c => c
  | c => c
set_option maxHeartbeats 16000000 in
theorem sl_19 {u0 u2 u3 u4 u5 u6 u7 u8 u9 u10 u11 u13 u15 u16 u17 u18 u19 u20 u21 u22 u23 u24 u25 u26 u27 u28 u29 u30 u31 u32 u33 u34 u35 u36 u37 u38 u39 u40 u41 u42 u43 u44 u45 u46 u47 u48 u49 u50 u51 u52 u53 u54 u55 u56 u57 u58 u59 u60 u61 u62 u63 u64 u65 u66 u67 u68 u69 u70 u71 u72 u73 u74 u75 u76 u77 u78 u79 u80 u81 u82 u83 u84 u85 u86 u87 u88 u89 u90 u91 u92 u93 u94 u95 u96 u97 u98 u99 u100 u101 u102 u103 u104 u105 u106 u107 u108 u109 u110 u111 u112 u113 u114 u115 u116 u117 u118 u119 u120 u121 u122 u123 u124 : Value} {Q : Exit → Act → World → Prop} (W : World) (bp po np cp nL cL i lo m cap : Nat) (aL a : Option Addr) (L B : List Nat) (hi : i < np) (hnp : np ≤ 4000000000000) (hc : W.cell? ⟨bp, po + i, none⟩ = some (.slice a m cap)) (hR : Rd W a m cap B) (hA : Ans W lo aL nL cL L) (hlo : lo ≤ W.heap.size) (hb : nL + m ≤ 200000000000000)
    (hQ : ∀ W' aM cM {z71 z72 z73 z74 z75 z76 : Value}, Ans W' lo aM (nL + m) cM (L ++ B) → W.grownBy W' (Value.slice aL nL cL).ownBlock → Q .normal (Act.mk (List.toArray (u0 :: (.slice (some ⟨bp, po, none⟩) np cp) :: u2 :: u3 :: u4 :: u5 :: u6 :: u7 :: u8 :: u9 :: u10 :: u11 :: (.slice aM (nL + m) cM) :: u13 :: (.int .i64 (i : Nat)) :: u15 :: u16 :: u17 :: u18 :: u19 :: u20 :: u21 :: u22 :: u23 :: u24 :: u25 :: u26 :: u27 :: u28 :: u29 :: u30 :: u31 :: u32 :: u33 :: u34 :: u35 :: u36 :: u37 :: u38 :: u39 :: u40 :: u41 :: u42 :: u43 :: u44 :: u45 :: u46 :: u47 :: u48 :: u49 :: u50 :: u51 :: u52 :: u53 :: u54 :: u55 :: u56 :: u57 :: u58 :: u59 :: u60 :: u61 :: u62 :: u63 :: u64 :: u65 :: u66 :: u67 :: u68 :: u69 :: u70 :: z71 :: z72 :: z73 :: z74 :: z75 :: z76 :: u77 :: u78 :: u79 :: u80 :: u81 :: u82 :: u83 :: u84 :: u85 :: u86 :: u87 :: u88 :: u89 :: u90 :: u91 :: u92 :: u93 :: u94 :: u95 :: u96 :: u97 :: u98 :: u99 :: u100 :: u101 :: u102 :: u103 :: u104 :: u105 :: u106 :: u107 :: u108 :: u109 :: u110 :: u111 :: u112 :: u113 :: u114 :: u115 :: u116 :: u117 :: u118 :: u119 :: u120 :: u121 :: u122 :: u123 :: u124 :: [])) []) W') :
    Code.wp Try.prog (headT (blkT (headT (tailR 19 (Try.f3.body.getD .skip))))) Q (Act.mk (List.toArray (u0 :: (.slice (some ⟨bp, po, none⟩) np cp) :: u2 :: u3 :: u4 :: u5 :: u6 :: u7 :: u8 :: u9 :: u10 :: u11 :: (.slice aL nL cL) :: u13 :: (.int .i64 (i : Nat)) :: u15 :: u16 :: u17 :: u18 :: u19 :: u20 :: u21 :: u22 :: u23 :: u24 :: u25 :: u26 :: u27 :: u28 :: u29 :: u30 :: u31 :: u32 :: u33 :: u34 :: u35 :: u36 :: u37 :: u38 :: u39 :: u40 :: u41 :: u42 :: u43 :: u44 :: u45 :: u46 :: u47 :: u48 :: u49 :: u50 :: u51 :: u52 :: u53 :: u54 :: u55 :: u56 :: u57 :: u58 :: u59 :: u60 :: u61 :: u62 :: u63 :: u64 :: u65 :: u66 :: u67 :: u68 :: u69 :: u70 :: u71 :: u72 :: u73 :: u74 :: u75 :: u76 :: u77 :: u78 :: u79 :: u80 :: u81 :: u82 :: u83 :: u84 :: u85 :: u86 :: u87 :: u88 :: u89 :: u90 :: u91 :: u92 :: u93 :: u94 :: u95 :: u96 :: u97 :: u98 :: u99 :: u100 :: u101 :: u102 :: u103 :: u104 :: u105 :: u106 :: u107 :: u108 :: u109 :: u110 :: u111 :: u112 :: u113 :: u114 :: u115 :: u116 :: u117 :: u118 :: u119 :: u120 :: u121 :: u122 :: u123 :: u124 :: [])) []) W := by
  have HQ : Hid _ := @hQ
  clear hQ
  have HA : Hid _ := hA
  have HR : Hid _ := hR
  clear hA hR
  have hil : (i : Int) < (np : Int) := by omega
  conv => enter [2]; whnf
  go_wp2_with (at_builtin; refine wpList_joinL rfl _ _ rfl aL nL cL lo L rfl HA.out hlo a m cap B rfl HR.out hb ?_; intro aM cM W' hA' hg')
  exact HQ.out W' aM cM hA' hg'
set_option maxHeartbeats 16000000 in
theorem sl_20 {u0 u1 u3 u4 u5 u6 u7 u8 u9 u10 u11 u13 u14 u15 u16 u17 u18 u19 u20 u21 u22 u23 u24 u25 u26 u27 u28 u29 u30 u31 u32 u33 u34 u35 u36 u37 u38 u39 u40 u41 u42 u43 u44 u45 u46 u47 u48 u49 u50 u51 u52 u53 u54 u55 u56 u57 u58 u59 u60 u61 u62 u63 u64 u65 u66 u67 u68 u69 u70 u71 u72 u73 u74 u75 u76 u77 u78 u79 u80 u81 u82 u83 u84 u85 u86 u87 u88 u89 u90 u91 u92 u93 u94 u95 u96 u97 u98 u99 u100 u101 u102 u103 u104 u105 u106 u107 u108 u109 u110 u111 u112 u113 u114 u115 u116 u117 u118 u119 u120 u121 u122 u123 u124 : Value} {Q : Exit → Act → World → Prop} (W : World) (gR nL cL : Nat) (aL : Option Addr) (r : Rx) (B : List Nat) (b : BxS W gR 23 #[.int .i64 (r.L : Nat), .int .i64 (r.F : Nat), .int .i64 (r.H : Nat), .int .i64 (r.M : Nat)]) (hR : Rd W aL nL cL B) (hn : nL ≤ 1048576) (hL1 : 1 ≤ r.L) (hL : r.L ≤ 2048) (hF : r.F ≤ 8) (hH : r.H ≤ 12) (hM : r.M ≤ 8)
    (hQ : ∀ W' ao no co bb ys {z77 z78 z79 z80 z81 z82 : Value}, SrA r B W W' ao no co bb ys → Q .normal (Act.mk (List.toArray (u0 :: u1 :: (.pointer (some ⟨gR, 0, none⟩)) :: u3 :: u4 :: u5 :: u6 :: u7 :: u8 :: u9 :: u10 :: u11 :: (.slice aL nL cL) :: u13 :: u14 :: (.slice ao no co) :: (.bool bb) :: u17 :: u18 :: u19 :: u20 :: u21 :: u22 :: u23 :: u24 :: u25 :: u26 :: u27 :: u28 :: u29 :: u30 :: u31 :: u32 :: u33 :: u34 :: u35 :: u36 :: u37 :: u38 :: u39 :: u40 :: u41 :: u42 :: u43 :: u44 :: u45 :: u46 :: u47 :: u48 :: u49 :: u50 :: u51 :: u52 :: u53 :: u54 :: u55 :: u56 :: u57 :: u58 :: u59 :: u60 :: u61 :: u62 :: u63 :: u64 :: u65 :: u66 :: u67 :: u68 :: u69 :: u70 :: u71 :: u72 :: u73 :: u74 :: u75 :: u76 :: z77 :: z78 :: z79 :: z80 :: z81 :: z82 :: u83 :: u84 :: u85 :: u86 :: u87 :: u88 :: u89 :: u90 :: u91 :: u92 :: u93 :: u94 :: u95 :: u96 :: u97 :: u98 :: u99 :: u100 :: u101 :: u102 :: u103 :: u104 :: u105 :: u106 :: u107 :: u108 :: u109 :: u110 :: u111 :: u112 :: u113 :: u114 :: u115 :: u116 :: u117 :: u118 :: u119 :: u120 :: u121 :: u122 :: u123 :: u124 :: [])) []) W') :
    Code.wp Try.prog (headT (tailR 20 (Try.f3.body.getD .skip))) Q (Act.mk (List.toArray (u0 :: u1 :: (.pointer (some ⟨gR, 0, none⟩)) :: u3 :: u4 :: u5 :: u6 :: u7 :: u8 :: u9 :: u10 :: u11 :: (.slice aL nL cL) :: u13 :: u14 :: u15 :: u16 :: u17 :: u18 :: u19 :: u20 :: u21 :: u22 :: u23 :: u24 :: u25 :: u26 :: u27 :: u28 :: u29 :: u30 :: u31 :: u32 :: u33 :: u34 :: u35 :: u36 :: u37 :: u38 :: u39 :: u40 :: u41 :: u42 :: u43 :: u44 :: u45 :: u46 :: u47 :: u48 :: u49 :: u50 :: u51 :: u52 :: u53 :: u54 :: u55 :: u56 :: u57 :: u58 :: u59 :: u60 :: u61 :: u62 :: u63 :: u64 :: u65 :: u66 :: u67 :: u68 :: u69 :: u70 :: u71 :: u72 :: u73 :: u74 :: u75 :: u76 :: u77 :: u78 :: u79 :: u80 :: u81 :: u82 :: u83 :: u84 :: u85 :: u86 :: u87 :: u88 :: u89 :: u90 :: u91 :: u92 :: u93 :: u94 :: u95 :: u96 :: u97 :: u98 :: u99 :: u100 :: u101 :: u102 :: u103 :: u104 :: u105 :: u106 :: u107 :: u108 :: u109 :: u110 :: u111 :: u112 :: u113 :: u114 :: u115 :: u116 :: u117 :: u118 :: u119 :: u120 :: u121 :: u122 :: u123 :: u124 :: [])) []) W := by
  have HQ : Hid _ := @hQ
  clear hQ
  have hS := searchL_any r aL nL cL B W hR hn hL1 hL hF hH hM
  unfold ruV at hS
  have d0 : W.cell? ⟨gR, 0, none⟩ = some (.int .i64 (r.L : Nat)) := b.cell 0 (by show 0 < 4; decide)
  have d1 : W.cell? ⟨gR, 1, none⟩ = some (.int .i64 (r.F : Nat)) := b.cell 1 (by show 1 < 4; decide)
  have d2 : W.cell? ⟨gR, 2, none⟩ = some (.int .i64 (r.H : Nat)) := b.cell 2 (by show 2 < 4; decide)
  have d3 : W.cell? ⟨gR, 3, none⟩ = some (.int .i64 (r.M : Nat)) := b.cell 3 (by show 3 < 4; decide)
  clear hR
  conv => enter [2]; whnf
  go_wp2_with (go_at_call 10; refine hS.mono ?_; rintro e W' ⟨ao, no, co, bb, ys, rfl, hA⟩; have HA : Hid _ := hA; clear hA)
  exact HQ.out W' ao no co bb ys HA.out
end
end Go.Proofs.Ythdjpbfknbafgaa
