import Derived.Test.YtnjdbbjhplebhaaPs17
import Derived.Test.YtnjdbbjhplebhaaPs1
namespace Go.Proofs.Ytnjdbbjhplebhaa
open Go.RowKit
set_option maxRecDepth 100000
set_option linter.unusedVariables false
set_option linter.unusedSimpArgs false

section
set_option maxHeartbeats 32000000 in
theorem la_t9 {u2 u3 u4 u8 u10 u12 u13 u14 u15 u16 u17 u18 u19 u20 u21 u22 u23 u24 u25 u26 u27 u28 u29 u30 u31 u32 u33 u34 u35 u36 u37 u38 u39 u40 u41 u42 u43 u44 u45 u46 u47 u48 u49 u50 u51 u52 u53 u54 u55 u56 u57 u58 u59 u60 u61 u62 u63 u64 u65 u66 u67 u68 u69 u70 u71 u72 u73 u74 u75 u76 u77 u78 u79 u80 u81 u82 u83 u84 u85 u86 u87 u88 u89 u90 u91 u92 u93 u94 u95 u96 u97 u98 u99 u100 u101 u102 u103 u104 u105 u106 u107 u108 u109 u110 u111 u112 u113 u114 u115 u116 u117 : Value} (P : Ending → World → Prop) (w0 w : World) (wa ja xa ya ga aa ba : Option Addr) (wn wc jn jc xc yc gc ac bc N lo : Nat) (F K : Nat → T3) (G : Nat → Int) (hW : RdT w wa wn wc F) (hJ : RdT w ja jn jc K) (hX : RdT w xa wn xc F) (hY : RdT w ya jn yc K) (hw : RdC w ga N G) (hb : RdC w ba N G) (ha : OwI w lo aa N ac G) (hlo : lo ≤ w.heap.size) (hl0 : w0.heap.size ≤ lo) (hN : N ≤ 100) (hne : ∀ g, (Value.slice aa 0 ac).ownBlock = some g → ga ≠ some ⟨g, 0, none⟩ ∧ ba ≠ some ⟨g, 0, none⟩) (hg0 : w0.grownBy w none) (hP : ∀ w', w0.grownBy w' none → P (.returned (.bool true)) w') :
    Code.wp Try.prog (tailR 9 (Try.f3.body.getD .skip)) (bodyPost Try.prog Try.f3 P) (Act.mk (List.toArray ((.slice wa wn wc) :: (.slice ja jn jc) :: u2 :: u3 :: u4 :: (.slice xa wn xc) :: (.slice ya jn yc) :: (.slice ga N gc) :: u8 :: (.slice aa N ac) :: u10 :: (.slice ba N bc) :: u12 :: u13 :: u14 :: u15 :: u16 :: u17 :: u18 :: u19 :: u20 :: u21 :: u22 :: u23 :: u24 :: u25 :: u26 :: u27 :: u28 :: u29 :: u30 :: u31 :: u32 :: u33 :: u34 :: u35 :: u36 :: u37 :: u38 :: u39 :: u40 :: u41 :: u42 :: u43 :: u44 :: u45 :: u46 :: u47 :: u48 :: u49 :: u50 :: u51 :: u52 :: u53 :: u54 :: u55 :: u56 :: u57 :: u58 :: u59 :: u60 :: u61 :: u62 :: u63 :: u64 :: u65 :: u66 :: u67 :: u68 :: u69 :: u70 :: u71 :: u72 :: u73 :: u74 :: u75 :: u76 :: u77 :: u78 :: u79 :: u80 :: u81 :: u82 :: u83 :: u84 :: u85 :: u86 :: u87 :: u88 :: u89 :: u90 :: u91 :: u92 :: u93 :: u94 :: u95 :: u96 :: u97 :: u98 :: u99 :: u100 :: u101 :: u102 :: u103 :: u104 :: u105 :: u106 :: u107 :: u108 :: u109 :: u110 :: u111 :: u112 :: u113 :: u114 :: u115 :: u116 :: u117 :: [])) []) w := by
  conv => enter [2]; whnf
  have HW : Hid _ := hW
  have HJ : Hid _ := hJ
  have HX : Hid _ := hX
  have HY : Hid _ := hY
  have HWG : Hid (RdC w ga N G) := hw
  have HWB : Hid (RdC w ba N G) := hb
  have HWA : Hid _ := ha
  have HLO : Hid (lo ≤ w.heap.size ∧ w0.heap.size ≤ lo) := ⟨hlo, hl0⟩
  have HN : Hid (N ≤ 100) := hN
  have HNE : Hid _ := hne
  have HG0 : Hid (w0.grownBy w none) := hg0
  have HP : Hid _ := hP
  clear hW hJ hX hY hw hb ha hlo hl0 hN hne hg0 hP
  refine wp_seq_k fun K0 hK0 => ?_
  have HK0 : Hid _ := hK0
  clear hK0
  go_wp2
  go_loopw [17] (fun v wr => ∃ i : Nat, i ≤ wn ∧ v = .int .i64 (i : Nat) ∧ Hid (w.grownBy wr none)) (fun v _ => wn - (intOf v).toNat)
  case atStart => exact ⟨0, Nat.zero_le _, rfl, World.grownBy.refl _ _⟩
  case round =>
    skip
    obtain ⟨i, hi, rfl, hg⟩ := hrel
    by_cases hlt : i < wn
    · have lk : (i : Int) < (wn : Int) := by omega
      have hmx : wn ≤ maxLen := Nat.le_trans HX.out.le HX.out.max
      unfold maxLen at hmx
      have hi6 : (i : Int) < 9223372036854775807 := by omega
      have HIL : Hid (i < wn) := hlt
      obtain ⟨b1, o1, e1, _, r1⟩ := (HX.out.keep hg.out).at' (by omega)
      obtain ⟨b2, o2, e2, _, r2⟩ := (HW.out.keep hg.out).at' (by omega)
      have r1 := r1 i hlt
      have r2 := r2 i hlt
      have c0 := r1 0 _ rfl
      have c1 := r1 1 _ rfl
      have c2 := r1 2 _ rfl
      have d0 := r2 0 _ rfl
      have d1 := r2 1 _ rfl
      have d2 := r2 2 _ rfl
      simp only [Nat.add_zero] at c0 d0
      generalize F i = p at *
      obtain ⟨x, y, z⟩ := p
      simp only [T3.cells] at r1 r2
      subst e1
      subst e2
      clear hi hlt hmx
      go_upto_region 12 with fail
      go_quiet (fail)
      have GQ := grown_drewN wr nq none
      generalize wr.drewN nq = w9 at *
      have HG9 : Hid (w.grownBy w9 none) := grown_trans hg.out GQ
      clear GQ c0 c1 c2 d0 d1 d2 r1 r2
      go_wp2
      exact ⟨⟨i + 1, HIL.out, by go_num, HG9.out⟩, by have := HIL.out; simp [intOf] <;> omega⟩
    · obtain rfl : wn = i := by omega
      have lk : ¬ (wn : Int) < (wn : Int) := by omega
      have HG : Hid (w.grownBy wr none) := hg.out
      clear hi hg
      go_wp2
      (try simp only [Exit.inBlock, Exit.then])
      refine HK0.out _ _ ?_
      clear HK0
      refine wp_seq_k fun K1 hK1 => ?_
      have HK1 : Hid _ := hK1
      clear hK1
      go_wp2
      go_loopw [18] (fun v wr => ∃ i : Nat, i ≤ jn ∧ v = .int .i64 (i : Nat) ∧ Hid (w.grownBy wr none)) (fun v _ => jn - (intOf v).toNat)
      case atStart => exact ⟨0, Nat.zero_le _, rfl, HG.out⟩
      case round =>
        clear HG
        obtain ⟨i, hi, rfl, hg⟩ := hrel
        by_cases hlt : i < jn
        · have lk : (i : Int) < (jn : Int) := by omega
          have hmx : jn ≤ maxLen := Nat.le_trans HY.out.le HY.out.max
          unfold maxLen at hmx
          have hi6 : (i : Int) < 9223372036854775807 := by omega
          have HIL : Hid (i < jn) := hlt
          obtain ⟨b1, o1, e1, _, r1⟩ := (HY.out.keep hg.out).at' (by omega)
          obtain ⟨b2, o2, e2, _, r2⟩ := (HJ.out.keep hg.out).at' (by omega)
          have r1 := r1 i hlt
          have r2 := r2 i hlt
          have c0 := r1 0 _ rfl
          have c1 := r1 1 _ rfl
          have c2 := r1 2 _ rfl
          have d0 := r2 0 _ rfl
          have d1 := r2 1 _ rfl
          have d2 := r2 2 _ rfl
          simp only [Nat.add_zero] at c0 d0
          generalize K i = p at *
          obtain ⟨x, y, z⟩ := p
          simp only [T3.cells] at r1 r2
          subst e1
          subst e2
          clear hi hlt hmx
          go_upto_region 17 with fail
          go_quiet (fail)
          have GQ := grown_drewN wr nq none
          generalize wr.drewN nq = w9 at *
          have HG9 : Hid (w.grownBy w9 none) := grown_trans hg.out GQ
          clear GQ c0 c1 c2 d0 d1 d2 r1 r2
          go_wp2
          exact ⟨⟨i + 1, HIL.out, by go_num, HG9.out⟩, by have := HIL.out; simp [intOf] <;> omega⟩
        · obtain rfl : jn = i := by omega
          have lk : ¬ (jn : Int) < (jn : Int) := by omega
          clear hi
          go_wp2
          (try simp only [Exit.inBlock, Exit.then])
          refine HK1.out _ _ ?_
          clear HK1
          have OV := over_own (-7) aa N ac lo G wr (HWA.out.keep hg.out (by simp)) (by have := HLO.out; have := hg.out.size; omega) HN.out
          refine wp_seq_k fun K2 hK2 => ?_
          have HK2 : Hid _ := hK2
          clear hK2
          go_wp2_with (go_at_call 10; refine OV.mono ?_; rintro e w4 ⟨rfl, g4⟩)
          have HG4 : Hid (wr.grownBy w4 (Value.slice aa 0 ac).ownBlock) := g4
          clear g4
          refine HK2.out _ _ ?_
          clear HK2
          have SM := same_any w4 ba ga N bc gc G (RdC.keep (RdC.keep HWB.out hg.out (by simp)) HG4.out (fun g e x => (HNE.out g x).2 e)) (RdC.keep (RdC.keep HWG.out hg.out (by simp)) HG4.out (fun g e x => (HNE.out g x).1 e)) HN.out
          go_wp2_with (go_at_call 9; refine SM.mono ?_; rintro e w5 ⟨rfl, g5⟩)
          (try simp only [Exit.inBlock, Exit.then])
          first | go_ret | (refine bodyPost_ret (results_tmp rfl _ _ _) rfl ?_) | skip
          have h4 : w.grownBy w4 (Value.slice aa 0 ac).ownBlock := grown_trans (grown_weak hg.out _) HG4.out
          exact HP.out _ (grown_trans (grown_far HG0.out h4 (fun g e => Nat.le_trans HLO.out.2 (HWA.out.new g e))) g5)
end

section
set_option maxHeartbeats 32000000 in
theorem shared_walk (wa ja : Option Addr) (wn wc jn jc : Nat) (F K : Nat → T3) (w : World) (hW : RdT w wa wn wc F) (hJ : RdT w ja jn jc K) (hw0 : wa = none → wc = 0) (hj0 : ja = none → jc = 0) (hwb : wc * 24 ≤ reachBytes) (hjb : jc * 24 ≤ reachBytes) :
    Calls Try.prog 3 #[.slice wa wn wc, .slice ja jn jc] w fun e w' => e = .returned (.bool true) ∧ w.grownBy w' none := by
  obtain ⟨z, N, G, fb, hN, D1, D2, D3, D4⟩ := four_any wn jn F K
  have HW : Hid _ := hW
  have HJ : Hid _ := hJ
  have HW0 : Hid (wa = none → wc = 0) := hw0
  have HJ0 : Hid (ja = none → jc = 0) := hj0
  have HWB : Hid (wc * 24 ≤ reachBytes) := hwb
  have HJB : Hid (jc * 24 ≤ reachBytes) := hjb
  have HN : Hid (N ≤ 100) := hN
  have H1 : Hid _ := D1
  have H2 : Hid _ := D2
  have H3 : Hid _ := D3
  have H4 : Hid _ := D4
  clear hW hJ hw0 hj0 hwb hjb hN D1 D2 D3 D4
  go_enter Try.func3, Try.ntmps3
  refine wp_seq_k fun K0 hK0 => ?_
  have HK0 : Hid _ := hK0
  clear hK0
  go_wp2
  refine HK0.out _ _ ?_
  clear HK0
  refine wp_seq_k fun K1 hK1 => ?_
  have HK1 : Hid _ := hK1
  clear hK1
  have s0 : True := trivial
  go_wp2_with (first
    | (have _t := s0; clear s0; refine wpList_clT rfl (.tmp 19) 22 32 Try.underlying22 Try.info_wdF rfl wa wn wc F rfl HW.out HW0.out HWB.out ?_; intro xa xc w1 hX g1; have HX1 : Hid _ := hX; have HG1 : Hid _ := g1; clear hX g1; have s1 : True := trivial)
    | (have _t := s1; clear s1; refine wpList_clT rfl (.tmp 21) 23 34 Try.underlying23 Try.info_joF rfl ja jn jc K rfl (HJ.out.keep HG1.out) HJ0.out HJB.out ?_; intro ya yc w2 hY g2))
  have HA2 : Hid (RdT w2 wa wn wc F ∧ RdT w2 ja jn jc K ∧ RdT w2 xa wn xc F ∧ RdT w2 ya jn yc K ∧ w.grownBy w2 none) :=
    ⟨(HW.out.keep HG1.out).keep g2, (HJ.out.keep HG1.out).keep g2, HX1.out.keep g2, hY, grown_trans HG1.out g2⟩
  clear hY g2 HX1 HG1
  refine HK1.out _ _ ?_
  clear HK1
  have R2 := H1.out w2 wa wc ja jc HA2.out.1 HA2.out.2.1
  refine wp_seq_k fun K2 hK2 => ?_
  have HK2 : Hid _ := hK2
  clear hK2
  go_wp2_with (go_at_call 5; refine R2.mono ?_; rintro e w3 ⟨ga, gc, rfl, hO3, g3⟩)
  have HO3 : Hid _ := hO3
  have HG3 : Hid _ := g3
  have HA3 : Hid (RdT w3 wa wn wc F ∧ RdT w3 ja jn jc K ∧ RdT w3 xa wn xc F ∧ RdT w3 ya jn yc K ∧ w.grownBy w3 none) :=
    ⟨HA2.out.1.keep g3, HA2.out.2.1.keep g3, HA2.out.2.2.1.keep g3, HA2.out.2.2.2.1.keep g3, grown_trans HA2.out.2.2.2.2 g3⟩
  clear R2 hO3 g3
  refine HK2.out _ _ ?_
  clear HK2
  have R3 := H2.out w3 xa xc ya yc HA3.out.2.2.1 HA3.out.2.2.2.1
  refine wp_seq_k fun K3 hK3 => ?_
  have HK3 : Hid _ := hK3
  clear hK3
  go_wp2_with (go_at_call 6; refine R3.mono ?_; rintro e w4 ⟨aa, ac, rfl, hO4, g4⟩)
  have HO4 : Hid _ := hO4
  have HG4 : Hid _ := g4
  have HA4 : Hid (RdT w4 wa wn wc F ∧ RdT w4 ja jn jc K ∧ RdT w4 xa wn xc F ∧ RdT w4 ya jn yc K ∧ w.grownBy w4 none) :=
    ⟨HA3.out.1.keep g4, HA3.out.2.1.keep g4, HA3.out.2.2.1.keep g4, HA3.out.2.2.2.1.keep g4, grown_trans HA3.out.2.2.2.2 g4⟩
  clear R3 hO4 g4
  refine HK3.out _ _ ?_
  clear HK3
  have R4 := H2.out w4 xa xc ya yc HA4.out.2.2.1 HA4.out.2.2.2.1
  refine wp_seq_k fun K4 hK4 => ?_
  have HK4 : Hid _ := hK4
  clear hK4
  go_wp2_with (go_at_call 6; refine R4.mono ?_; rintro e w5 ⟨ba, bc, rfl, hO5, g5⟩)
  have HO5 : Hid _ := hO5
  have HG5 : Hid _ := g5
  have HA5 : Hid (RdT w5 wa wn wc F ∧ RdT w5 ja jn jc K ∧ RdT w5 xa wn xc F ∧ RdT w5 ya jn yc K ∧ w.grownBy w5 none) :=
    ⟨HA4.out.1.keep g5, HA4.out.2.1.keep g5, HA4.out.2.2.1.keep g5, HA4.out.2.2.2.1.keep g5, grown_trans HA4.out.2.2.2.2 g5⟩
  clear R4 hO5 g5
  refine HK4.out _ _ ?_
  clear HK4
  have R5 := H3.out w5 wa wc ja jc HA5.out.1 HA5.out.2.1
  refine wp_seq_k fun K5 hK5 => ?_
  have HK5 : Hid _ := hK5
  clear hK5
  go_wp2_with (go_at_call 7; refine R5.mono ?_; rintro e w6 ⟨rfl, g6⟩)
  have HG6 : Hid _ := g6
  clear R5 g6
  refine HK5.out _ _ ?_
  clear HK5
  have R6 := H4.out w6 xa xc ya yc (HA5.out.2.2.1.keep HG6.out) (HA5.out.2.2.2.1.keep HG6.out)
  refine wp_seq_k fun K6 hK6 => ?_
  have HK6 : Hid _ := hK6
  clear hK6
  go_wp2_with (go_at_call 8; refine R6.mono ?_; rintro e w7 ⟨rfl, g7⟩)
  have HG57 : Hid (w5.grownBy w7 none) := grown_trans HG6.out g7
  clear R6 g7
  refine HK6.out _ _ ?_
  clear HK6
  have HRG : Hid (RdC w7 ga N G) := RdC.keep (RdC.keep (RdC.keep HO3.out.rdC HG4.out (by simp)) HG5.out (by simp)) HG57.out (by simp)
  have HRA : Hid (RdC w7 aa N G) := RdC.keep (RdC.keep HO4.out.rdC HG5.out (by simp)) HG57.out (by simp)
  have HRB : Hid (RdC w7 ba N G) := RdC.keep HO5.out.rdC HG57.out (by simp)
  have R7 := same_any w7 aa ga N ac gc G HRA.out HRG.out HN.out
  have R8 : ∀ w8, w7.grownBy w8 none → _ := fun w8 g => same_any w8 ba ga N bc gc G (RdC.keep HRB.out g (by simp)) (RdC.keep HRG.out g (by simp)) HN.out
  refine wp_seq_k fun K7 hK7 => ?_
  have HK7 : Hid _ := hK7
  clear hK7
  have s0 : True := trivial
  go_wp2_with (first
    | (have _t := s0; clear s0; go_at_call 9; refine R7.mono ?_; rintro e w8 ⟨rfl, g8⟩; have s1 : True := trivial)
    | (have _t := s1; clear s1; go_at_call 9; refine (R8 _ g8).mono ?_; rintro e w9 ⟨rfl, g9⟩))
  have HG79 : Hid (w7.grownBy w9 none) := grown_trans g8 g9
  clear R7 R8 g8 g9
  have FIN : Hid (∀ {u2 u3 u4 u8 u10 u12 u13 u14 u15 u16 u17 u18 u19 u20 u21 u22 u23 u24 u25 u26 u27 u28 u29 u30 u31 u32 u33 u34 u35 u36 u37 u38 u39 u40 u41 u42 u43 u44 u45 u46 u47 u48 u49 u50 u51 u52 u53 u54 u55 u56 u57 u58 u59 u60 u61 u62 u63 u64 u65 u66 u67 u68 u69 u70 u71 u72 u73 u74 u75 u76 u77 u78 u79 u80 u81 u82 u83 u84 u85 u86 u87 u88 u89 u90 u91 u92 u93 u94 u95 u96 u97 u98 u99 u100 u101 u102 u103 u104 u105 u106 u107 u108 u109 u110 u111 u112 u113 u114 u115 u116 u117 : Value}, Code.wp Try.prog (tailR 9 (Try.f3.body.getD .skip)) (bodyPost Try.prog Try.f3 (fun e w' => e = .returned (.bool true) ∧ w.grownBy w' none)) (Act.mk (List.toArray ((.slice wa wn wc) :: (.slice ja jn jc) :: u2 :: u3 :: u4 :: (.slice xa wn xc) :: (.slice ya jn yc) :: (.slice ga N gc) :: u8 :: (.slice aa N ac) :: u10 :: (.slice ba N bc) :: u12 :: u13 :: u14 :: u15 :: u16 :: u17 :: u18 :: u19 :: u20 :: u21 :: u22 :: u23 :: u24 :: u25 :: u26 :: u27 :: u28 :: u29 :: u30 :: u31 :: u32 :: u33 :: u34 :: u35 :: u36 :: u37 :: u38 :: u39 :: u40 :: u41 :: u42 :: u43 :: u44 :: u45 :: u46 :: u47 :: u48 :: u49 :: u50 :: u51 :: u52 :: u53 :: u54 :: u55 :: u56 :: u57 :: u58 :: u59 :: u60 :: u61 :: u62 :: u63 :: u64 :: u65 :: u66 :: u67 :: u68 :: u69 :: u70 :: u71 :: u72 :: u73 :: u74 :: u75 :: u76 :: u77 :: u78 :: u79 :: u80 :: u81 :: u82 :: u83 :: u84 :: u85 :: u86 :: u87 :: u88 :: u89 :: u90 :: u91 :: u92 :: u93 :: u94 :: u95 :: u96 :: u97 :: u98 :: u99 :: u100 :: u101 :: u102 :: u103 :: u104 :: u105 :: u106 :: u107 :: u108 :: u109 :: u110 :: u111 :: u112 :: u113 :: u114 :: u115 :: u116 :: u117 :: [])) []) w9) := by
    intro u2 u3 u4 u8 u10 u12 u13 u14 u15 u16 u17 u18 u19 u20 u21 u22 u23 u24 u25 u26 u27 u28 u29 u30 u31 u32 u33 u34 u35 u36 u37 u38 u39 u40 u41 u42 u43 u44 u45 u46 u47 u48 u49 u50 u51 u52 u53 u54 u55 u56 u57 u58 u59 u60 u61 u62 u63 u64 u65 u66 u67 u68 u69 u70 u71 u72 u73 u74 u75 u76 u77 u78 u79 u80 u81 u82 u83 u84 u85 u86 u87 u88 u89 u90 u91 u92 u93 u94 u95 u96 u97 u98 u99 u100 u101 u102 u103 u104 u105 u106 u107 u108 u109 u110 u111 u112 u113 u114 u115 u116 u117
    have g59 := grown_trans HG57.out HG79.out
    have s5 := g59.size
    have s4 := HG5.out.size
    refine la_t9 _ w w9 wa ja xa ya ga aa ba wn wc jn jc xc yc gc ac bc N w3.heap.size F K G (HA5.out.1.keep g59) (HA5.out.2.1.keep g59) (HA5.out.2.2.1.keep g59) (HA5.out.2.2.2.1.keep g59) (RdC.keep HRG.out HG79.out (by simp)) (RdC.keep HRB.out HG79.out (by simp)) ((HO4.out.keep HG5.out (by simp)).keep g59 (by simp)) ?_ HA3.out.2.2.2.2.size HN.out ?_ (grown_trans HA5.out.2.2.2.2 g59) (fun w' h => ⟨rfl, h⟩)
    · have := HG4.out.size
      omega
    · intro g e
      have l1 := HO4.out.new g e
      have l2 := (HO4.out.own.lt g (by rw [ownB aa N 0 ac]; exact e)).2
      refine ⟨fun x => ?_, fun x => ?_⟩
      · subst x
        have := (HO3.out.own.lt g rfl).2
        omega
      · subst x
        have := HO5.out.new g rfl
        omega
  refine HK7.out _ _ ?_
  clear HK7
  exact FIN.out
end
end Go.Proofs.Ytnjdbbjhplebhaa
