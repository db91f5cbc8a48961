import Derived.Test.YtnpkmjdlohdieaaUXc
import Derived.Test.YtnpkmjdlohdieaaUXA
import Derived.Test.YtnpkmjdlohdieaaUOp
namespace Go.Proofs.Ytnpkmjdlohdieaa
open Go.RowKit
set_option maxRecDepth 100000
set_option linter.unusedVariables false
set_option linter.unusedSimpArgs false

set_option maxHeartbeats 64000000 in
theorem gs_t3 {u0 u1 u7 u8 u9 u10 u17 u18 u19 u20 u21 u22 u23 u24 u25 u26 u27 u28 u29 u30 u31 u32 u33 u34 u35 u36 u37 u38 u39 u40 u41 u42 u43 u44 u45 u46 u47 u48 u49 u50 u51 u52 u53 u54 u55 u56 u57 u58 u59 u60 u61 u62 u63 u64 u65 u66 u67 u68 u69 u70 u71 u72 u73 u74 u75 u76 u77 u78 u79 u80 u81 u82 u83 u84 u85 u86 u87 u88 u89 u90 u91 u92 u93 u94 u95 u96 u97 u98 u99 u100 u101 u102 u103 u104 u105 u106 u107 u108 u109 u110 u111 u112 u113 u114 u115 u116 u117 u118 u119 u120 u121 u122 u123 u124 u125 u126 u127 u128 u129 u130 u131 u132 u133 : Value} (w wa wb : World) (G : Gd) (F : Nat → Mo) (A A1 A2 : Va) (D W : Vi) (Vs : List Int) (L : List ByteArray) (g5 g6 g11 g14 g15 Er : Nat) (va na q xa : Option Addr) (vn vc nn nc c xc : Nat) (he le : Bool)
    (hSt : ∀ wz, RdM wz q G.n c F → RdVg wz A2 D → RdX wz xa vn xc (zys Vs) → Calls Try.prog 17 #[.agg #[.slice q G.n c, .int .i64 G.si, .int .i64 G.mo, .int .i64 G.wi, .string G.sa], .agg #[.bool D.sf, .int .i64 D.wy, .slice A2.ab A2.nb A2.cb, .slice A2.ap A2.np A2.cp, .int .i64 D.qu, .slice A2.at' A2.nt A2.ct], .slice xa vn xc, .bool he, .bool le] wz fun e w' => ∃ (A3 : Va) (sa : Option Addr) (sn sc : Nat), e = .returned (.tuple #[.agg #[.bool W.sf, .int .i64 W.wy, .slice A3.ab A3.nb A3.cb, .slice A3.ap A3.np A3.cp, .int .i64 W.qu, .slice A3.at' A3.nt A3.ct], .slice sa sn sc, .int .i64 (Er : Int)]) ∧ OwVg w' wz.heap.size A3 W ∧ AnsX 9 w' wz.heap.size sa sn sc (sts L) ∧ wz.grownBy w' none)
    (zW : W.bd.length ≤ 1000 ∧ W.tp.length ≤ 1000 ∧ W.tr.length ≤ 1000) (zL : L.length ≤ 1000)
    (b5 : BxS wb g5 24 #[.slice G.ma G.n G.mc, .int .i64 G.si, .int .i64 G.mo, .int .i64 G.wi, .string G.sa]) (b6 : BxS wb g6 29 #[.bool D.sf, .int .i64 D.wy, .slice A.ab A.nb A.cb, .slice A.ap A.np A.cp, .int .i64 D.qu, .slice A.at' A.nt A.ct]) (b11 : BxS wb g11 29 #[.bool W.sf, .int .i64 W.wy, .slice A1.ab A1.nb A1.cb, .slice A1.ap A1.np A1.cp, .int .i64 W.qu, .slice A1.at' A1.nt A1.ct]) (b14 : BxS wb g14 24 #[.slice q G.n c, .int .i64 G.si, .int .i64 G.mo, .int .i64 G.wi, .string G.sa]) (b15 : BxS wb g15 29 #[.bool D.sf, .int .i64 D.wy, .slice A2.ab A2.nb A2.cb, .slice A2.ap A2.np A2.cp, .int .i64 D.qu, .slice A2.at' A2.nt A2.ct])
    (hM : RdM wb G.ma G.n G.mc F) (hQ : RdM wb q G.n c F) (hV : RdVg wb A D) (h1 : RdVg wb A1 W) (h2 : OwVg wb wa.heap.size A2 D) (hX : RdX wb va vn vc (zys Vs)) (hXc : RdX wb xa vn xc (zys Vs))
    (hna : AnsX 9 wb w.heap.size na nn nc (sts L)) (hnl : ∀ x, (Value.slice na nn nc).ownBlock = some x → x < wa.heap.size) (o1 : w.heap.size ≤ wa.heap.size) (o2 : wa.heap.size ≤ wb.heap.size)
    (z2 : A2.nb ≤ 17592186043904 ∧ A2.nt ≤ 17592186043904) (Gb : w.grownBy wb none) :
    Code.wp Try.prog (tailR 3 (Try.f4.body.getD .skip)) (bodyPost Try.prog Try.f4 (fun e w' => e = .returned (.bool true) ∧ Below w.heap.size w w')) (Act.mk (List.toArray (u0 :: u1 :: (.slice va vn vc) :: (.bool he) :: (.bool le) :: (.pointer (some ⟨g5, 0, none⟩)) :: (.pointer (some ⟨g6, 0, none⟩)) :: u7 :: u8 :: u9 :: u10 :: (.pointer (some ⟨g11, 0, none⟩)) :: (.slice na nn nc) :: (.int .i64 (Er : Int)) :: (.pointer (some ⟨g14, 0, none⟩)) :: (.pointer (some ⟨g15, 0, none⟩)) :: (.slice xa vn xc) :: u17 :: u18 :: u19 :: u20 :: u21 :: u22 :: u23 :: u24 :: u25 :: u26 :: u27 :: u28 :: u29 :: u30 :: u31 :: u32 :: u33 :: u34 :: u35 :: u36 :: u37 :: u38 :: u39 :: u40 :: u41 :: u42 :: u43 :: u44 :: u45 :: u46 :: u47 :: u48 :: u49 :: u50 :: u51 :: u52 :: u53 :: u54 :: u55 :: u56 :: u57 :: u58 :: u59 :: u60 :: u61 :: u62 :: u63 :: u64 :: u65 :: u66 :: u67 :: u68 :: u69 :: u70 :: u71 :: u72 :: u73 :: u74 :: u75 :: u76 :: u77 :: u78 :: u79 :: u80 :: u81 :: u82 :: u83 :: u84 :: u85 :: u86 :: u87 :: u88 :: u89 :: u90 :: u91 :: u92 :: u93 :: u94 :: u95 :: u96 :: u97 :: u98 :: u99 :: u100 :: u101 :: u102 :: u103 :: u104 :: u105 :: u106 :: u107 :: u108 :: u109 :: u110 :: u111 :: u112 :: u113 :: u114 :: u115 :: u116 :: u117 :: u118 :: u119 :: u120 :: u121 :: u122 :: u123 :: u124 :: u125 :: u126 :: u127 :: u128 :: u129 :: u130 :: u131 :: u132 :: u133 :: [])) []) wb := by
  let pq : Exit → Act → World → Prop := bodyPost Try.prog Try.f4 (fun _ _ => True)
  conv => enter [2]; whnf
  obtain ⟨c0, c1, c2, c3, c4⟩ := b14.cell5
  obtain ⟨d0, d1, d2, d3, d4, d5⟩ := b15.cell6
  go_upto_region 3 with fail
  go_cut [17, 18, 19] from 41 to 50 (fun s17 s18 s19 wy => ∃ (A3 : Va) (sa : Option Addr) (sn sc g17 : Nat), s17 = .pointer (some ⟨g17, 0, none⟩) ∧ s18 = .slice sa sn sc ∧ s19 = .int .i64 (Er : Int) ∧ BxS wy g17 29 #[.bool W.sf, .int .i64 W.wy, .slice A3.ab A3.nb A3.cb, .slice A3.ap A3.np A3.cp, .int .i64 W.qu, .slice A3.at' A3.nt A3.ct] ∧ OwVg wy wb.heap.size A3 W ∧ AnsX 9 wy wb.heap.size sa sn sc (sts L) ∧ wb.grownBy wy none ∧ wb.heap.size ≤ g17)
  case first =>
    go_wp2_with (go_at_call 17; refine (hSt _ hQ h2.rd hXc).mono ?_; rintro e w1 ⟨A3, sa, sn, sc, rfl, h3, hs, y1⟩)
    have yA := World.grownBy_alloc w1 (.cells #[.bool W.sf, .int .i64 W.wy, .slice A3.ab A3.nb A3.cb, .slice A3.ap A3.np A3.cp, .int .i64 W.qu, .slice A3.at' A3.nt A3.ct] 29) none
    go_meet
    exact ⟨A3, sa, sn, sc, _, rfl, rfl, rfl, BxS.new w1 29 #[.bool W.sf, .int .i64 W.wy, .slice A3.ab A3.nb A3.cb, .slice A3.ap A3.np A3.cp, .int .i64 W.qu, .slice A3.at' A3.nt A3.ct], h3.keep yA, hs.keep yA, grown_trans y1 yA, y1.size⟩
  case rest =>
  obtain ⟨A3, sa, sn, sc, g17, e1, e2, e3, b17, h3, hs, y3, k17⟩ := hcut
  subst e1
  subst e2
  subst e3
  generalize wc = w3 at *
  apply_assumption
  clear c0 c1 c2 c3 c4 d0 d1 d2 d3 d4 d5
  obtain ⟨c0, c1, c2, c3, c4⟩ := (b14.keep y3 (by simp)).cell5
  obtain ⟨d0, d1, d2, d3, d4, d5⟩ := (b15.keep y3 (by simp)).cell6
  go_upto_region 4 with fail
  go_cut [20, 21, 22] from 51 to 60 (fun s20 s21 s22 wy => ∃ (A4 : Va) (ta : Option Addr) (tn tc g20 : Nat), s20 = .pointer (some ⟨g20, 0, none⟩) ∧ s21 = .slice ta tn tc ∧ s22 = .int .i64 (Er : Int) ∧ BxS wy g20 29 #[.bool W.sf, .int .i64 W.wy, .slice A4.ab A4.nb A4.cb, .slice A4.ap A4.np A4.cp, .int .i64 W.qu, .slice A4.at' A4.nt A4.ct] ∧ OwVg wy w3.heap.size A4 W ∧ AnsX 9 wy w3.heap.size ta tn tc (sts L) ∧ w3.grownBy wy none ∧ w3.heap.size ≤ g20)
  case first =>
    go_wp2_with (go_at_call 17; refine (hSt _ (hQ.keep y3) (h2.rd.keep y3) (hXc.keep y3)).mono ?_; rintro e w4 ⟨A4, ta, tn, tc, rfl, h4, ht, y4⟩)
    have yA := World.grownBy_alloc w4 (.cells #[.bool W.sf, .int .i64 W.wy, .slice A4.ab A4.nb A4.cb, .slice A4.ap A4.np A4.cp, .int .i64 W.qu, .slice A4.at' A4.nt A4.ct] 29) none
    go_meet
    exact ⟨A4, ta, tn, tc, _, rfl, rfl, rfl, BxS.new w4 29 #[.bool W.sf, .int .i64 W.wy, .slice A4.ab A4.nb A4.cb, .slice A4.ap A4.np A4.cp, .int .i64 W.qu, .slice A4.at' A4.nt A4.ct], h4.keep yA, ht.keep yA, grown_trans y4 yA, y4.size⟩
  case rest =>
  obtain ⟨A4, ta, tn, tc, g20, e1, e2, e3, b20, h4, ht, y4, k20⟩ := hcut
  subst e1
  subst e2
  subst e3
  generalize wc = w4 at *
  apply_assumption
  have Y := grown_trans y3 y4
  have l1 : A1.nb = W.bd.length ∧ A1.np = W.tp.length ∧ A1.nt = W.tr.length := ⟨by rw [← h1.b.len, zys_length], by rw [← h1.p.len, hls_len], by rw [← h1.t.len, zys_length]⟩
  have l3 : A3.nb = W.bd.length ∧ A3.nt = W.tr.length := ⟨by rw [← h3.b.len, zys_length], by rw [← h3.t.len, zys_length]⟩
  have ls : sn = L.length := by rw [← hs.len, sts_len]
  exact gs_t5 w w4 G F A A1 A2 A3 A4 D W Vs L g5 g6 g11 g14 g15 g17 g20 wa.heap.size wb.heap.size w3.heap.size Er va na q xa sa ta vn vc nn nc c xc sn sc tn tc (b5.keep Y (by simp)) (b6.keep Y (by simp)) (b11.keep Y (by simp)) (b14.keep Y (by simp)) (b15.keep Y (by simp)) (b17.keep y4 (by simp)) b20 (hM.keep Y) (hQ.keep Y) (hV.keep Y) (h1.keep Y) (h2.keep Y) (h3.keep y4) h4 (hX.keep Y) (hXc.keep Y) (hna.keep Y) hnl (hs.keep y4) ht (fun x e => hs.lt x e) o1 o2 y3.size y4.size h2.hi h3.hi b15.lt k20 (by omega) z2 (by omega) (by omega) (grown_trans Gb Y)
theorem stV_len (F : Nat → Mo) (G : Gd) (D : Vi) (Vs : List Int) (he le : Bool) (vn : Nat) : (stV F G D Vs he le (stE F G D vn)).bd.length ≤ 1000 ∧ (stV F G D Vs he le (stE F G D vn)).tp.length ≤ 1000 ∧ (stV F G D Vs he le (stE F G D vn)).tr.length ≤ 1000 ∧ (stL F G D Vs he le (stE F G D vn)).length ≤ 1000 := by
  by_cases h : stE F G D vn = 0
  · have hv : stV F G D Vs he le (stE F G D vn) = tiV F G Vs D he le := if_pos h
    have hl : stL F G D Vs he le (stE F G D vn) = naL F G.sa (tiV F G Vs D he le).sf (tiP F G Vs D he).2 (!D.sf) := if_pos h
    rw [hv, hl]
    have hE : (gfP F G.n G.si G.mo G.wi G.sa).1 = 0 := by
      by_cases hE : (gfP F G.n G.si G.mo G.wi G.sa).1 = 0
      · exact hE
      · unfold stE at h; rw [if_neg hE] at h; exact absurd h hE
    have hn := (gfP_ok hE).1
    have hq : (vmB F G.n D G.si G.wi && amN F vn G.n) = true := by
      cases hq : (vmB F G.n D G.si G.wi && amN F vn G.n)
      · unfold stE at h; rw [if_pos hE, hq] at h; cases h
      · rfl
    obtain ⟨hq1, _⟩ : vmB F G.n D G.si G.wi = true ∧ amN F vn G.n = true := by simpa using hq
    unfold vmB mmB tmB at hq1
    simp only [Bool.and_eq_true, decide_eq_true_eq] at hq1
    obtain ⟨⟨⟨⟨⟨hbl, hpl⟩, hms⟩, hqk⟩, htl, htn⟩, _⟩ := hq1
    have hgl : (grV D G he).tr.length ≤ 100 := by
      unfold grV grL
      exact Nat.le_trans (fkL_len _ _ _) htl
    obtain ⟨i1, i2, i3, i4, i5, i6, i7, i8, i9⟩ := tkP_inv F Vs (grV D G he) hgl G.n
    have e1 : (grV D G he).bd.length = D.bd.length := rfl
    have e2 : (grV D G he).tp.length = D.tp.length := rfl
    have hf : (tiV F G Vs D he le).bd.length = (tiP F G Vs D he).1.bd.length ∧ (tiV F G Vs D he le).tp.length = (tiP F G Vs D he).1.tp.length ∧ (tiV F G Vs D he le).tr.length ≤ 100 := by
      have i3' : (tiP F G Vs D he).1.tr.length ≤ 100 := i3
      unfold tiV fiV
      split
      · split
        · exact ⟨rfl, rfl, by simp⟩
        · exact ⟨rfl, rfl, i3'⟩
      · exact ⟨rfl, rfl, i3'⟩
    have g1 : (tiP F G Vs D he).1.bd.length = (grV D G he).bd.length := i1
    have g2 : (tiP F G Vs D he).1.tp.length = (grV D G he).tp.length := i2
    have g3 : (tiP F G Vs D he).2.length ≤ G.n := i6
    refine ⟨by omega, by omega, by omega, ?_⟩
    unfold naL
    rw [List.length_append]
    have := naN_len F (tiV F G Vs D he le).sf (tiP F G Vs D he).2 (tiP F G Vs D he).2.length
    have h1 := tlL_len G.sa
    split
    · omega
    · simp; omega
  · have hv : stV F G D Vs he le (stE F G D vn) = vi0 := if_neg h
    have hl : stL F G D Vs he le (stE F G D vn) = [] := if_neg h
    rw [hv, hl]
    decide
set_option maxHeartbeats 64000000 in
theorem steps_walk (G : Gd) (A : Va) (D : Vi) (F : Nat → Mo) (va : Option Addr) (vn vc : Nat) (Vs : List Int) (he le : Bool) (w : World) (hM : RdM w G.ma G.n G.mc F) (hV : RdVg w A D) (hX : RdX w va vn vc (zys Vs))
    (n1 : G.n ≤ 2600000000000) (n2 : A.nb ≤ 17592186043904 ∧ A.np ≤ 140737488351232 ∧ A.nt ≤ 17592186043904) (n3 : vn ≤ 17592186043904) :
    Calls Try.prog 4 #[.agg #[.slice G.ma G.n G.mc, .int .i64 G.si, .int .i64 G.mo, .int .i64 G.wi, .string G.sa], .agg #[.bool D.sf, .int .i64 D.wy, .slice A.ab A.nb A.cb, .slice A.ap A.np A.cp, .int .i64 D.qu, .slice A.at' A.nt A.ct], .slice va vn vc, .bool he, .bool le] w fun e w' => e = .returned (.bool true) ∧ Below w.heap.size w w' := by
  have b0 := BxS.new w 24 #[.slice G.ma G.n G.mc, .int .i64 G.si, .int .i64 G.mo, .int .i64 G.wi, .string G.sa]
  have g0 := World.grownBy_alloc w (.cells #[.slice G.ma G.n G.mc, .int .i64 G.si, .int .i64 G.mo, .int .i64 G.wi, .string G.sa] 24) none
  generalize hw0 : w.alloc (.cells #[.slice G.ma G.n G.mc, .int .i64 G.si, .int .i64 G.mo, .int .i64 G.wi, .string G.sa] 24) = w0 at b0 g0
  have hz0 : w0.heap.size = w.heap.size + 1 := by rw [← hw0]; simp
  have b1 := BxS.new w0 29 #[.bool D.sf, .int .i64 D.wy, .slice A.ab A.nb A.cb, .slice A.ap A.np A.cp, .int .i64 D.qu, .slice A.at' A.nt A.ct]
  have g1 := World.grownBy_alloc w0 (.cells #[.bool D.sf, .int .i64 D.wy, .slice A.ab A.nb A.cb, .slice A.ap A.np A.cp, .int .i64 D.qu, .slice A.at' A.nt A.ct] 29) none
  generalize hw1 : w0.alloc (.cells #[.bool D.sf, .int .i64 D.wy, .slice A.ab A.nb A.cb, .slice A.ap A.np A.cp, .int .i64 D.qu, .slice A.at' A.nt A.ct] 29) = w1 at b1 g1
  rw [hz0] at b1
  have p0 := b0.keep g1 (by simp)
  have G1 := grown_trans g0 g1
  have hM1 := hM.keep G1
  have hV1 := hV.keep G1
  have hX1 := hX.keep G1
  have kR := rstep_any G A D F va vn vc Vs he le w1 hM1 hV1 hX1
  have kT := fun q c A2 xa xc wz hQ hO hC => step_any ⟨q, G.n, c, G.si, G.mo, G.wi, G.sa⟩ A2 D F xa vn xc Vs he le wz hQ hO hC
  have eE : ∀ q c, stE F ⟨q, G.n, c, G.si, G.mo, G.wi, G.sa⟩ D vn = stE F G D vn := fun q c => rfl
  have eV : ∀ q c z, stV F ⟨q, G.n, c, G.si, G.mo, G.wi, G.sa⟩ D Vs he le z = stV F G D Vs he le z := fun q c z => rfl
  have eL : ∀ q c z, stL F ⟨q, G.n, c, G.si, G.mo, G.wi, G.sa⟩ D Vs he le z = stL F G D Vs he le z := fun q c z => rfl
  have hlen := stV_len F G D Vs he le vn
  simp only [eE, eV, eL] at kT
  clear eE eV eL
  generalize stV F G D Vs he le (stE F G D vn) = W at *
  generalize stL F G D Vs he le (stE F G D vn) = L at *
  generalize stE F G D vn = Er at *
  unfold StR vgA at kR
  unfold StA vgA at kT
  obtain ⟨zb, zp, zt, zL⟩ := hlen
  obtain ⟨c0, c1, c2, c3, c4⟩ := p0.cell5
  obtain ⟨d0, d1, d2, d3, d4, d5⟩ := b1.cell6
  go_enter Try.func4, Try.ntmps4
  go_upto_region 1 with fail
  go_cut [11, 12, 13] from 25 to 34 (fun s11 s12 s13 wy => ∃ (A1 : Va) (na : Option Addr) (nn nc g11 : Nat), s11 = .pointer (some ⟨g11, 0, none⟩) ∧ s12 = .slice na nn nc ∧ s13 = .int .i64 (Er : Int) ∧ BxS wy g11 29 #[.bool W.sf, .int .i64 W.wy, .slice A1.ab A1.nb A1.cb, .slice A1.ap A1.np A1.cp, .int .i64 W.qu, .slice A1.at' A1.nt A1.ct] ∧ RdVg wy A1 W ∧ AnsX 9 wy w1.heap.size na nn nc (sts L) ∧ w1.grownBy wy none)
  case first =>
    go_wp2_with (go_at_call 14; refine kR.mono ?_; rintro e w2 ⟨A1, na, nn, nc, rfl, h1, hn, y1⟩)
    have yA := World.grownBy_alloc w2 (.cells #[.bool W.sf, .int .i64 W.wy, .slice A1.ab A1.nb A1.cb, .slice A1.ap A1.np A1.cp, .int .i64 W.qu, .slice A1.at' A1.nt A1.ct] 29) none
    go_meet
    exact ⟨A1, na, nn, nc, _, rfl, rfl, rfl, BxS.new w2 29 #[.bool W.sf, .int .i64 W.wy, .slice A1.ab A1.nb A1.cb, .slice A1.ap A1.np A1.cp, .int .i64 W.qu, .slice A1.at' A1.nt A1.ct], h1.keep yA, hn.keep yA, grown_trans y1 yA⟩
  case rest =>
  obtain ⟨A1, na, nn, nc, g11, e1, e2, e3, b11, h1, hna, ya⟩ := hcut
  subst e1
  subst e2
  subst e3
  generalize wc = wa at *
  apply_assumption
  refine wp_seq_k fun K hK => ?_
  refine gs_r2 wa G F A D Vs w.heap.size (w.heap.size + 1) g11 Er va na vn vc nn nc he le (p0.keep ya (by simp)) (b1.keep ya (by simp)) (hM1.keep ya) (hV1.keep ya) (hX1.keep ya) n1 n2 n3 _ (fun x a a' w e h => by cases a; cases a'; cases e; exact h) ?_
  intro z35 z36 z37 z38 z39 z40 g14 g15 q c A2 xa xc wb b14 b15 hQ h2 hC yb
  apply_assumption
  have Y := grown_trans ya yb
  have l2 : A2.nb = A.nb ∧ A2.nt = A.nt := ⟨by rw [← h2.b.len, ← hV.b.len], by rw [← h2.t.len, ← hV.t.len]⟩
  exact gs_t3 w wa wb G F A A1 A2 D W Vs L w.heap.size (w.heap.size + 1) g11 g14 g15 Er va na q xa vn vc nn nc c xc he le (fun wz k1 k2 k3 => kT q c A2 xa xc wz k1 k2 k3) ⟨zb, zp, zt⟩ zL (p0.keep Y (by simp)) (b1.keep Y (by simp)) (b11.keep yb (by simp)) b14 b15 (hM1.keep Y) hQ (hV1.keep Y) (h1.keep yb) h2 (hX1.keep Y) hC ((hna.keep yb).low G1.size) (fun x e => hna.lt x e) (grown_trans G1 ya).size yb.size (by omega) (grown_trans G1 Y)

open Go.ChangeShapes Go.WideShapes
theorem rdx_ofV {w : World} {a : Option Addr} {n cap : Nat} {S : List Int} (h : RdI w a n cap S) : RdX w a n cap (zys S) := by
  refine ⟨by rw [zys_length]; exact h.len, h.le, h.max, h.nil, zys_one S, fun h0 => ?_⟩
  obtain ⟨b, off, e, hb, hc⟩ := h.at' h0
  refine ⟨b, off, e, hb, fun i u hu => ?_⟩
  have hi : i < S.length := by
    have := (List.getElem?_eq_some_iff.1 hu).1
    rw [zys_length] at this
    exact this
  rw [zys_at S i hi] at hu
  rw [← Option.some.inj hu]
  exact hc i (by rw [← h.len]; exact hi)
theorem met_intsV {w : World} {full : Bool} {n : Nat} {cs : List Value} (h : (Sh.slice 1 8 (.int .i64)).met w full cs n) : ∃ a len cap S, cs = [.slice a len cap] ∧ RdX w a len cap (zys S) ∧ (full = true → cap * 8 ≤ reachBytes) := by
  obtain ⟨a, len, cap, zs, e, hr, hf, hn⟩ := met_ints h
  obtain ⟨S, hS, hz, _⟩ := rdI_of_row hr
  exact ⟨a, len, cap, S, e, rdx_ofV hS, hf⟩
theorem met_boolsV {w : World} {full : Bool} {n : Nat} {cs : List Value} (h : (Sh.slice 1 1 .bool).met w full cs n) : ∃ a len cap H, cs = [.slice a len cap] ∧ RdX w a len cap (hls H) ∧ (full = true → cap * 1 ≤ reachBytes) := by
  rcases h with ⟨rfl, rfl⟩ | ⟨x, len, cap, F, C, rfl, rfl, hl, hm, hf, hc⟩
  · exact ⟨none, 0, 0, [], rfl, RdX.nil0 _, fun _ => by rw [Nat.zero_mul]; exact Nat.zero_le _⟩
  · have each : ∀ i, i < cap → ∃ z : Bool, w.cell? (x.add i) = some (.bool z) := by
      intro i hi
      obtain ⟨h1, h2, h3, z, h4⟩ := hc i hi
      have := h2 0 (by omega)
      rw [h4] at this
      rw [Nat.mul_one, Nat.add_zero] at this
      exact ⟨z, this⟩
    obtain ⟨Z, hZ⟩ := Go.Deep.choose_lt each
    refine ⟨some x, len, cap, (List.range len).map Z, rfl, ⟨by simp [hls], hl, hm, (fun e => by cases e), hls_one _, fun h0 => ?_⟩, hf⟩
    obtain ⟨b, off, spot⟩ := x
    have hc0 := hZ 0 (by omega)
    have h0' : w.cell? (⟨b, off, spot⟩ : Addr) = some (.bool (Z 0)) := by simpa [Addr.add] using hc0
    have hspot : spot = none := by simpa using World.cell?_spot h0'
    subst hspot
    refine ⟨b, off, rfl, World.block_lt_of_cell? w _ h0', fun i u hu => ?_⟩
    have hi : i < len := by
      have := (List.getElem?_eq_some_iff.1 hu).1
      simpa [hls] using this
    have hu' : u = .bool (Z i) := by
      unfold hls at hu
      rw [List.getElem?_map, List.getElem?_map, List.getElem?_range hi] at hu
      exact (Option.some.inj hu).symm
    rw [hu', ← addr_add]
    exact hZ i (by omega)
abbrev ShVg : Sh := .fcons 1 .bool (.fcons 1 (.int .i64) (.fcons 1 (.slice 1 8 (.int .i64)) (.fcons 1 (.slice 1 1 .bool) (.fcons 1 (.int .i64) (.fcons 1 (.slice 1 8 (.int .i64)) .fend)))))
theorem shown_vigil {w : World} {full : Bool} {k : Nat} {v : Value} (h : ShVg.shown w full v k) :
    ∃ (A : Va) (D : Vi), v = .agg (vgA D A) ∧ RdVg w A D ∧ (full = true → A.nb ≤ 17592186043904 ∧ A.np ≤ 140737488351232 ∧ A.nt ≤ 17592186043904) := by
  obtain ⟨cs, rfl, hm⟩ := h
  obtain ⟨_, _, rfl, ⟨_, b, e0⟩, _, _, rfl, ⟨_, z1, e1, _⟩, _, _, rfl, h2, _, _, rfl, h3, _, _, rfl, ⟨_, z4, e4, _⟩, _, _, rfl, h5, e6, _⟩ := hm
  obtain ⟨a2, n2, c2, S2, e2, hR2, hf2⟩ := met_intsV h2
  obtain ⟨a3, n3, c3, H3, e3, hR3, hf3⟩ := met_boolsV h3
  obtain ⟨a5, n5, c5, S5, e5, hR5, hf5⟩ := met_intsV h5
  refine ⟨⟨a2, n2, c2, a3, n3, c3, a5, n5, c5⟩, ⟨b, z1, S2, H3, z4, S5⟩, ?_, ⟨hR2, hR3, hR5⟩, fun hf => ?_⟩
  · unfold vgA
    congr 1
    apply Array.toList_inj.1
    generalize cs.toList = l at *
    match l with
    | [] => simp at e0
    | [_] => simp at e1
    | [_, _] => simp at e2
    | [_, _, _] => simp at e3
    | [_, _, _, _] => simp at e4
    | [_, _, _, _, _] => simp at e5
    | [x0, x1, x2, x3, x4, x5] => simp_all
    | x0 :: x1 :: x2 :: x3 :: x4 :: x5 :: x6 :: r => simp at e6
  · have f2 := hf2 hf
    have f3 := hf3 hf
    have f5 := hf5 hf
    have l2 := hR2.le
    have l3 := hR3.le
    have l5 := hR5.le
    unfold reachBytes at f2 f3 f5
    show n2 ≤ _ ∧ n3 ≤ _ ∧ n5 ≤ _
    omega
theorem shown_intsV {w : World} {full : Bool} {n : Nat} {v : Value} (h : (Sh.slice 1 8 (.int .i64)).shown w full v n) : ∃ a len cap S, v = .slice a len cap ∧ RdX w a len cap (zys S) ∧ (full = true → len ≤ 17592186043904) := by
  obtain ⟨a, len, cap, S, e, hr, hf⟩ := met_intsV h
  cases e
  refine ⟨a, len, cap, S, rfl, hr, fun h => ?_⟩
  have := hf h
  have := hr.le
  unfold reachBytes at *
  omega
theorem shown_boolV {w : World} {full : Bool} {n : Nat} {v : Value} (h : Sh.bool.shown w full v n) : ∃ b, v = .bool b := by
  obtain ⟨_, b, e⟩ := h
  cases e
  exact ⟨b, rfl⟩
end Go.Proofs.Ytnpkmjdlohdieaa
