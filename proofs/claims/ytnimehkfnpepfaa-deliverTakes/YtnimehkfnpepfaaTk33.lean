import Derived.Test.YtnimehkfnpepfaaTk19
import Derived.Test.YtnimehkfnpepfaaTk11
import Derived.Test.YtnimehkfnpepfaaTk8
import Derived.Test.YtnimehkfnpepfaaTk4
import Derived.Test.YtnimehkfnpepfaaTk7
import Derived.Test.YtnimehkfnpepfaaTk9
import Derived.Test.YtnimehkfnpepfaaTk6
import Derived.RangeFuncOwn
import Derived.Test.YtnimehkfnpepfaaTk3
import Derived.Test.YtnimehkfnpepfaaTk20
import Derived.Test.YtnimehkfnpepfaaTk18
import Derived.Test.YtnimehkfnpepfaaTk14
import Derived.Test.YtnimehkfnpepfaaTk24
import Derived.Test.YtnimehkfnpepfaaTk22
namespace Go.Proofs.Ytnimehkfnpepfaa
open Go.RowKit
set_option maxRecDepth 100000
set_option linter.unusedVariables false
set_option linter.unusedSimpArgs false

section
set_option maxHeartbeats 64000000 in
theorem takerAs_take (V W : Tv) (T : List Nt) (E : Nat) (a0 q0 aW qW na : Option Addr) (c0 d0 cW dW nc lo : Nat) (xsN : List Nx) (w : World) (gc : Nat) (I : World → Prop) (hI : ∀ a b, I a → a.grownBy b none → I b) (hI0 : I w)
    (hC : ∀ wz a c q d, I wz → Rd wz a V.L.length c V.L → RdG wz q V.G.length d (giF V.G) → Calls Try.prog 37 #[.agg (tkA V.id V.kn V.nm V.si V.en V.la V.su (.slice q V.G.length d) (.slice a V.L.length c) V.st V.ti V.pa V.tr V.li), .pointer (some ⟨gc, 0, none⟩)] wz fun e w' => RK wz W T E e w')
    (hL0 : Rd w a0 V.L.length c0 V.L) (hG0 : RdG w q0 V.G.length d0 (giF V.G)) (hLW : Rd w aW W.L.length cW W.L) (hGW : RdG w qW W.G.length dW (giF W.G)) (hN : OwN w lo na T.length nc xsN) (hT : xsN.map Nx.dt = T)
    (bV1 : V.L.length ≤ 140737488351232) (bV2 : V.G.length ≤ 8796093021952) (bW1 : W.L.length ≤ 140737488351232) (bW2 : W.G.length ≤ 8796093021952) (bT : T.length ≤ 100000) (bT2 : ∀ t, t ∈ T → t.da.length ≤ 100000 ∧ t.ga.length ≤ 100000) :
    Calls Try.prog 39 #[.func (.func 37) #[] #[.pointer (some ⟨gc, 0, none⟩)], .agg (tkA V.id V.kn V.nm V.si V.en V.la V.su (.slice q0 V.G.length d0) (.slice a0 V.L.length c0) V.st V.ti V.pa V.tr V.li), .agg (tkA W.id W.kn W.nm W.si W.en W.la W.su (.slice qW W.G.length dW) (.slice aW W.L.length cW) W.st W.ti W.pa W.tr W.li), .slice na T.length nc, .int .i64 (E : Nat)] w fun e w' => e = .returned (.bool true) ∧ w.grownBy w' none := by
  have i13 := Try.info_tk
  have HT : Hid _ := hT
  have HT2 : Hid _ := bT2
  clear hT bT2
  have b6 := BxS.new w 48 #[.int .i64 V.id, .bool V.kn, .string V.nm, .int .i64 V.si, .bool V.en, .int .i64 V.la, .int .i64 V.su, .slice q0 V.G.length d0, .slice a0 V.L.length c0, .int .i64 V.st, .int .i64 V.ti, .int .i64 V.pa, .int .i64 V.tr, .int .i64 V.li]
  have g6 := World.grownBy_alloc w (.cells #[.int .i64 V.id, .bool V.kn, .string V.nm, .int .i64 V.si, .bool V.en, .int .i64 V.la, .int .i64 V.su, .slice q0 V.G.length d0, .slice a0 V.L.length c0, .int .i64 V.st, .int .i64 V.ti, .int .i64 V.pa, .int .i64 V.tr, .int .i64 V.li] 48) none
  generalize hw1 : w.alloc (.cells #[.int .i64 V.id, .bool V.kn, .string V.nm, .int .i64 V.si, .bool V.en, .int .i64 V.la, .int .i64 V.su, .slice q0 V.G.length d0, .slice a0 V.L.length c0, .int .i64 V.st, .int .i64 V.ti, .int .i64 V.pa, .int .i64 V.tr, .int .i64 V.li] 48) = w1 at b6 g6
  have hz1 : w1.heap.size = w.heap.size + 1 := by rw [← hw1]; simp
  have b7 := BxS.new w1 48 #[.int .i64 W.id, .bool W.kn, .string W.nm, .int .i64 W.si, .bool W.en, .int .i64 W.la, .int .i64 W.su, .slice qW W.G.length dW, .slice aW W.L.length cW, .int .i64 W.st, .int .i64 W.ti, .int .i64 W.pa, .int .i64 W.tr, .int .i64 W.li]
  have g7 := World.grownBy_alloc w1 (.cells #[.int .i64 W.id, .bool W.kn, .string W.nm, .int .i64 W.si, .bool W.en, .int .i64 W.la, .int .i64 W.su, .slice qW W.G.length dW, .slice aW W.L.length cW, .int .i64 W.st, .int .i64 W.ti, .int .i64 W.pa, .int .i64 W.tr, .int .i64 W.li] 48) none
  generalize hw2 : w1.alloc (.cells #[.int .i64 W.id, .bool W.kn, .string W.nm, .int .i64 W.si, .bool W.en, .int .i64 W.la, .int .i64 W.su, .slice qW W.G.length dW, .slice aW W.L.length cW, .int .i64 W.st, .int .i64 W.ti, .int .i64 W.pa, .int .i64 W.tr, .int .i64 W.li] 48) = w2 at b7 g7
  rw [hz1] at b7
  have b6 := b6.keep g7 (by simp)
  have G2 := grown_trans g6 g7
  have z02 := G2.size
  unfold tkA
  go_enter Try.func39, Try.ntmps39
  refine wp_seq_k fun K1 hK1 => ?_
  have HK1 : Hid _ := hK1
  clear hK1
  go_wp2
  refine HK1.out _ _ ?_
  clear HK1
  clear hw1 hw2 hz1 g6 g7
  refine wp_seq_k fun K2 hK2 => ?_
  have HK2 : Hid _ := hK2
  clear hK2
  have s0 : True := trivial
  go_wp2_with (first
    | (have _t := s0; clear s0; refine wpList_ldX _ rfl _ (.tmp 6) rfl w.heap.size _ rfl b6 Try.underlying48 i13 ?_; have s1 : True := trivial)
    | (go_at_call 40; have _t := s1; clear s1; refine (takerOf_any V.id V.kn V.nm V.si V.en V.la V.su q0 V.G.length d0 a0 V.L.length c0 V.st V.ti V.pa V.tr V.li (giF V.G) V.L w2 (hL0.keep G2) (hG0.keep G2) bV1 bV2).mono ?_; rintro e wcH ⟨aH, cH, qH, dH, rfl, hAH, hOH, yH⟩; rw [tab_giF] at hOH; have zH := yH.size; have bn := BxS.new wcH 48 #[.int .i64 0, .bool false, .string ⟨#[]⟩, .int .i64 0, .bool false, .int .i64 0, .int .i64 0, .slice none 0 0, .slice none 0 0, .int .i64 0, .int .i64 0, .int .i64 0, .int .i64 0, .int .i64 0]; have gn := World.grownBy_alloc wcH (.cells #[.int .i64 0, .bool false, .string ⟨#[]⟩, .int .i64 0, .bool false, .int .i64 0, .int .i64 0, .slice none 0 0, .slice none 0 0, .int .i64 0, .int .i64 0, .int .i64 0, .int .i64 0, .int .i64 0] 48) none; generalize hwn : wcH.alloc (.cells #[.int .i64 0, .bool false, .string ⟨#[]⟩, .int .i64 0, .bool false, .int .i64 0, .int .i64 0, .slice none 0 0, .slice none 0 0, .int .i64 0, .int .i64 0, .int .i64 0, .int .i64 0, .int .i64 0] 48) = wnH at bn gn; have s2 : True := trivial)
    | (have _t := s2; clear s2; refine wpList_stX _ rfl _ (.tmp 11) (.tmp 20) rfl wcH.heap.size _ _ rfl rfl bn i13 rfl (by simp [tkA, Value.oneCell']) ?_; intro wdH b11 uH))
  refine HK2.out _ _ ?_
  clear HK2
  unfold tkA at b11
  have YH : w2.grownBy wdH none := grown_far (grown_trans yH gn) uH (fun z e => by have e := Option.some.inj e; omega)
  have hAH : Ans wdH w2.heap.size aH V.L.length cH V.L := (hAH.keep gn).kRR uH (fun z e e2 => by have e := Option.some.inj e; subst e; exact own_ty (hAH.keep gn).own bn (by decide) e2)
  have hOH : OwGi wdH w2.heap.size qH V.G.length dH V.G := (hOH.keep gn).bx bn (by decide) uH
  obtain ⟨g11, hg11⟩ : ∃ g, wcH.heap.size = g := ⟨_, rfl⟩
  have lg11 : w2.heap.size ≤ g11 := by omega
  have ug11 : g11 < wdH.heap.size := by rw [← hg11]; exact b11.lt
  rw [hg11] at b11 ⊢
  clear hg11 uH bn gn hwn yH zH
  have GH := grown_trans G2 YH
  have b6 := b6.keep YH (by simp)
  have b7 := b7.keep YH (by simp)
  refine wp_seq_k fun K3 hK3 => ?_
  have HK3 : Hid _ := hK3
  clear hK3
  have s0 : True := trivial
  go_wp2_with (first
    | (have _t := s0; clear s0; refine wpList_ldX _ rfl _ (.tmp 11) rfl g11 _ rfl b11 Try.underlying48 i13 ?_; have s1 : True := trivial)
    | (go_at_call 37; have _t := s1; clear s1; refine (hC _ _ _ _ _ (hI _ _ hI0 GH) hAH.rd hOH.rd).mono ?_; rintro e wc1 ⟨a1, c1, q1, d1, na1, nc1, xs1, rfl, hx1, hA1, hO1, hN1, sA1, sO1, y1⟩; have z1 := y1.size; have bn := BxS.new wc1 48 #[.int .i64 0, .bool false, .string ⟨#[]⟩, .int .i64 0, .bool false, .int .i64 0, .int .i64 0, .slice none 0 0, .slice none 0 0, .int .i64 0, .int .i64 0, .int .i64 0, .int .i64 0, .int .i64 0]; have gn := World.grownBy_alloc wc1 (.cells #[.int .i64 0, .bool false, .string ⟨#[]⟩, .int .i64 0, .bool false, .int .i64 0, .int .i64 0, .slice none 0 0, .slice none 0 0, .int .i64 0, .int .i64 0, .int .i64 0, .int .i64 0, .int .i64 0] 48) none; generalize hwn : wc1.alloc (.cells #[.int .i64 0, .bool false, .string ⟨#[]⟩, .int .i64 0, .bool false, .int .i64 0, .int .i64 0, .slice none 0 0, .slice none 0 0, .int .i64 0, .int .i64 0, .int .i64 0, .int .i64 0, .int .i64 0] 48) = wn1 at bn gn; have s2 : True := trivial)
    | (have _t := s2; clear s2; refine wpList_stX _ rfl _ (.tmp 12) (.tmp 25) rfl wc1.heap.size _ _ rfl rfl bn i13 rfl (by simp [tkA, Value.oneCell']) ?_; intro wd1 b12 u1))
  refine HK3.out _ _ ?_
  clear HK3
  unfold tkA at b12
  have Y1 : wdH.grownBy wd1 none := grown_far (grown_trans y1 gn) u1 (fun z e => by have e := Option.some.inj e; omega)
  have hA1 : Ans wd1 wdH.heap.size a1 W.L.length c1 W.L := (hA1.keep gn).kRR u1 (fun z e e2 => by have e := Option.some.inj e; subst e; exact own_ty (hA1.keep gn).own bn (by decide) e2)
  have hO1 : OwGi wd1 wdH.heap.size q1 W.G.length d1 W.G := (hO1.keep gn).bx bn (by decide) u1
  have hN1 : OwN wd1 wdH.heap.size na1 T.length nc1 xs1 := (hN1.keep gn).bx bn (by decide) (by decide) (by decide) u1
  obtain ⟨g12, hg12⟩ : ∃ g, wc1.heap.size = g := ⟨_, rfl⟩
  have lg12 : wdH.heap.size ≤ g12 := by omega
  have ug12 : g12 < wd1.heap.size := by rw [← hg12]; exact b12.lt
  rw [hg12] at b12 ⊢
  clear hg12 u1 bn gn hwn y1 z1
  have G1 := grown_trans GH Y1
  have b6 := b6.keep Y1 (by simp)
  have b7 := b7.keep Y1 (by simp)
  have b11 := b11.keep Y1 (by simp)
  have iH : ∀ z, (Value.slice aH V.L.length cH).ownBlock = some z ∨ (Value.slice qH V.G.length dH).ownBlock = some z → w2.heap.size ≤ z ∧ z < wdH.heap.size := fun z e => by
    rcases e with e | e
    · exact ⟨hAH.new z e, own_ltN hAH.own e⟩
    · exact ⟨hOH.new z e, hOH.lt e⟩
  have hAH := hAH.keep Y1
  have hOH := hOH.keep Y1
  refine wp_seq_k fun K4 hK4 => ?_
  have HK4 : Hid _ := hK4
  clear hK4
  have s0 : True := trivial
  go_wp2_with (first
    | (have _t := s0; clear s0; refine wpList_ldX _ rfl _ (.tmp 11) rfl g11 _ rfl b11 Try.underlying48 i13 ?_; have s1 : True := trivial)
    | (go_at_call 37; have _t := s1; clear s1; refine (hC _ _ _ _ _ (hI _ _ hI0 G1) hAH.rd hOH.rd).mono ?_; rintro e wc2 ⟨a2, c2, q2, d2, na2, nc2, xs2, rfl, hx2, hA2, hO2, hN2, sA2, sO2, y2⟩; have z2 := y2.size; have bn := BxS.new wc2 48 #[.int .i64 0, .bool false, .string ⟨#[]⟩, .int .i64 0, .bool false, .int .i64 0, .int .i64 0, .slice none 0 0, .slice none 0 0, .int .i64 0, .int .i64 0, .int .i64 0, .int .i64 0, .int .i64 0]; have gn := World.grownBy_alloc wc2 (.cells #[.int .i64 0, .bool false, .string ⟨#[]⟩, .int .i64 0, .bool false, .int .i64 0, .int .i64 0, .slice none 0 0, .slice none 0 0, .int .i64 0, .int .i64 0, .int .i64 0, .int .i64 0, .int .i64 0] 48) none; generalize hwn : wc2.alloc (.cells #[.int .i64 0, .bool false, .string ⟨#[]⟩, .int .i64 0, .bool false, .int .i64 0, .int .i64 0, .slice none 0 0, .slice none 0 0, .int .i64 0, .int .i64 0, .int .i64 0, .int .i64 0, .int .i64 0] 48) = wn2 at bn gn; have s2 : True := trivial)
    | (have _t := s2; clear s2; refine wpList_stX _ rfl _ (.tmp 15) (.tmp 32) rfl wc2.heap.size _ _ rfl rfl bn i13 rfl (by simp [tkA, Value.oneCell']) ?_; intro wd2 b15 u2))
  refine HK4.out _ _ ?_
  clear HK4
  unfold tkA at b15
  have Y2 : wd1.grownBy wd2 none := grown_far (grown_trans y2 gn) u2 (fun z e => by have e := Option.some.inj e; omega)
  have hA2 : Ans wd2 wd1.heap.size a2 W.L.length c2 W.L := (hA2.keep gn).kRR u2 (fun z e e2 => by have e := Option.some.inj e; subst e; exact own_ty (hA2.keep gn).own bn (by decide) e2)
  have hO2 : OwGi wd2 wd1.heap.size q2 W.G.length d2 W.G := (hO2.keep gn).bx bn (by decide) u2
  have hN2 : OwN wd2 wd1.heap.size na2 T.length nc2 xs2 := (hN2.keep gn).bx bn (by decide) (by decide) (by decide) u2
  obtain ⟨g15, hg15⟩ : ∃ g, wc2.heap.size = g := ⟨_, rfl⟩
  have lg15 : wd1.heap.size ≤ g15 := by omega
  have ug15 : g15 < wd2.heap.size := by rw [← hg15]; exact b15.lt
  rw [hg15] at b15 ⊢
  clear hg15 u2 bn gn hwn y2 z2
  have G2' := grown_trans G1 Y2
  have b6 := b6.keep Y2 (by simp)
  have b7 := b7.keep Y2 (by simp)
  have b11 := b11.keep Y2 (by simp)
  have b12 := b12.keep Y2 (by simp)
  have zH1 := Y1.size
  have zHH := YH.size
  have z12 := Y2.size
  have i1 : ∀ z, (Value.slice a1 W.L.length c1).ownBlock = some z ∨ (Value.slice q1 W.G.length d1).ownBlock = some z ∨ Nbl na1 T.length nc1 xs1 z → wdH.heap.size ≤ z ∧ z < wd1.heap.size := fun z e => by
    rcases e with e | e | e
    · exact ⟨hA1.new z e, own_ltN hA1.own e⟩
    · exact ⟨hO1.new z e, hO1.lt e⟩
    · exact ⟨hN1.low e, hN1.lt e⟩
  have hAH := hAH.keep Y2
  have hOH := hOH.keep Y2
  have hA1 := hA1.keep Y2
  have hO1 := hO1.keep Y2
  have hN1 := hN1.keep Y2
  have i2 : ∀ z, (Value.slice a2 W.L.length c2).ownBlock = some z ∨ (Value.slice q2 W.G.length d2).ownBlock = some z ∨ Nbl na2 T.length nc2 xs2 z → wd1.heap.size ≤ z := fun z e => by
    rcases e with e | e | e
    · exact hA2.new z e
    · exact hO2.new z e
    · exact hN2.low e
  have II1 : Hid _ := i1
  have II2 : Hid _ := i2
  have IIH : Hid _ := iH
  have HX1 : Hid _ := hx1
  have HX2 : Hid _ := hx2
  clear i1 i2 iH hx1 hx2
  have hW2 := hLW.keep G2'
  have hGW2 := hGW.keep G2'
  have hN02 := hN.keep G2'
  have hL02 := hL0.keep G2'
  have hG02 := hG0.keep G2'
  refine wp_seq_k fun K5 hK5 => ?_
  have HK5 : Hid _ := hK5
  clear hK5
  obtain ⟨c0, c1, c2, c3, c4, c5, c6, c7, c8, c9, c10, c11, c12, c13⟩ := (b12).cell14
  obtain ⟨d0, d1, d2, d3, d4, d5, d6, d7, d8, d9, d10, d11, d12, d13⟩ := (b7).cell14
  have s0 : True := trivial
  have kS := fun wz (aA aB qA qB : Option Addr) (cA cB dA dB : Nat) (k1 : Rd wz aA W.L.length cA W.L) (k2 : Rd wz aB W.L.length cB W.L) (k3 : RdG wz qA W.G.length dA (giF W.G)) (k4 : RdG wz qB W.G.length dB (giF W.G)) => sameTaker_any W.id W.kn W.nm W.si W.en W.la W.su W.st W.ti W.pa W.tr W.li aA aB qA qB W.L.length cA cB W.G.length dA dB W.L (giF W.G) (giF W.G) wz k1 k2 k3 k4 (fun _ _ => rfl)
  have kV := fun wz (aA aB qA qB : Option Addr) (cA cB dA dB : Nat) (k1 : Rd wz aA V.L.length cA V.L) (k2 : Rd wz aB V.L.length cB V.L) (k3 : RdG wz qA V.G.length dA (giF V.G)) (k4 : RdG wz qB V.G.length dB (giF V.G)) => sameTaker_any V.id V.kn V.nm V.si V.en V.la V.su V.st V.ti V.pa V.tr V.li aA aB qA qB V.L.length cA cB V.G.length dA dB V.L (giF V.G) (giF V.G) wz k1 k2 k3 k4 (fun _ _ => rfl)
  unfold tkA at kS kV
  have KS : Hid _ := kS
  have KV : Hid _ := kV
  clear kS kV
  go_wp2_with (first
    | (go_at_call 29; have _t := s0; clear s0; refine (KS.out _ _ _ _ _ _ _ _ _ hA1.rd hW2 hO1.rd hGW2).mono ?_; rintro e we1 ⟨rfl, e1⟩; clear c0 c1 c2 c3 c4 c5 c6 c7 c8 c9 c10 c11 c12 c13 d0 d1 d2 d3 d4 d5 d6 d7 d8 d9 d10 d11 d12 d13; obtain ⟨c0, c1, c2, c3, c4, c5, c6, c7, c8, c9, c10, c11, c12, c13⟩ := (b15.keep e1 (by simp)).cell14; obtain ⟨d0, d1, d2, d3, d4, d5, d6, d7, d8, d9, d10, d11, d12, d13⟩ := (b7.keep e1 (by simp)).cell14; have s1 : True := trivial)
    | (go_at_call 29; have _t := s1; clear s1; refine (KS.out _ _ _ _ _ _ _ _ _ (hA2.keep e1).rd (hW2.keep e1) (hO2.keep e1).rd (hGW2.keep e1)).mono ?_; rintro e we2 ⟨rfl, e2⟩; have E2 := grown_trans e1 e2; clear c0 c1 c2 c3 c4 c5 c6 c7 c8 c9 c10 c11 c12 c13 d0 d1 d2 d3 d4 d5 d6 d7 d8 d9 d10 d11 d12 d13; obtain ⟨c0, c1, c2, c3, c4, c5, c6, c7, c8, c9, c10, c11, c12, c13⟩ := (b11.keep E2 (by simp)).cell14; obtain ⟨d0, d1, d2, d3, d4, d5, d6, d7, d8, d9, d10, d11, d12, d13⟩ := (b6.keep E2 (by simp)).cell14; have s2 : True := trivial)
    | (go_at_call 29; have _t := s2; clear s2; refine (KV.out _ _ _ _ _ _ _ _ _ (hAH.keep E2).rd (hL02.keep E2) (hOH.keep E2).rd (hG02.keep E2)).mono ?_; rintro e we3 ⟨rfl, e3⟩; have E3 := grown_trans E2 e3; clear c0 c1 c2 c3 c4 c5 c6 c7 c8 c9 c10 c11 c12 c13 d0 d1 d2 d3 d4 d5 d6 d7 d8 d9 d10 d11 d12 d13; have s3 : True := trivial)
    | (go_at_call 64; have _t := s3; clear s3; refine (sameNotes_any na1 na T.length nc1 nc _ _ xs1 xsN _ (hN1.keep E3) (hN02.keep E3) (HX1.out.trans HT.out.symm) bT).mono ?_; rintro e we4 ⟨rfl, e4⟩; have E4 := grown_trans E3 e4; have s4 : True := trivial)
    | (go_at_call 64; have _t := s4; clear s4; refine (sameNotes_any na2 na T.length nc2 nc _ _ xs2 xsN _ (hN2.keep E4) (hN02.keep E4) (HX2.out.trans HT.out.symm) bT).mono ?_; rintro e we5 ⟨rfl, e5⟩; have E5 := grown_trans E4 e5))
  refine HK5.out _ _ ?_
  clear HK5
  have b7 := b7.keep E5 (by simp)
  have b11 := b11.keep E5 (by simp)
  have b12 := b12.keep E5 (by simp)
  have b15 := b15.keep E5 (by simp)
  have G5 := grown_trans G2' E5
  have zE5 := E5.size
  have hA1 := hA1.keep E5
  have hO1 := hO1.keep E5
  have hN1 := hN1.keep E5
  have hA2 := hA2.keep E5
  have hO2 := hO2.keep E5
  have hN2 := hN2.keep E5
  have hAH := hAH.keep E5
  have hOH := hOH.keep E5
  have hN05 := hN.keep G5
  clear e1 e2 e3 e4 e5 E2 E3 E4 hW2 hGW2 hN02 hL02 hG02 b6 KV hL0 hG0
  refine wp_seq_k fun K6 hK6 => ?_
  have HK6 : Hid _ := hK6
  clear hK6
  have s0 : True := trivial
  go_wp2_with (first
    | (have _t := s0; clear s0; refine wpList_ldX _ rfl _ (.tmp 7) rfl (w.heap.size + 1) _ rfl b7 Try.underlying48 i13 ?_; have s1 : True := trivial)
    | (go_at_call 40; have _t := s1; clear s1; refine (takerOf_any W.id W.kn W.nm W.si W.en W.la W.su qW W.G.length dW aW W.L.length cW W.st W.ti W.pa W.tr W.li (giF W.G) W.L we5 (hLW.keep G5) (hGW.keep G5) bW1 bW2).mono ?_; rintro e wcK ⟨aK, cK, qK, dK, rfl, hAK, hOK, yK⟩; rw [tab_giF] at hOK; have zK := yK.size; have bn := BxS.new wcK 48 #[.int .i64 0, .bool false, .string ⟨#[]⟩, .int .i64 0, .bool false, .int .i64 0, .int .i64 0, .slice none 0 0, .slice none 0 0, .int .i64 0, .int .i64 0, .int .i64 0, .int .i64 0, .int .i64 0]; have gn := World.grownBy_alloc wcK (.cells #[.int .i64 0, .bool false, .string ⟨#[]⟩, .int .i64 0, .bool false, .int .i64 0, .int .i64 0, .slice none 0 0, .slice none 0 0, .int .i64 0, .int .i64 0, .int .i64 0, .int .i64 0, .int .i64 0] 48) none; generalize hwn : wcK.alloc (.cells #[.int .i64 0, .bool false, .string ⟨#[]⟩, .int .i64 0, .bool false, .int .i64 0, .int .i64 0, .slice none 0 0, .slice none 0 0, .int .i64 0, .int .i64 0, .int .i64 0, .int .i64 0, .int .i64 0] 48) = wnK at bn gn; have s2 : True := trivial)
    | (have _t := s2; clear s2; refine wpList_stX _ rfl _ (.tmp 18) (.tmp 74) rfl wcK.heap.size _ _ rfl rfl bn i13 rfl (by simp [tkA, Value.oneCell']) ?_; intro wdK b18 uK))
  refine HK6.out _ _ ?_
  clear HK6
  unfold tkA at b18
  have YK : we5.grownBy wdK none := grown_far (grown_trans yK gn) uK (fun z e => by have e := Option.some.inj e; omega)
  have hAK : Ans wdK we5.heap.size aK W.L.length cK W.L := (hAK.keep gn).kRR uK (fun z e e2 => by have e := Option.some.inj e; subst e; exact own_ty (hAK.keep gn).own bn (by decide) e2)
  have hOK : OwGi wdK we5.heap.size qK W.G.length dK W.G := (hOK.keep gn).bx bn (by decide) uK
  obtain ⟨g18, hg18⟩ : ∃ g, wcK.heap.size = g := ⟨_, rfl⟩
  have lg18 : we5.heap.size ≤ g18 := by omega
  rw [hg18] at b18 ⊢
  clear hg18 uK bn gn hwn yK zK b7
  have GK := grown_trans G5 YK
  have b11 := b11.keep YK (by simp)
  have b12 := b12.keep YK (by simp)
  have b15 := b15.keep YK (by simp)
  have hA1 := hA1.keep YK
  have hO1 := hO1.keep YK
  have hN1 := hN1.keep YK
  have hA2 := hA2.keep YK
  have hO2 := hO2.keep YK
  have hN2 := hN2.keep YK
  have hAH := hAH.keep YK
  have hOH := hOH.keep YK
  have hN0K := hN.keep GK
  have zK5 := YK.size
  refine wp_seq_k fun K7 hK7 => ?_
  have HK7 : Hid _ := hK7
  clear hK7
  have x2 : wdK.cell? ⟨g12, 8, none⟩ = some (.slice a1 W.L.length c1) := b12.cell 8 (by show 8 < 14; decide)
  go_wp2_with (go_at_call 22; refine (spoil_any hA1 (by omega)).mono ?_; rintro e wf1 ⟨rfl, f1⟩)
  refine HK7.out _ _ ?_
  clear HK7
  clear x2
  have t1 : ∀ z, (Value.slice a1 W.L.length c1).ownBlock = some z → ∃ cs, BxS wdK z 5 cs := fun z e => own_bxS hA1.own e
  have b12 := b12.keep f1 (fun e => own_ty hA1.own b12 (by decide) e.symm)
  have b11 := b11.keep f1 (fun e => own_ty hA1.own b11 (by decide) e.symm)
  have hO1f := hO1.kR f1 (fun z e => by obtain ⟨cs, hb⟩ := t1 z e; exact hO1.neB hb (by decide))
  refine wp_seq_k fun K8 hK8 => ?_
  have HK8 : Hid _ := hK8
  clear hK8
  have x8 : wf1.cell? ⟨g12, 7, none⟩ = some (.slice q1 W.G.length d1) := b12.cell 7 (by show 7 < 14; decide)
  go_wp2_with (go_at_call 23; refine (overGi_any _ _ _ _ _ _ hO1f (by omega)).mono ?_; rintro e wf2 ⟨rfl, f2⟩)
  refine HK8.out _ _ ?_
  clear HK8
  clear x8
  have t2 : ∀ z, (Value.slice q1 W.G.length d1).ownBlock = some z → ∃ cs, BxS wf1 z 82 cs := fun z e => own_bxS hO1f.own e
  have b11 := b11.keep f2 (fun e => own_ty hO1f.own b11 (by decide) e.symm)
  have hAH1 := hAH.kRR f1 (fun z e e2 => by have h1 := II1.out z (.inl e); have h2 := IIH.out z (.inl e2); omega)
  have hAH2 := hAH1.kRR f2 (fun z e e2 => by obtain ⟨cs, hb⟩ := t2 z e; exact own_ty hAH1.own hb (by decide) e2)
  refine wp_seq_k fun K9 hK9 => ?_
  have HK9 : Hid _ := hK9
  clear hK9
  have x2 : wf2.cell? ⟨g11, 8, none⟩ = some (.slice aH V.L.length cH) := b11.cell 8 (by show 8 < 14; decide)
  go_wp2_with (go_at_call 22; refine (spoil_any hAH2 (by omega)).mono ?_; rintro e wf3 ⟨rfl, f3⟩)
  refine HK9.out _ _ ?_
  clear HK9
  clear x2
  have t3 : ∀ z, (Value.slice aH V.L.length cH).ownBlock = some z → ∃ cs, BxS wf2 z 5 cs := fun z e => own_bxS hAH2.own e
  have b11 := b11.keep f3 (fun e => own_ty hAH2.own b11 (by decide) e.symm)
  have hOH1 := hOH.kR f1 (fun z e => by obtain ⟨cs, hb⟩ := t1 z e; exact hOH.neB hb (by decide))
  have hOH2 := hOH1.kR f2 (fun z e e2 => by have h1 := II1.out z (.inr (.inl e)); have h2 := IIH.out z (.inr e2); omega)
  have hOH3 := hOH2.kR f3 (fun z e => by obtain ⟨cs, hb⟩ := t3 z e; exact hOH2.neB hb (by decide))
  refine wp_seq_k fun K10 hK10 => ?_
  have HK10 : Hid _ := hK10
  clear hK10
  have x8 : wf3.cell? ⟨g11, 7, none⟩ = some (.slice qH V.G.length dH) := b11.cell 7 (by show 7 < 14; decide)
  go_wp2_with (go_at_call 23; refine (overGi_any _ _ _ _ _ _ hOH3 (by omega)).mono ?_; rintro e wf4 ⟨rfl, f4⟩)
  refine HK10.out _ _ ?_
  clear HK10
  clear x8
  have hNf : OwN wf4 wdH.heap.size na1 T.length nc1 xs1 := (((hN1.kR f1 (fun z e => sA1 z e)).kR f2 (fun z e => sO1 z e)).kR f3 (fun z e e2 => by have h1 := II1.out z (.inr (.inr e2)); have h2 := IIH.out z (.inl e); omega)).kR f4 (fun z e e2 => by have h1 := II1.out z (.inr (.inr e2)); have h2 := IIH.out z (.inr e); omega)
  refine wp_seq_k fun K11 hK11 => ?_
  have HK11 : Hid _ := hK11
  clear hK11
  go_wp2_with (go_at_call 65; refine (overNotes_any _ _ _ _ _ _ hNf bT (fun x hx => HT2.out x.dt (by rw [← HX1.out]; exact List.mem_map_of_mem hx))).mono ?_; rintro e wf5 ⟨rfl, f5⟩)
  refine HK11.out _ _ ?_
  clear HK11
  have F : Fz (fun k => w2.heap.size ≤ k ∧ k < wd1.heap.size) wdK wf5 := by
    have F1 : Fz (fun k => w2.heap.size ≤ k ∧ k < wd1.heap.size) wdK wf1 := Fz.of f1 (fun k e => by have h1 := II1.out k (.inl e); omega)
    have F2 := F1.step f2 (fun k e _ => by have h1 := II1.out k (.inr (.inl e)); omega)
    have F3 := F2.step f3 (fun k e _ => by have h1 := IIH.out k (.inl e); omega)
    have F4 := F3.step f4 (fun k e _ => by have h1 := IIH.out k (.inr e); omega)
    exact F4.trans f5 (fun k _ e => by have h1 := II1.out k (.inr (.inr e)); omega)
  have b15 : BxS wf5 g15 48 #[.int .i64 W.id, .bool W.kn, .string W.nm, .int .i64 W.si, .bool W.en, .int .i64 W.la, .int .i64 W.su, .slice q2 W.G.length d2, .slice a2 W.L.length c2, .int .i64 W.st, .int .i64 W.ti, .int .i64 W.pa, .int .i64 W.tr, .int .i64 W.li] := (F.block g15 b15.lt (by omega)).trans b15
  have b18 : BxS wf5 g18 48 #[.int .i64 W.id, .bool W.kn, .string W.nm, .int .i64 W.si, .bool W.en, .int .i64 W.la, .int .i64 W.su, .slice qK W.G.length dK, .slice aK W.L.length cK, .int .i64 W.st, .int .i64 W.ti, .int .i64 W.pa, .int .i64 W.tr, .int .i64 W.li] := (F.block g18 b18.lt (by omega)).trans b18
  have hA2 := hA2.fzD F (fun z e => by have h1 := II2.out z (.inl e); omega)
  have hO2 := hO2.fzD F (fun z e => by have h1 := II2.out z (.inr (.inl e)); omega)
  have hN2 := hN2.fzD F (fun z e => by have h1 := II2.out z (.inr (.inr e)); omega)
  have hAK := hAK.fzD F (fun z e => by have h1 := hAK.new z e; omega)
  have hOK := hOK.fzD F (fun z e => by have h1 := hOK.new z e; omega)
  have hN0 := hN0K.fzD F (fun z e => by have h1 := hN.lt e; omega)
  have Gf : w.grownBy wf5 none := Fz.grown GK F (fun i hi => by omega)
  clear F f1 f2 f3 f4 f5 hAH1 hAH2 hOH1 hOH2 hOH3 hNf t1 t2 t3 hO1f hO1 hA1 hN1 hAH hOH b11 b12
  refine wp_seq_k fun K12 hK12 => ?_
  have HK12 : Hid _ := hK12
  clear hK12
  obtain ⟨c0, c1, c2, c3, c4, c5, c6, c7, c8, c9, c10, c11, c12, c13⟩ := (b15).cell14
  obtain ⟨d0, d1, d2, d3, d4, d5, d6, d7, d8, d9, d10, d11, d12, d13⟩ := (b18).cell14
  have s0 : True := trivial
  go_wp2_with (first
    | (go_at_call 29; have _t := s0; clear s0; refine (KS.out _ _ _ _ _ _ _ _ _ hA2.rd hAK.rd hO2.rd hOK.rd).mono ?_; rintro e wg1 ⟨rfl, e1⟩; clear c0 c1 c2 c3 c4 c5 c6 c7 c8 c9 c10 c11 c12 c13 d0 d1 d2 d3 d4 d5 d6 d7 d8 d9 d10 d11 d12 d13; have s1 : True := trivial)
    | (go_at_call 64; have _t := s1; clear s1; refine (sameNotes_any na2 na T.length nc2 nc _ _ xs2 xsN _ (hN2.keep e1) (hN0.keep e1) (HX2.out.trans HT.out.symm) bT).mono ?_; rintro e wg2 ⟨rfl, e2⟩))
  refine HK12.out _ _ ?_
  clear HK12
  go_wp2
  go_ret
  exact ⟨rfl, grown_trans (grown_trans Gf e1) e2⟩
end

section
/-- what the document's Give answers: the giver as it is read, the notes in new memory -/
def RDo (w : World) (V : Gv) (T : List Nt) (E : Nat) (e : Ending) (w' : World) : Prop :=
  ∃ a c q d na nc xs, e = .returned (.tuple #[.agg (gvA V.id V.nm (.slice a V.L.length c) V.mo V.bu V.st V.fi V.at' (.slice q V.G.length d) V.ti V.pa V.tr V.li), .slice na T.length nc, .int .i64 (E : Nat)]) ∧ xs.map Nx.dt = T ∧ Rd w' a V.L.length c V.L ∧ RdG w' q V.G.length d (giF V.G) ∧ OwN w' w.heap.size na T.length nc xs ∧ w.grownBy w' none
theorem DX.fin {wB w w' : World} {g1 g2 gv : Nat} {s0 : Int} {V : Gv} {a : Option Addr} {c : Nat} {q : Option Addr} {d : Nat} {na : Option Addr} {nn nc : Nat} {xs : List Nx} (h : DX wB w g1 g2 gv s0 V a c q d na nn nc xs) (u : w.grownBy w' (some g2)) {T : List Nt} (hT : xs.map Nx.dt = T) : RDo wB V T 0 (.returned (.tuple #[.agg #[.int .i64 V.id, .string V.nm, .slice a V.L.length c, .int .i64 V.mo, .int .i64 V.bu, .int .i64 V.st, .bool V.fi, .int .i64 V.at', .slice q V.G.length d, .int .i64 V.ti, .int .i64 V.pa, .int .i64 V.tr, .int .i64 V.li], .slice na nn nc, .int .i64 0])) w' := by
  obtain ⟨cs, k1, k2⟩ := h.b2
  have hl : nn = T.length := by rw [← hT, List.length_map, h.N.len]
  subst hl
  exact ⟨a, c, q, d, na, nc, xs, rfl, hT, (h.A.kRR u (fun z e e2 => by have e := Option.some.inj e; subst e; exact own_ty h.A.own k2 (by decide) e2)).rd, (h.O.bx k2 (by decide) u).rd, h.N.bx k2 (by decide) (by decide) (by decide) u, grown_far h.g u (fun z e => by have e := Option.some.inj e; have := h.l2; omega)⟩
end

section
theorem RdG.tab {w : World} {q : Option Addr} {m d : Nat} {F : Nat → Int × Int} (h : RdG w q m d F) : RdG w q m d (giF (tabG F m)) :=
  ⟨h.le, h.max, h.nil, fun h0 => by
    obtain ⟨b, off, e, hb, hc⟩ := h.at' h0
    exact ⟨b, off, e, hb, fun i hi => by rw [giF_tab F m i hi]; exact hc i hi⟩⟩
open Go.ChangeShapes Go.WideShapes
end

section
def NtO (t : Nt) : Prop := t.da.length ≤ 100000 ∧ t.ga.length ≤ 100000
end

section
open Go.ChangeShapes Go.WideShapes
set_option maxHeartbeats 8000000 in
theorem shown_taker {w : World} {full : Bool} {k : Nat} {v : Value} (h : (Sh.fcons 1 (.int .i64) (.fcons 1 .bool (.fcons 1 .str (.fcons 1 (.int .i64) (.fcons 1 .bool (.fcons 1 (.int .i64) (.fcons 1 (.int .i64) (.fcons 1 (.slice 2 16 (Sh.rep 1 (.int .i64) 2)) (.fcons 1 (.slice 1 1 (.int .u8)) (.fcons 1 (.int .i64) (.fcons 1 (.int .i64) (.fcons 1 (.int .i64) (.fcons 1 (.int .i64) (.fcons 1 (.int .i64) .fend)))))))))))))).shown w full v k) :
    ∃ (V : Tv) (a q : Option Addr) (c d : Nat), v = .agg (tkA V.id V.kn V.nm V.si V.en V.la V.su (.slice q V.G.length d) (.slice a V.L.length c) V.st V.ti V.pa V.tr V.li) ∧ Rd w a V.L.length c V.L ∧ RdG w q V.G.length d (giF V.G) ∧ (full = true → V.L.length ≤ 140737488351232) ∧ (full = true → V.G.length ≤ 8796093021952) := by
  obtain ⟨cs, rfl, hm⟩ := h
  obtain ⟨_, _, rfl, ⟨_, id, e0, r0⟩, _, _, rfl, ⟨_, kn, e1⟩, _, _, rfl, ⟨nm, e2, _⟩, _, _, rfl, ⟨_, si, e3, r3⟩, _, _, rfl, ⟨_, en, e4⟩, _, _, rfl, ⟨_, la, e5, r5⟩, _, _, rfl, ⟨_, su, e6, r6⟩, _, _, rfl, h7, _, _, rfl, h8, _, _, rfl, ⟨_, st, e9, r9⟩, _, _, rfl, ⟨_, ti, e10, r10⟩, _, _, rfl, ⟨_, pa, e11, r11⟩, _, _, rfl, ⟨_, tr, e12, r12⟩, _, _, rfl, ⟨_, li, e13, r13⟩, e14, _⟩ := hm
  obtain ⟨a, n, c, L, e8, hR, hf, _⟩ := met_bytes h8
  obtain ⟨q, m, d, F, e7, hG, hg, _⟩ := met_pairs h7
  have hl := hR.len
  subst hl
  have hG2 := hG.tab
  obtain ⟨G, hGG⟩ : ∃ G, tabG F m = G := ⟨_, rfl⟩
  have hlG : G.length = m := by rw [← hGG, tabG_len]
  rw [hGG] at hG2
  subst hlG
  refine ⟨⟨id, kn, nm, si, en, la, su, st, ti, pa, tr, li, L, G⟩, a, q, c, d, ?_, hR, hG2, (fun h9 => Nat.le_trans hR.le (hf h9)), (fun h9 => ?_)⟩
  · unfold tkA
    congr 1
    apply Array.toList_inj.1
    generalize cs.toList = l at *
    match l with
    | [] => simp at e0
    | [_] => simp at e1
    | [_, _] => simp at e2
    | [_, _, _] => simp at e3
    | [_, _, _, _] => simp at e4
    | [_, _, _, _, _] => simp at e5
    | [_, _, _, _, _, _] => simp at e6
    | [_, _, _, _, _, _, _] => simp at e7
    | [_, _, _, _, _, _, _, _] => simp at e8
    | [_, _, _, _, _, _, _, _, _] => simp at e9
    | [_, _, _, _, _, _, _, _, _, _] => simp at e10
    | [_, _, _, _, _, _, _, _, _, _, _] => simp at e11
    | [_, _, _, _, _, _, _, _, _, _, _, _] => simp at e12
    | [_, _, _, _, _, _, _, _, _, _, _, _, _] => simp at e13
    | [x0, x1, x2, x3, x4, x5, x6, x7, x8, x9, x10, x11, x12, x13] => simp_all
    | x0 :: x1 :: x2 :: x3 :: x4 :: x5 :: x6 :: x7 :: x8 :: x9 :: x10 :: x11 :: x12 :: x13 :: x14 :: r => simp at e14
  · have h1 := hg h9
    have h2 := hG.le
    unfold reachBytes at h1
    show G.length ≤ _
    omega
end
end Go.Proofs.Ytnimehkfnpepfaa
