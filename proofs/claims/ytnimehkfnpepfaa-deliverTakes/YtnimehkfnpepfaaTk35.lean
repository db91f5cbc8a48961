import Derived.Test.YtnimehkfnpepfaaTk34
import Derived.Test.YtnimehkfnpepfaaTk4
import Derived.Test.YtnimehkfnpepfaaTk7
import Derived.Test.YtnimehkfnpepfaaTk9
import Derived.Test.YtnimehkfnpepfaaTk6
namespace Go.Proofs.Ytnimehkfnpepfaa
open Go.RowKit
set_option maxRecDepth 100000
set_option linter.unusedVariables false
set_option linter.unusedSimpArgs false

section
set_option maxHeartbeats 64000000 in
theorem takes_walk (V : Tv) (a q : Option Addr) (c d : Nat) (kd nid : Int) (nm2 : ByteArray) (si2 su2 at2 : Int) (pa2 : Option Addr) (pn pc : Nat) (ga : Option Addr) (gm gd : Nat) (o co : Int) (D2 : List Nat) (F2 : Nat → Int × Int) (w : World) (hL : Rd w a V.L.length c V.L) (hG : RdG w q V.G.length d (giF V.G)) (hD : Rd w pa2 pn pc D2) (hF2 : RdG w ga gm gd F2) (hn : V.L.length ≤ 140737488351232) (hm : V.G.length ≤ 8796093021952) (hpn : pn ≤ 140737488351232) (hgm : gm ≤ 8796093021952) :
    Calls Try.prog 8 #[.agg (tkA V.id V.kn V.nm V.si V.en V.la V.su (.slice q V.G.length d) (.slice a V.L.length c) V.st V.ti V.pa V.tr V.li), .agg (ntA kd nid nm2 si2 su2 at2 (.slice pa2 pn pc) (.slice ga gm gd) o co)] w fun e w' => e = .returned (.bool true) ∧ Below w.heap.size w w' := by
  have i14 := Try.info_tk
  have i10 := Try.info_nt
  have hbd := ta_bounds V kd nid nm2 si2 su2 at2 pn gm o co F2 D2 hD.len hn hm
  have kR := fun wz (aa qq : Option Addr) (cc dd : Nat) (pp : Option Addr) (pq : Nat) (gg : Option Addr) (gdd : Nat) (k1 : Rd wz aa V.L.length cc V.L) (k2 : RdG wz qq V.G.length dd (giF V.G)) (k3 : Rd wz pp pn pq D2) (k4 : RdG wz gg gm gdd F2) => take_any V aa qq cc dd kd nid nm2 si2 su2 at2 pp pn pq gg gm gdd o co F2 D2 wz k1 k2 hn hm k3 k4
  have kD := fun wz (k1 : Rd wz a V.L.length c V.L) (k2 : RdG wz q V.G.length d (giF V.G)) (k3 : Rd wz pa2 pn pc D2) (k4 : RdG wz ga gm gd F2) => rtake_any V a q c d kd nid nm2 si2 su2 at2 pa2 pn pc ga gm gd o co F2 D2 wz k1 k2 hn hm k3 k4 (by omega)
  have kO := fun wz (k1 : Rd wz a V.L.length c V.L) (k : RdG wz q V.G.length d (giF V.G)) => takerOf_any V.id V.kn V.nm V.si V.en V.la V.su q V.G.length d a V.L.length c V.st V.ti V.pa V.tr V.li (giF V.G) V.L wz k1 k hn hm
  generalize (taV (tmB V.id V.kn V.nm V.si V.en V.la V.su (giF V.G) V.G.length V.L V.st V.ti V.pa V.tr V.li) (wnE (ntB kd nid nm2.size si2 su2 at2 pn gm o co (alG F2 65536 gm)) nid V.id (hasK [1, 2, 3, 6] kd 4)) V (heV V kd o nm2 si2 su2 at2.toNat D2)) = R at hbd kR kD
  obtain ⟨W, T, E⟩ := R
  dsimp only at hbd kR kD
  obtain ⟨bW1, bW2, hT1, hT2⟩ := hbd
  have KR : Hid _ := kR
  have HT2 : Hid _ := hT2
  clear kR hT2
  unfold tkA ntA at kD
  unfold tkA at kO
  have KO : Hid _ := kO
  clear kO
  have b2 := BxS.new w 48 #[.int .i64 V.id, .bool V.kn, .string V.nm, .int .i64 V.si, .bool V.en, .int .i64 V.la, .int .i64 V.su, .slice q V.G.length d, .slice a V.L.length c, .int .i64 V.st, .int .i64 V.ti, .int .i64 V.pa, .int .i64 V.tr, .int .i64 V.li]
  have y2 := World.grownBy_alloc w (.cells #[.int .i64 V.id, .bool V.kn, .string V.nm, .int .i64 V.si, .bool V.en, .int .i64 V.la, .int .i64 V.su, .slice q V.G.length d, .slice a V.L.length c, .int .i64 V.st, .int .i64 V.ti, .int .i64 V.pa, .int .i64 V.tr, .int .i64 V.li] 48) none
  unfold tkA ntA
  have hz2 : (w.alloc (.cells #[.int .i64 V.id, .bool V.kn, .string V.nm, .int .i64 V.si, .bool V.en, .int .i64 V.la, .int .i64 V.su, .slice q V.G.length d, .slice a V.L.length c, .int .i64 V.st, .int .i64 V.ti, .int .i64 V.pa, .int .i64 V.tr, .int .i64 V.li] 48)).heap.size = w.heap.size + 1 := by simp
  generalize hw2 : w.alloc (.cells #[.int .i64 V.id, .bool V.kn, .string V.nm, .int .i64 V.si, .bool V.en, .int .i64 V.la, .int .i64 V.su, .slice q V.G.length d, .slice a V.L.length c, .int .i64 V.st, .int .i64 V.ti, .int .i64 V.pa, .int .i64 V.tr, .int .i64 V.li] 48) = w2 at b2 y2 hz2
  have b3 := BxS.new w2 27 #[.int .i64 kd, .int .i64 nid, .string nm2, .int .i64 si2, .int .i64 su2, .int .i64 at2, .slice pa2 pn pc, .slice ga gm gd, .int .i64 o, .int .i64 co]
  have y3 := World.grownBy_alloc w2 (.cells #[.int .i64 kd, .int .i64 nid, .string nm2, .int .i64 si2, .int .i64 su2, .int .i64 at2, .slice pa2 pn pc, .slice ga gm gd, .int .i64 o, .int .i64 co] 27) none
  rw [hz2] at b3
  generalize hw3 : w2.alloc (.cells #[.int .i64 kd, .int .i64 nid, .string nm2, .int .i64 si2, .int .i64 su2, .int .i64 at2, .slice pa2 pn pc, .slice ga gm gd, .int .i64 o, .int .i64 co] 27) = w3 at b3 y3
  have G3 := grown_trans y2 y3
  have b2 := b2.keep y3 (by simp)
  go_enter Try.func8, Try.ntmps8
  refine wp_seq_k fun K1 hK1 => ?_
  have HK1 : Hid _ := hK1
  clear hK1
  go_wp2
  refine HK1.out _ _ ?_
  clear HK1
  clear hw2 hw3 hz2 y2 y3
  refine wp_seq_k fun K2 hK2 => ?_
  have HK2 : Hid _ := hK2
  clear hK2
  have s0 : True := trivial
  go_wp2_with (first
    | (have _t := s0; clear s0; refine wpList_ldX _ rfl _ (.tmp 2) rfl w.heap.size _ rfl b2 Try.underlying48 i14 ?_; have s1 : True := trivial)
    | (have _t := s1; clear s1; refine wpList_ldX _ rfl _ (.tmp 3) rfl (w.heap.size + 1) _ rfl b3 Try.underlying27 i10 ?_; have s2 : True := trivial)
    | (go_at_call 36; have _t := s2; clear s2; refine (kD _ (hL.keep G3) (hG.keep G3) (hD.keep G3) (hF2.keep G3)).mono ?_; rintro e w4 ⟨aW, cW, qW, dW, na, nc, xsN, rfl, hxN, hAW, hOW, hNW, y4⟩; have z4 := y4.size; have z3 := G3.size; have bn := BxS.new w4 48 #[.int .i64 0, .bool false, .string ⟨#[]⟩, .int .i64 0, .bool false, .int .i64 0, .int .i64 0, .slice none 0 0, .slice none 0 0, .int .i64 0, .int .i64 0, .int .i64 0, .int .i64 0, .int .i64 0]; have gn := World.grownBy_alloc w4 (.cells #[.int .i64 0, .bool false, .string ⟨#[]⟩, .int .i64 0, .bool false, .int .i64 0, .int .i64 0, .slice none 0 0, .slice none 0 0, .int .i64 0, .int .i64 0, .int .i64 0, .int .i64 0, .int .i64 0] 48) none; generalize hwn : w4.alloc (.cells #[.int .i64 0, .bool false, .string ⟨#[]⟩, .int .i64 0, .bool false, .int .i64 0, .int .i64 0, .slice none 0 0, .slice none 0 0, .int .i64 0, .int .i64 0, .int .i64 0, .int .i64 0, .int .i64 0] 48) = w5 at bn gn; have s3 : True := trivial)
    | (have _t := s3; clear s3; refine wpList_stX _ rfl _ (.tmp 5) (.tmp 17) rfl w4.heap.size _ _ rfl rfl bn i14 rfl (by simp [tkA, Value.oneCell']) ?_; intro w6 b5 u6))
  refine HK2.out _ _ ?_
  clear HK2
  try unfold tkA at b5
  have Y46 : w4.grownBy w6 none := grown_far gn u6 (fun z e => by have e := Option.some.inj e; omega)
  have Y6 : w3.grownBy w6 none := grown_trans y4 Y46
  have hLW6 := hAW.keep Y46
  have hGW6 := hOW.keep Y46
  have hNW := hNW.keep Y46
  obtain ⟨g5, hg5⟩ : ∃ g, w4.heap.size = g := ⟨_, rfl⟩
  rw [hg5] at b5 ⊢
  have b2lt := b2.lt
  have hg53 : w3.heap.size ≤ g5 := by omega
  clear hg5 u6 bn gn hwn y4 z4 z3 kD hAW hOW Y46
  have G6 := grown_trans G3 Y6
  have b2 := b2.keep Y6 (by simp)
  have b3 := b3.keep Y6 (by simp)
  refine wp_seq_k fun K3 hK3 => ?_
  have HK3 : Hid _ := hK3
  clear hK3
  have s0 : True := trivial
  have kN := fun wz (k1 : Rd wz pa2 pn pc D2) (k2 : RdG wz ga gm gd F2) => noteOwn_any kd nid nm2 si2 su2 at2 o co pa2 ga pn pc gm gd D2 F2 wz k1 k2 hpn (by omega)
  unfold ntA at kN
  go_wp2_with (first
    | (have _t := s0; clear s0; refine wpList_ldX _ rfl _ (.tmp 3) rfl (w.heap.size + 1) _ rfl b3 Try.underlying27 i10 ?_; have s1 : True := trivial)
    | (go_at_call 11; have _t := s1; clear s1; refine (kN _ (hD.keep G6) (hF2.keep G6)).mono ?_; rintro e w7 ⟨gh, gq, gd', DD, rfl, lgh, hRo, hFh, lgq, y7⟩; have z7 := y7.size; have bn := BxS.new w7 27 #[.int .i64 0, .int .i64 0, .string ⟨#[]⟩, .int .i64 0, .int .i64 0, .int .i64 0, .slice none 0 0, .slice none 0 0, .int .i64 0, .int .i64 0]; have gn := World.grownBy_alloc w7 (.cells #[.int .i64 0, .int .i64 0, .string ⟨#[]⟩, .int .i64 0, .int .i64 0, .int .i64 0, .slice none 0 0, .slice none 0 0, .int .i64 0, .int .i64 0] 27) none; generalize hwn : w7.alloc (.cells #[.int .i64 0, .int .i64 0, .string ⟨#[]⟩, .int .i64 0, .int .i64 0, .int .i64 0, .slice none 0 0, .slice none 0 0, .int .i64 0, .int .i64 0] 27) = w8 at bn gn; have s2 : True := trivial)
    | (have _t := s2; clear s2; refine wpList_stX _ rfl _ (.tmp 8) (.tmp 21) rfl w7.heap.size _ _ rfl rfl bn i10 rfl (by simp [ntA, Value.oneCell']) ?_; intro w9 b8 u9))
  refine HK3.out _ _ ?_
  clear HK3
  clear kN
  try unfold ntA at b8
  have Y9 : w6.grownBy w9 none := grown_far (grown_trans y7 gn) u9 (fun z e => by have e := Option.some.inj e; omega)
  have Y79 : w7.grownBy w9 none := grown_far gn u9 (fun z e => by have e := Option.some.inj e; omega)
  have hAh : Ans w9 0 (some ⟨gh, 0, none⟩) pn (pn + 5) D2 := (hRo.ans hD.byte hD.len hpn (Nat.zero_le _)).keep Y79
  have hFh9 : RdG w9 gq gm gd' F2 := hFh.keep Y79
  have hgh6 := lgh
  have hghw : w.heap.size ≤ gh := by have := G6.size; omega
  obtain ⟨g8, hg8⟩ : ∃ g, w7.heap.size = g := ⟨_, rfl⟩
  rw [hg8] at b8 ⊢
  clear hg8 u9 bn gn hwn y7 z7 hRo hFh lgq lgh Y79
  have hDh := hAh.rd
  have G9 := grown_trans G6 Y9
  have b2 := b2.keep Y9 (by simp)
  have b3 := b3.keep Y9 (by simp)
  have b5 := b5.keep Y9 (by simp)
  have hAW := hLW6.keep Y9
  have hOW := hGW6.keep Y9
  have hNW := hNW.keep Y9
  refine wp_seq_k fun K4 hK4 => ?_
  have HK4 : Hid _ := hK4
  clear hK4
  go_wp2
  refine HK4.out _ _ ?_
  clear HK4
  refine wp_seq_k fun K5 hK5 => ?_
  have HK5 : Hid _ := hK5
  clear hK5
  have kA := takerAs_take V W T E a q aW qW na c d cW dW nc _ xsN w9 g8 (fun wz => w9.grownBy wz none) (fun x y h1 h2 => grown_trans h1 h2) (World.grownBy.refl _ _) (fun wz aa cc qq dd hI k1 k2 => take1_any V W T E aa qq cc dd g8 kd nid nm2 si2 su2 at2 (some ⟨gh, 0, none⟩) pn (pn + 5) gq gm gd' o co wz (by have := b8.keep hI (by simp); exact this) (fun wy hy => KR.out wy aa qq cc dd _ _ _ _ (k1.keep hy) (k2.keep hy) ((hDh.keep hI).keep hy) ((hFh9.keep hI).keep hy))) (hL.keep G9) (hG.keep G9) hAW hOW hNW hxN hn hm bW1 bW2 hT1 HT2.out
  unfold tkA at kA
  have KA : Hid _ := kA
  clear kA
  have s0 : True := trivial
  go_wp2_with (first
    | (have _t := s0; clear s0; refine wpList_ldX _ rfl _ (.tmp 2) rfl w.heap.size _ rfl b2 Try.underlying48 i14 ?_; have s1 : True := trivial)
    | (have _t := s1; clear s1; refine wpList_ldX _ rfl _ (.tmp 5) rfl g5 _ rfl b5 Try.underlying48 i14 ?_; have s2 : True := trivial)
    | (go_at_call 39; have _t := s2; clear s2; refine Calls.mono KA.out ?_; rintro e wA ⟨rfl, yA⟩; obtain ⟨c0, c1, c2, c3, c4, c5, c6, c7, c8, c9⟩ := (b8.keep yA (by simp)).cell10; obtain ⟨d0, d1, d2, d3, d4, d5, d6, d7, d8, d9⟩ := (b3.keep yA (by simp)).cell10; have GA := grown_trans G9 yA; have s3 : True := trivial)
    | (go_at_call 15; have _t := s3; clear s3; refine (sameNote_any kd nid nm2 si2 su2 at2 o co _ _ _ _ pn _ _ gm _ _ D2 F2 F2 wA (hDh.keep yA) (hD.keep GA) (hFh9.keep yA) (hF2.keep GA) (fun _ _ => rfl)).mono ?_; rintro e wB ⟨rfl, yB⟩))
  try simp only [Exit.then]
  refine HK5.out _ _ ?_
  clear HK5
  clear c0 d0 c1 d1 c2 d2 c3 d3 c4 d4 c5 d5 c6 d6 c7 d7 c8 d8 c9 d9 KA
  have yAB := grown_trans yA yB
  have GB := grown_trans GA yB
  have G6B := grown_trans Y9 yAB
  have b2 := b2.keep yAB (by simp)
  have b8 := b8.keep yAB (by simp)
  have b5B := b5.keep yAB (by simp)
  have hAhB := hAh.keep yAB
  have hDhB := hDh.keep yAB
  have hFhB := hFh9.keep yAB
  clear b5 b3 hAh hDh hFh9 hAW hOW hNW yA yB GA
  refine wp_seq_k fun K6 hK6 => ?_
  have HK6 : Hid _ := hK6
  clear hK6
  have Gd := grown_drew wB none
  have SS : BxS wB.drew w.heap.size 48 #[.int .i64 V.id, .bool V.kn, .string V.nm, .int .i64 V.si, .bool V.en, .int .i64 V.la, .int .i64 V.su, .slice q V.G.length d, .slice a V.L.length c, .int .i64 V.st, .int .i64 V.ti, .int .i64 V.pa, .int .i64 V.tr, .int .i64 V.li] ∧ BxS wB.drew g8 27 #[.int .i64 kd, .int .i64 nid, .string nm2, .int .i64 si2, .int .i64 su2, .int .i64 at2, .slice (some ⟨gh, 0, none⟩) pn (pn + 5), .slice gq gm gd', .int .i64 o, .int .i64 co] := ⟨b2.keep Gd (by simp), b8.keep Gd (by simp)⟩
  refine wp_regionL (fun wz => BxS wz w.heap.size 48 #[.int .i64 V.id, .bool V.kn, .string V.nm, .int .i64 V.si, .bool V.en, .int .i64 V.la, .int .i64 V.su, .slice q V.G.length d, .slice a V.L.length c, .int .i64 V.st, .int .i64 V.ti, .int .i64 V.pa, .int .i64 V.tr, .int .i64 V.li] ∧ BxS wz g8 27 #[.int .i64 kd, .int .i64 nid, .string nm2, .int .i64 si2, .int .i64 su2, .int .i64 at2, .slice (some ⟨gh, 0, none⟩) pn (pn + 5), .slice gq gm gd', .int .i64 o, .int .i64 co]) [] #[false, false, false, false, false, false, false, false, false, false, false, false] rfl (by kernel_rfl) ?_
  generalize wB.drew = wd at *
  refine wpAnyZ_take [] 0 (.agg #[.int .i64 V.id, .bool V.kn, .string V.nm, .int .i64 V.si, .bool V.en, .int .i64 V.la, .int .i64 V.su, .slice q V.G.length d, .slice a V.L.length c, .int .i64 V.st, .int .i64 V.ti, .int .i64 V.pa, .int .i64 V.tr, .int .i64 V.li]) rfl (by kernel_rfl) (fun _ _ _ h => h) SS rfl (by rintro wz ⟨hz, hz8⟩; exact ld_execD rfl rfl hz Try.underlying48 i14) ?_
  try simp only [List.getElem_toArray, List.getElem_cons_succ, List.getElem_cons_zero, Act.put, List.setIfInBounds_toArray, List.set_cons_zero, List.set_cons_succ]
  refine wpAnyZ_take [] 2 (.agg #[.int .i64 kd, .int .i64 nid, .string nm2, .int .i64 si2, .int .i64 su2, .int .i64 at2, .slice (some ⟨gh, 0, none⟩) pn (pn + 5), .slice gq gm gd', .int .i64 o, .int .i64 co]) rfl (by kernel_rfl) (fun _ _ _ h => h) SS rfl (by rintro wz ⟨hz, hz8⟩; exact ld_execD rfl rfl hz8 Try.underlying27 i10) ?_
  try simp only [List.getElem_toArray, List.getElem_cons_succ, List.getElem_cons_zero, Act.put, List.setIfInBounds_toArray, List.set_cons_zero, List.set_cons_succ]
  have GD := grown_trans GB Gd
  have G6d := grown_trans G6B Gd
  have hAhd := hAhB.keep Gd
  have hDhd := hDhB.keep Gd
  have hFhd := hFhB.keep Gd
  have b5d := b5B.keep Gd (by simp)
  refine wpAnyZ_twoD 1 8 rfl rfl (by kernel_rfl) (fun KK hKK => ?_) (fun KK hKK => ?_)
  · go_simp
    go_at_call 40
    refine (KO.out wd (hL.keep GD) (hG.keep GD)).mono ?_
    rintro e wx0 ⟨aH, cH, qH, dH, rfl, hAH, hOH, yx0⟩
    dsimp only
    rw [tab_giF] at hOH
    have hAH := hAH.rd
    have hOH := hOH.rd
    have Sx0 : BxS wx0 w.heap.size 48 #[.int .i64 V.id, .bool V.kn, .string V.nm, .int .i64 V.si, .bool V.en, .int .i64 V.la, .int .i64 V.su, .slice q V.G.length d, .slice a V.L.length c, .int .i64 V.st, .int .i64 V.ti, .int .i64 V.pa, .int .i64 V.tr, .int .i64 V.li] ∧ BxS wx0 g8 27 #[.int .i64 kd, .int .i64 nid, .string nm2, .int .i64 si2, .int .i64 su2, .int .i64 at2, .slice (some ⟨gh, 0, none⟩) pn (pn + 5), .slice gq gm gd', .int .i64 o, .int .i64 co] := ⟨SS.1.keep yx0 (by simp), SS.2.keep yx0 (by simp)⟩
    refine hKK _ _ (fun _ => Sx0) ?_
    try simp only [List.getElem_toArray, List.getElem_cons_succ, List.getElem_cons_zero, Act.put, List.setIfInBounds_toArray, List.set_cons_zero, List.set_cons_succ]
    have Gx0 := grown_trans GD yx0
    have G6d := grown_trans G6d yx0
    have hAhd := hAhd.keep yx0
    have hDhd := hDhd.keep yx0
    have hFhd := hFhd.keep yx0
    have b5d := b5d.keep yx0 (by simp)
    refine wpAnyZ_twoD 3 8 rfl rfl (by kernel_rfl) (fun KK hKK => ?_) (fun KK hKK => ?_)
    · have hAh_1 := hAhd
      go_simp
      go_at_call 38
      refine (KR.out wx0 aH qH cH dH _ _ _ _ hAH hOH hDhd hFhd).mono ?_
      rintro e wx1 ⟨a1, c1, q1, d1, na1, nc1, xs1, rfl, hx1, hA1, hO1, hN1, sA1, sO1, yx1⟩
      dsimp only
      have Sx1 : BxS wx1 w.heap.size 48 #[.int .i64 V.id, .bool V.kn, .string V.nm, .int .i64 V.si, .bool V.en, .int .i64 V.la, .int .i64 V.su, .slice q V.G.length d, .slice a V.L.length c, .int .i64 V.st, .int .i64 V.ti, .int .i64 V.pa, .int .i64 V.tr, .int .i64 V.li] ∧ BxS wx1 g8 27 #[.int .i64 kd, .int .i64 nid, .string nm2, .int .i64 si2, .int .i64 su2, .int .i64 at2, .slice (some ⟨gh, 0, none⟩) pn (pn + 5), .slice gq gm gd', .int .i64 o, .int .i64 co] := ⟨Sx0.1.keep yx1 (by simp), Sx0.2.keep yx1 (by simp)⟩
      refine hKK _ _ (fun _ => Sx1) ?_
      try simp only [List.getElem_toArray, List.getElem_cons_succ, List.getElem_cons_zero, Act.put, List.setIfInBounds_toArray, List.set_cons_zero, List.set_cons_succ]
      have Gx1 := grown_trans Gx0 yx1
      have G6d := grown_trans G6d yx1
      have hAhd := hAhd.keep yx1
      have hDhd := hDhd.keep yx1
      have hFhd := hFhd.keep yx1
      have b5d := b5d.keep yx1 (by simp)
      have hAH := hAH.keep yx1
      have hOH := hOH.keep yx1
      have hlo1 : gh < wx0.heap.size := own_ltN (g := gh) hAh_1.own rfl
      refine wpAnyZ_take [] 4 (.tuple #[.agg (tkA W.id W.kn W.nm W.si W.en W.la W.su (.slice q1 W.G.length d1) (.slice a1 W.L.length c1) W.st W.ti W.pa W.tr W.li), .slice na1 T.length nc1, .int .i64 (E : Nat)]) rfl (by kernel_rfl) (fun _ _ _ h => h) Sx1 rfl (by intro wz hz; go_simp) ?_
      try simp only [List.getElem_toArray, List.getElem_cons_succ, List.getElem_cons_zero, Act.put, List.setIfInBounds_toArray, List.set_cons_zero, List.set_cons_succ]
      refine wpAnyZ_take [] 5 (.agg (tkA W.id W.kn W.nm W.si W.en W.la W.su (.slice q1 W.G.length d1) (.slice a1 W.L.length c1) W.st W.ti W.pa W.tr W.li)) rfl (by kernel_rfl) (fun _ _ _ h => h) Sx1 rfl (by intro wz hz; go_simp) ?_
      try simp only [List.getElem_toArray, List.getElem_cons_succ, List.getElem_cons_zero, Act.put, List.setIfInBounds_toArray, List.set_cons_zero, List.set_cons_succ]
      refine wpAnyZ_take [] 6 (.slice na1 T.length nc1) rfl (by kernel_rfl) (fun _ _ _ h => h) Sx1 rfl (by intro wz hz; go_simp) ?_
      try simp only [List.getElem_toArray, List.getElem_cons_succ, List.getElem_cons_zero, Act.put, List.setIfInBounds_toArray, List.set_cons_zero, List.set_cons_succ]
      refine wpAnyZ_take [] 7 (.int .i64 (E : Nat)) rfl (by kernel_rfl) (fun _ _ _ h => h) Sx1 rfl (by intro wz hz; go_simp) ?_
      try simp only [List.getElem_toArray, List.getElem_cons_succ, List.getElem_cons_zero, Act.put, List.setIfInBounds_toArray, List.set_cons_zero, List.set_cons_succ]
      refine wpAnyZ_oneB 8 rfl (by kernel_rfl) (fun KK hKK => ?_)
      have bn := BxS.new wx1 48 #[.int .i64 0, .bool false, .string ⟨#[]⟩, .int .i64 0, .bool false, .int .i64 0, .int .i64 0, .slice none 0 0, .slice none 0 0, .int .i64 0, .int .i64 0, .int .i64 0, .int .i64 0, .int .i64 0]
      have yx2 := World.grownBy_alloc wx1 (.cells #[.int .i64 0, .bool false, .string ⟨#[]⟩, .int .i64 0, .bool false, .int .i64 0, .int .i64 0, .slice none 0 0, .slice none 0 0, .int .i64 0, .int .i64 0, .int .i64 0, .int .i64 0, .int .i64 0] 48) none
      go_simp
      obtain ⟨g10, hg10⟩ : ∃ g, wx1.heap.size = g := ⟨_, rfl⟩
      rw [hg10] at bn ⊢
      have sz6 := G6d.size
      have hn10 : w6.heap.size ≤ g10 ∧ g5 < g10 ∧ w.heap.size < g10 := by have := b5d.lt; have := b2lt; omega
      clear hg10
      have Sx2 : BxS (wx1.alloc (.cells #[.int .i64 0, .bool false, .string ⟨#[]⟩, .int .i64 0, .bool false, .int .i64 0, .int .i64 0, .slice none 0 0, .slice none 0 0, .int .i64 0, .int .i64 0, .int .i64 0, .int .i64 0, .int .i64 0] 48)) w.heap.size 48 #[.int .i64 V.id, .bool V.kn, .string V.nm, .int .i64 V.si, .bool V.en, .int .i64 V.la, .int .i64 V.su, .slice q V.G.length d, .slice a V.L.length c, .int .i64 V.st, .int .i64 V.ti, .int .i64 V.pa, .int .i64 V.tr, .int .i64 V.li] ∧ BxS (wx1.alloc (.cells #[.int .i64 0, .bool false, .string ⟨#[]⟩, .int .i64 0, .bool false, .int .i64 0, .int .i64 0, .slice none 0 0, .slice none 0 0, .int .i64 0, .int .i64 0, .int .i64 0, .int .i64 0, .int .i64 0] 48)) g8 27 #[.int .i64 kd, .int .i64 nid, .string nm2, .int .i64 si2, .int .i64 su2, .int .i64 at2, .slice (some ⟨gh, 0, none⟩) pn (pn + 5), .slice gq gm gd', .int .i64 o, .int .i64 co] := ⟨Sx1.1.keep yx2 (by simp), Sx1.2.keep yx2 (by simp)⟩
      refine hKK _ _ (fun _ => Sx2) ?_
      try simp only [List.getElem_toArray, List.getElem_cons_succ, List.getElem_cons_zero, Act.put, List.setIfInBounds_toArray, List.set_cons_zero, List.set_cons_succ]
      generalize wx1.alloc (.cells #[.int .i64 0, .bool false, .string ⟨#[]⟩, .int .i64 0, .bool false, .int .i64 0, .int .i64 0, .slice none 0 0, .slice none 0 0, .int .i64 0, .int .i64 0, .int .i64 0, .int .i64 0, .int .i64 0] 48) = wx2 at *
      have Gx2 := grown_trans Gx1 yx2
      have G6d := grown_trans G6d yx2
      have hAhd := hAhd.keep yx2
      have hDhd := hDhd.keep yx2
      have hFhd := hFhd.keep yx2
      have b5d := b5d.keep yx2 (by simp)
      have hAH := hAH.keep yx2
      have hOH := hOH.keep yx2
      have hA1 := hA1.keep yx2
      have hO1 := hO1.keep yx2
      refine wpAnyZ_oneB 9 rfl (by kernel_rfl) (fun KK hKK => ?_)
      refine step_stX _ rfl _ _ _ rfl g10 _ _ rfl rfl bn i14 rfl (by simp [tkA, Value.oneCell']) ?_
      intro we be ue
      have Se : BxS we w.heap.size 48 #[.int .i64 V.id, .bool V.kn, .string V.nm, .int .i64 V.si, .bool V.en, .int .i64 V.la, .int .i64 V.su, .slice q V.G.length d, .slice a V.L.length c, .int .i64 V.st, .int .i64 V.ti, .int .i64 V.pa, .int .i64 V.tr, .int .i64 V.li] ∧ BxS we g8 27 #[.int .i64 kd, .int .i64 nid, .string nm2, .int .i64 si2, .int .i64 su2, .int .i64 at2, .slice (some ⟨gh, 0, none⟩) pn (pn + 5), .slice gq gm gd', .int .i64 o, .int .i64 co] := ⟨Sx2.1.keep ue (fun e => (fun e9 : w.heap.size = g10 => by have := b2lt; have := hn10; omega) (Option.some.inj e)), Sx2.2.keep ue (fun e => BxS.apart Sx2.2 bn (by decide) (Option.some.inj e))⟩
      refine hKK _ _ (fun _ => Se) ?_
      try simp only [List.getElem_toArray, List.getElem_cons_succ, List.getElem_cons_zero, Act.put, List.setIfInBounds_toArray, List.set_cons_zero, List.set_cons_succ]
      refine wpAnyZ_take [] 10 (.slice na1 T.length nc1) rfl (by kernel_rfl) (fun _ _ _ h => h) Se rfl (by intro wz hz; go_simp) ?_
      try simp only [List.getElem_toArray, List.getElem_cons_succ, List.getElem_cons_zero, Act.put, List.setIfInBounds_toArray, List.set_cons_zero, List.set_cons_succ]
      refine wpAnyZ_take [] 11 (.int .i64 (E : Nat)) rfl (by kernel_rfl) (fun _ _ _ h => h) Se rfl (by intro wz hz; go_simp) ?_
      try simp only [List.getElem_toArray, List.getElem_cons_succ, List.getElem_cons_zero, Act.put, List.setIfInBounds_toArray, List.set_cons_zero, List.set_cons_succ]
      refine wpAnyZ_doneB (by kernel_rfl) ?_ _
      refine HK6.out _ _ ?_
      clear HK6
      unfold tkA at be
      have Ge : w.grownBy we none := grown_far Gx2 ue (fun z e => by have e := Option.some.inj e; omega)
      have G6e : w6.grownBy we none := grown_far G6d ue (fun z e => by have e := Option.some.inj e; omega)
      have hA1e := hA1.kRR ue (fun z e e2 => by have e := Option.some.inj e; subst e; exact own_ty hA1.own bn (by decide) e2)
      have hO1e := hO1.bx bn (by decide) ue
      have hAhe := hAhd.kRR ue (fun z e e2 => by have e := Option.some.inj e; subst e; exact own_ty hAhd.own bn (by decide) e2)
      have b5e := b5d.keep ue (fun e => by have e := Option.some.inj e; omega)
      refine dt_t7 _ w w6 we W g5 g8 g10 gh kd nid nm2 si2 su2 at2 pn gq gm gd' o co D2 aW qW a1 q1 cW dW c1 d1 _ b5e Se.2 be hAhe hpn hLW6 hGW6 hgh6 G6e hA1e hO1e hlo1 ?_
      intro w' u9
      exact ⟨rfl, (Below.refl _ _).grown (grown_far Ge u9 (fun z e => by have e := Option.some.inj e; omega)) (Nat.le_refl _) (fun k hk => by cases hk)⟩
    · have bn := BxS.new wx0 48 #[.int .i64 0, .bool false, .string ⟨#[]⟩, .int .i64 0, .bool false, .int .i64 0, .int .i64 0, .slice none 0 0, .slice none 0 0, .int .i64 0, .int .i64 0, .int .i64 0, .int .i64 0, .int .i64 0]
      have yx1 := World.grownBy_alloc wx0 (.cells #[.int .i64 0, .bool false, .string ⟨#[]⟩, .int .i64 0, .bool false, .int .i64 0, .int .i64 0, .slice none 0 0, .slice none 0 0, .int .i64 0, .int .i64 0, .int .i64 0, .int .i64 0, .int .i64 0] 48) none
      go_simp
      obtain ⟨g10, hg10⟩ : ∃ g, wx0.heap.size = g := ⟨_, rfl⟩
      rw [hg10] at bn ⊢
      have sz6 := G6d.size
      have hn10 : w6.heap.size ≤ g10 ∧ g5 < g10 ∧ w.heap.size < g10 := by have := b5d.lt; have := b2lt; omega
      clear hg10
      have Sx1 : BxS (wx0.alloc (.cells #[.int .i64 0, .bool false, .string ⟨#[]⟩, .int .i64 0, .bool false, .int .i64 0, .int .i64 0, .slice none 0 0, .slice none 0 0, .int .i64 0, .int .i64 0, .int .i64 0, .int .i64 0, .int .i64 0] 48)) w.heap.size 48 #[.int .i64 V.id, .bool V.kn, .string V.nm, .int .i64 V.si, .bool V.en, .int .i64 V.la, .int .i64 V.su, .slice q V.G.length d, .slice a V.L.length c, .int .i64 V.st, .int .i64 V.ti, .int .i64 V.pa, .int .i64 V.tr, .int .i64 V.li] ∧ BxS (wx0.alloc (.cells #[.int .i64 0, .bool false, .string ⟨#[]⟩, .int .i64 0, .bool false, .int .i64 0, .int .i64 0, .slice none 0 0, .slice none 0 0, .int .i64 0, .int .i64 0, .int .i64 0, .int .i64 0, .int .i64 0] 48)) g8 27 #[.int .i64 kd, .int .i64 nid, .string nm2, .int .i64 si2, .int .i64 su2, .int .i64 at2, .slice (some ⟨gh, 0, none⟩) pn (pn + 5), .slice gq gm gd', .int .i64 o, .int .i64 co] := ⟨Sx0.1.keep yx1 (by simp), Sx0.2.keep yx1 (by simp)⟩
      refine hKK _ _ (fun _ => Sx1) ?_
      try simp only [List.getElem_toArray, List.getElem_cons_succ, List.getElem_cons_zero, Act.put, List.setIfInBounds_toArray, List.set_cons_zero, List.set_cons_succ]
      generalize wx0.alloc (.cells #[.int .i64 0, .bool false, .string ⟨#[]⟩, .int .i64 0, .bool false, .int .i64 0, .int .i64 0, .slice none 0 0, .slice none 0 0, .int .i64 0, .int .i64 0, .int .i64 0, .int .i64 0, .int .i64 0] 48) = wx1 at *
      have Gx1 := grown_trans Gx0 yx1
      have G6d := grown_trans G6d yx1
      have hAhd := hAhd.keep yx1
      have hDhd := hDhd.keep yx1
      have hFhd := hFhd.keep yx1
      have b5d := b5d.keep yx1 (by simp)
      have hAH := hAH.keep yx1
      have hOH := hOH.keep yx1
      refine wpAnyZ_oneB 3 rfl (by kernel_rfl) (fun KK hKK => ?_)
      have hAh_2 := hAhd
      go_simp
      go_at_call 38
      refine (KR.out wx1 aH qH cH dH _ _ _ _ hAH hOH hDhd hFhd).mono ?_
      rintro e wx2 ⟨a1, c1, q1, d1, na1, nc1, xs1, rfl, hx1, hA1, hO1, hN1, sA1, sO1, yx2⟩
      dsimp only
      have Sx2 : BxS wx2 w.heap.size 48 #[.int .i64 V.id, .bool V.kn, .string V.nm, .int .i64 V.si, .bool V.en, .int .i64 V.la, .int .i64 V.su, .slice q V.G.length d, .slice a V.L.length c, .int .i64 V.st, .int .i64 V.ti, .int .i64 V.pa, .int .i64 V.tr, .int .i64 V.li] ∧ BxS wx2 g8 27 #[.int .i64 kd, .int .i64 nid, .string nm2, .int .i64 si2, .int .i64 su2, .int .i64 at2, .slice (some ⟨gh, 0, none⟩) pn (pn + 5), .slice gq gm gd', .int .i64 o, .int .i64 co] := ⟨Sx1.1.keep yx2 (by simp), Sx1.2.keep yx2 (by simp)⟩
      refine hKK _ _ (fun _ => Sx2) ?_
      try simp only [List.getElem_toArray, List.getElem_cons_succ, List.getElem_cons_zero, Act.put, List.setIfInBounds_toArray, List.set_cons_zero, List.set_cons_succ]
      have Gx2 := grown_trans Gx1 yx2
      have G6d := grown_trans G6d yx2
      have hAhd := hAhd.keep yx2
      have hDhd := hDhd.keep yx2
      have hFhd := hFhd.keep yx2
      have b5d := b5d.keep yx2 (by simp)
      have hAH := hAH.keep yx2
      have hOH := hOH.keep yx2
      have bn := bn.keep yx2 (by simp)
      have hlo1 : gh < wx1.heap.size := own_ltN (g := gh) hAh_2.own rfl
      refine wpAnyZ_take [] 4 (.tuple #[.agg (tkA W.id W.kn W.nm W.si W.en W.la W.su (.slice q1 W.G.length d1) (.slice a1 W.L.length c1) W.st W.ti W.pa W.tr W.li), .slice na1 T.length nc1, .int .i64 (E : Nat)]) rfl (by kernel_rfl) (fun _ _ _ h => h) Sx2 rfl (by intro wz hz; go_simp) ?_
      try simp only [List.getElem_toArray, List.getElem_cons_succ, List.getElem_cons_zero, Act.put, List.setIfInBounds_toArray, List.set_cons_zero, List.set_cons_succ]
      refine wpAnyZ_take [] 5 (.agg (tkA W.id W.kn W.nm W.si W.en W.la W.su (.slice q1 W.G.length d1) (.slice a1 W.L.length c1) W.st W.ti W.pa W.tr W.li)) rfl (by kernel_rfl) (fun _ _ _ h => h) Sx2 rfl (by intro wz hz; go_simp) ?_
      try simp only [List.getElem_toArray, List.getElem_cons_succ, List.getElem_cons_zero, Act.put, List.setIfInBounds_toArray, List.set_cons_zero, List.set_cons_succ]
      refine wpAnyZ_take [] 6 (.slice na1 T.length nc1) rfl (by kernel_rfl) (fun _ _ _ h => h) Sx2 rfl (by intro wz hz; go_simp) ?_
      try simp only [List.getElem_toArray, List.getElem_cons_succ, List.getElem_cons_zero, Act.put, List.setIfInBounds_toArray, List.set_cons_zero, List.set_cons_succ]
      refine wpAnyZ_take [] 7 (.int .i64 (E : Nat)) rfl (by kernel_rfl) (fun _ _ _ h => h) Sx2 rfl (by intro wz hz; go_simp) ?_
      try simp only [List.getElem_toArray, List.getElem_cons_succ, List.getElem_cons_zero, Act.put, List.setIfInBounds_toArray, List.set_cons_zero, List.set_cons_succ]
      refine wpAnyZ_oneB 9 rfl (by kernel_rfl) (fun KK hKK => ?_)
      refine step_stX _ rfl _ _ _ rfl g10 _ _ rfl rfl bn i14 rfl (by simp [tkA, Value.oneCell']) ?_
      intro we be ue
      have Se : BxS we w.heap.size 48 #[.int .i64 V.id, .bool V.kn, .string V.nm, .int .i64 V.si, .bool V.en, .int .i64 V.la, .int .i64 V.su, .slice q V.G.length d, .slice a V.L.length c, .int .i64 V.st, .int .i64 V.ti, .int .i64 V.pa, .int .i64 V.tr, .int .i64 V.li] ∧ BxS we g8 27 #[.int .i64 kd, .int .i64 nid, .string nm2, .int .i64 si2, .int .i64 su2, .int .i64 at2, .slice (some ⟨gh, 0, none⟩) pn (pn + 5), .slice gq gm gd', .int .i64 o, .int .i64 co] := ⟨Sx2.1.keep ue (fun e => (fun e9 : w.heap.size = g10 => by have := b2lt; have := hn10; omega) (Option.some.inj e)), Sx2.2.keep ue (fun e => BxS.apart Sx2.2 bn (by decide) (Option.some.inj e))⟩
      refine hKK _ _ (fun _ => Se) ?_
      try simp only [List.getElem_toArray, List.getElem_cons_succ, List.getElem_cons_zero, Act.put, List.setIfInBounds_toArray, List.set_cons_zero, List.set_cons_succ]
      refine wpAnyZ_take [] 10 (.slice na1 T.length nc1) rfl (by kernel_rfl) (fun _ _ _ h => h) Se rfl (by intro wz hz; go_simp) ?_
      try simp only [List.getElem_toArray, List.getElem_cons_succ, List.getElem_cons_zero, Act.put, List.setIfInBounds_toArray, List.set_cons_zero, List.set_cons_succ]
      refine wpAnyZ_take [] 11 (.int .i64 (E : Nat)) rfl (by kernel_rfl) (fun _ _ _ h => h) Se rfl (by intro wz hz; go_simp) ?_
      try simp only [List.getElem_toArray, List.getElem_cons_succ, List.getElem_cons_zero, Act.put, List.setIfInBounds_toArray, List.set_cons_zero, List.set_cons_succ]
      refine wpAnyZ_doneB (by kernel_rfl) ?_ _
      refine HK6.out _ _ ?_
      clear HK6
      unfold tkA at be
      have Ge : w.grownBy we none := grown_far Gx2 ue (fun z e => by have e := Option.some.inj e; omega)
      have G6e : w6.grownBy we none := grown_far G6d ue (fun z e => by have e := Option.some.inj e; omega)
      have hA1e := hA1.kRR ue (fun z e e2 => by have e := Option.some.inj e; subst e; exact own_ty hA1.own bn (by decide) e2)
      have hO1e := hO1.bx bn (by decide) ue
      have hAhe := hAhd.kRR ue (fun z e e2 => by have e := Option.some.inj e; subst e; exact own_ty hAhd.own bn (by decide) e2)
      have b5e := b5d.keep ue (fun e => by have e := Option.some.inj e; omega)
      refine dt_t7 _ w w6 we W g5 g8 g10 gh kd nid nm2 si2 su2 at2 pn gq gm gd' o co D2 aW qW a1 q1 cW dW c1 d1 _ b5e Se.2 be hAhe hpn hLW6 hGW6 hgh6 G6e hA1e hO1e hlo1 ?_
      intro w' u9
      exact ⟨rfl, (Below.refl _ _).grown (grown_far Ge u9 (fun z e => by have e := Option.some.inj e; omega)) (Nat.le_refl _) (fun k hk => by cases hk)⟩
  · have bn := BxS.new wd 48 #[.int .i64 0, .bool false, .string ⟨#[]⟩, .int .i64 0, .bool false, .int .i64 0, .int .i64 0, .slice none 0 0, .slice none 0 0, .int .i64 0, .int .i64 0, .int .i64 0, .int .i64 0, .int .i64 0]
    have yx0 := World.grownBy_alloc wd (.cells #[.int .i64 0, .bool false, .string ⟨#[]⟩, .int .i64 0, .bool false, .int .i64 0, .int .i64 0, .slice none 0 0, .slice none 0 0, .int .i64 0, .int .i64 0, .int .i64 0, .int .i64 0, .int .i64 0] 48) none
    go_simp
    obtain ⟨g10, hg10⟩ : ∃ g, wd.heap.size = g := ⟨_, rfl⟩
    rw [hg10] at bn ⊢
    have sz6 := G6d.size
    have hn10 : w6.heap.size ≤ g10 ∧ g5 < g10 ∧ w.heap.size < g10 := by have := b5d.lt; have := b2lt; omega
    clear hg10
    have Sx0 : BxS (wd.alloc (.cells #[.int .i64 0, .bool false, .string ⟨#[]⟩, .int .i64 0, .bool false, .int .i64 0, .int .i64 0, .slice none 0 0, .slice none 0 0, .int .i64 0, .int .i64 0, .int .i64 0, .int .i64 0, .int .i64 0] 48)) w.heap.size 48 #[.int .i64 V.id, .bool V.kn, .string V.nm, .int .i64 V.si, .bool V.en, .int .i64 V.la, .int .i64 V.su, .slice q V.G.length d, .slice a V.L.length c, .int .i64 V.st, .int .i64 V.ti, .int .i64 V.pa, .int .i64 V.tr, .int .i64 V.li] ∧ BxS (wd.alloc (.cells #[.int .i64 0, .bool false, .string ⟨#[]⟩, .int .i64 0, .bool false, .int .i64 0, .int .i64 0, .slice none 0 0, .slice none 0 0, .int .i64 0, .int .i64 0, .int .i64 0, .int .i64 0, .int .i64 0] 48)) g8 27 #[.int .i64 kd, .int .i64 nid, .string nm2, .int .i64 si2, .int .i64 su2, .int .i64 at2, .slice (some ⟨gh, 0, none⟩) pn (pn + 5), .slice gq gm gd', .int .i64 o, .int .i64 co] := ⟨SS.1.keep yx0 (by simp), SS.2.keep yx0 (by simp)⟩
    refine hKK _ _ (fun _ => Sx0) ?_
    try simp only [List.getElem_toArray, List.getElem_cons_succ, List.getElem_cons_zero, Act.put, List.setIfInBounds_toArray, List.set_cons_zero, List.set_cons_succ]
    generalize wd.alloc (.cells #[.int .i64 0, .bool false, .string ⟨#[]⟩, .int .i64 0, .bool false, .int .i64 0, .int .i64 0, .slice none 0 0, .slice none 0 0, .int .i64 0, .int .i64 0, .int .i64 0, .int .i64 0, .int .i64 0] 48) = wx0 at *
    have Gx0 := grown_trans GD yx0
    have G6d := grown_trans G6d yx0
    have hAhd := hAhd.keep yx0
    have hDhd := hDhd.keep yx0
    have hFhd := hFhd.keep yx0
    have b5d := b5d.keep yx0 (by simp)
    refine wpAnyZ_oneB 1 rfl (by kernel_rfl) (fun KK hKK => ?_)
    go_simp
    go_at_call 40
    refine (KO.out wx0 (hL.keep Gx0) (hG.keep Gx0)).mono ?_
    rintro e wx1 ⟨aH, cH, qH, dH, rfl, hAH, hOH, yx1⟩
    dsimp only
    rw [tab_giF] at hOH
    have hAH := hAH.rd
    have hOH := hOH.rd
    have Sx1 : BxS wx1 w.heap.size 48 #[.int .i64 V.id, .bool V.kn, .string V.nm, .int .i64 V.si, .bool V.en, .int .i64 V.la, .int .i64 V.su, .slice q V.G.length d, .slice a V.L.length c, .int .i64 V.st, .int .i64 V.ti, .int .i64 V.pa, .int .i64 V.tr, .int .i64 V.li] ∧ BxS wx1 g8 27 #[.int .i64 kd, .int .i64 nid, .string nm2, .int .i64 si2, .int .i64 su2, .int .i64 at2, .slice (some ⟨gh, 0, none⟩) pn (pn + 5), .slice gq gm gd', .int .i64 o, .int .i64 co] := ⟨Sx0.1.keep yx1 (by simp), Sx0.2.keep yx1 (by simp)⟩
    refine hKK _ _ (fun _ => Sx1) ?_
    try simp only [List.getElem_toArray, List.getElem_cons_succ, List.getElem_cons_zero, Act.put, List.setIfInBounds_toArray, List.set_cons_zero, List.set_cons_succ]
    have Gx1 := grown_trans Gx0 yx1
    have G6d := grown_trans G6d yx1
    have hAhd := hAhd.keep yx1
    have hDhd := hDhd.keep yx1
    have hFhd := hFhd.keep yx1
    have b5d := b5d.keep yx1 (by simp)
    have bn := bn.keep yx1 (by simp)
    refine wpAnyZ_oneB 3 rfl (by kernel_rfl) (fun KK hKK => ?_)
    have hAh_2 := hAhd
    go_simp
    go_at_call 38
    refine (KR.out wx1 aH qH cH dH _ _ _ _ hAH hOH hDhd hFhd).mono ?_
    rintro e wx2 ⟨a1, c1, q1, d1, na1, nc1, xs1, rfl, hx1, hA1, hO1, hN1, sA1, sO1, yx2⟩
    dsimp only
    have Sx2 : BxS wx2 w.heap.size 48 #[.int .i64 V.id, .bool V.kn, .string V.nm, .int .i64 V.si, .bool V.en, .int .i64 V.la, .int .i64 V.su, .slice q V.G.length d, .slice a V.L.length c, .int .i64 V.st, .int .i64 V.ti, .int .i64 V.pa, .int .i64 V.tr, .int .i64 V.li] ∧ BxS wx2 g8 27 #[.int .i64 kd, .int .i64 nid, .string nm2, .int .i64 si2, .int .i64 su2, .int .i64 at2, .slice (some ⟨gh, 0, none⟩) pn (pn + 5), .slice gq gm gd', .int .i64 o, .int .i64 co] := ⟨Sx1.1.keep yx2 (by simp), Sx1.2.keep yx2 (by simp)⟩
    refine hKK _ _ (fun _ => Sx2) ?_
    try simp only [List.getElem_toArray, List.getElem_cons_succ, List.getElem_cons_zero, Act.put, List.setIfInBounds_toArray, List.set_cons_zero, List.set_cons_succ]
    have Gx2 := grown_trans Gx1 yx2
    have G6d := grown_trans G6d yx2
    have hAhd := hAhd.keep yx2
    have hDhd := hDhd.keep yx2
    have hFhd := hFhd.keep yx2
    have b5d := b5d.keep yx2 (by simp)
    have hAH := hAH.keep yx2
    have hOH := hOH.keep yx2
    have bn := bn.keep yx2 (by simp)
    have hlo1 : gh < wx1.heap.size := own_ltN (g := gh) hAh_2.own rfl
    refine wpAnyZ_take [] 4 (.tuple #[.agg (tkA W.id W.kn W.nm W.si W.en W.la W.su (.slice q1 W.G.length d1) (.slice a1 W.L.length c1) W.st W.ti W.pa W.tr W.li), .slice na1 T.length nc1, .int .i64 (E : Nat)]) rfl (by kernel_rfl) (fun _ _ _ h => h) Sx2 rfl (by intro wz hz; go_simp) ?_
    try simp only [List.getElem_toArray, List.getElem_cons_succ, List.getElem_cons_zero, Act.put, List.setIfInBounds_toArray, List.set_cons_zero, List.set_cons_succ]
    refine wpAnyZ_take [] 5 (.agg (tkA W.id W.kn W.nm W.si W.en W.la W.su (.slice q1 W.G.length d1) (.slice a1 W.L.length c1) W.st W.ti W.pa W.tr W.li)) rfl (by kernel_rfl) (fun _ _ _ h => h) Sx2 rfl (by intro wz hz; go_simp) ?_
    try simp only [List.getElem_toArray, List.getElem_cons_succ, List.getElem_cons_zero, Act.put, List.setIfInBounds_toArray, List.set_cons_zero, List.set_cons_succ]
    refine wpAnyZ_take [] 6 (.slice na1 T.length nc1) rfl (by kernel_rfl) (fun _ _ _ h => h) Sx2 rfl (by intro wz hz; go_simp) ?_
    try simp only [List.getElem_toArray, List.getElem_cons_succ, List.getElem_cons_zero, Act.put, List.setIfInBounds_toArray, List.set_cons_zero, List.set_cons_succ]
    refine wpAnyZ_take [] 7 (.int .i64 (E : Nat)) rfl (by kernel_rfl) (fun _ _ _ h => h) Sx2 rfl (by intro wz hz; go_simp) ?_
    try simp only [List.getElem_toArray, List.getElem_cons_succ, List.getElem_cons_zero, Act.put, List.setIfInBounds_toArray, List.set_cons_zero, List.set_cons_succ]
    refine wpAnyZ_oneB 9 rfl (by kernel_rfl) (fun KK hKK => ?_)
    refine step_stX _ rfl _ _ _ rfl g10 _ _ rfl rfl bn i14 rfl (by simp [tkA, Value.oneCell']) ?_
    intro we be ue
    have Se : BxS we w.heap.size 48 #[.int .i64 V.id, .bool V.kn, .string V.nm, .int .i64 V.si, .bool V.en, .int .i64 V.la, .int .i64 V.su, .slice q V.G.length d, .slice a V.L.length c, .int .i64 V.st, .int .i64 V.ti, .int .i64 V.pa, .int .i64 V.tr, .int .i64 V.li] ∧ BxS we g8 27 #[.int .i64 kd, .int .i64 nid, .string nm2, .int .i64 si2, .int .i64 su2, .int .i64 at2, .slice (some ⟨gh, 0, none⟩) pn (pn + 5), .slice gq gm gd', .int .i64 o, .int .i64 co] := ⟨Sx2.1.keep ue (fun e => (fun e9 : w.heap.size = g10 => by have := b2lt; have := hn10; omega) (Option.some.inj e)), Sx2.2.keep ue (fun e => BxS.apart Sx2.2 bn (by decide) (Option.some.inj e))⟩
    refine hKK _ _ (fun _ => Se) ?_
    try simp only [List.getElem_toArray, List.getElem_cons_succ, List.getElem_cons_zero, Act.put, List.setIfInBounds_toArray, List.set_cons_zero, List.set_cons_succ]
    refine wpAnyZ_take [] 10 (.slice na1 T.length nc1) rfl (by kernel_rfl) (fun _ _ _ h => h) Se rfl (by intro wz hz; go_simp) ?_
    try simp only [List.getElem_toArray, List.getElem_cons_succ, List.getElem_cons_zero, Act.put, List.setIfInBounds_toArray, List.set_cons_zero, List.set_cons_succ]
    refine wpAnyZ_take [] 11 (.int .i64 (E : Nat)) rfl (by kernel_rfl) (fun _ _ _ h => h) Se rfl (by intro wz hz; go_simp) ?_
    try simp only [List.getElem_toArray, List.getElem_cons_succ, List.getElem_cons_zero, Act.put, List.setIfInBounds_toArray, List.set_cons_zero, List.set_cons_succ]
    refine wpAnyZ_doneB (by kernel_rfl) ?_ _
    refine HK6.out _ _ ?_
    clear HK6
    unfold tkA at be
    have Ge : w.grownBy we none := grown_far Gx2 ue (fun z e => by have e := Option.some.inj e; omega)
    have G6e : w6.grownBy we none := grown_far G6d ue (fun z e => by have e := Option.some.inj e; omega)
    have hA1e := hA1.kRR ue (fun z e e2 => by have e := Option.some.inj e; subst e; exact own_ty hA1.own bn (by decide) e2)
    have hO1e := hO1.bx bn (by decide) ue
    have hAhe := hAhd.kRR ue (fun z e e2 => by have e := Option.some.inj e; subst e; exact own_ty hAhd.own bn (by decide) e2)
    have b5e := b5d.keep ue (fun e => by have e := Option.some.inj e; omega)
    refine dt_t7 _ w w6 we W g5 g8 g10 gh kd nid nm2 si2 su2 at2 pn gq gm gd' o co D2 aW qW a1 q1 cW dW c1 d1 _ b5e Se.2 be hAhe hpn hLW6 hGW6 hgh6 G6e hA1e hO1e hlo1 ?_
    intro w' u9
    exact ⟨rfl, (Below.refl _ _).grown (grown_far Ge u9 (fun z e => by have e := Option.some.inj e; omega)) (Nat.le_refl _) (fun k hk => by cases hk)⟩
end
end Go.Proofs.Ytnimehkfnpepfaa
