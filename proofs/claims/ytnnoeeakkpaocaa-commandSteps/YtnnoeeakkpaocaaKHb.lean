import Derived.Test.YtnnoeeakkpaocaaKHa
import Derived.Test.YtnnoeeakkpaocaaZSub
import Derived.Deep.DeepCutAuto
import Derived.Deep.CutBlock
namespace Go.Proofs.Ytnnoeeakkpaocaa
open Go.RowKit
set_option maxRecDepth 100000
set_option linter.unusedVariables false
set_option linter.unusedSimpArgs false
theorem box_ofr {w : World} {lo : Nat} {a : Option Addr} {n c g : Nat} {rs : List Rw} {R : List (List Nat)} {cs : Array Value} (h : OwW w lo a n c rs R) (b : BxS w g 50 cs) : ¬ Ofr (.slice a n c) rs g := fun hx => ofr_box h.o b (by decide) (by decide) hx rfl
set_option maxHeartbeats 64000000 in
theorem ha_t12 {u0 u1 u2 u3 u4 u5 u6 u7 u8 u9 u10 u14 u17 u20 u21 u22 u23 u24 u25 u26 u27 u28 u29 u30 u31 u32 u33 u34 u35 u36 u37 u38 u39 u40 u41 u42 u43 u44 u45 u46 u47 u48 u49 u50 u51 u52 u53 u54 u55 u56 u57 u58 u59 u60 u61 u62 u63 u64 u65 u66 u67 u68 u69 u70 u71 u72 u73 u74 u75 u76 u77 u78 u79 u80 u81 u82 u83 u84 u85 u86 u87 u88 u89 u90 u91 u92 u93 u94 u95 u96 u97 u98 u99 u100 u101 u102 u103 u104 u105 u106 u107 u108 u109 u110 u111 u112 : Value} (w wz : World) (d W : Hd) (R : List (List Nat)) (K P1 P2 K5 : Hx) (rs qs rs1 qs1 rs2 qs2 rs5 qs5 us1 us2 ks : List Rw) (g11 g12 g15 g18 m1 m2 m3 m4 : Nat) (xa ya ka : Option Addr) (xn xc yn yc kn kc : Nat)
    (b11 : BxS wz g11 50 #[.int .i64 d.cr, .int .i64 d.nx, .int .i64 d.ah, .slice K.sa K.sn K.sc, .slice K.qa K.qn K.qc, .int .i64 d.ti, .int .i64 d.pa, .int .i64 d.tr, .int .i64 d.li, .int .i64 d.si, .int .i64 d.pu, .int .i64 d.hl]) (b12 : BxS wz g12 50 #[.int .i64 W.cr, .int .i64 W.nx, .int .i64 W.ah, .slice P1.sa P1.sn P1.sc, .slice P1.qa P1.qn P1.qc, .int .i64 W.ti, .int .i64 W.pa, .int .i64 W.tr, .int .i64 W.li, .int .i64 W.si, .int .i64 W.pu, .int .i64 W.hl]) (b15 : BxS wz g15 50 #[.int .i64 W.cr, .int .i64 W.nx, .int .i64 W.ah, .slice P2.sa P2.sn P2.sc, .slice P2.qa P2.qn P2.qc, .int .i64 W.ti, .int .i64 W.pa, .int .i64 W.tr, .int .i64 W.li, .int .i64 W.si, .int .i64 W.pu, .int .i64 W.hl]) (b18 : BxS wz g18 50 #[.int .i64 W.cr, .int .i64 W.nx, .int .i64 W.ah, .slice K5.sa K5.sn K5.sc, .slice K5.qa K5.qn K5.qc, .int .i64 W.ti, .int .i64 W.pa, .int .i64 W.tr, .int .i64 W.li, .int .i64 W.si, .int .i64 W.pu, .int .i64 W.hl])
    (hk : OwHd wz m1 K rs qs d) (ha : OwHd wz m2 P1 rs1 qs1 W) (hx : OwW wz m2 xa xn xc us1 R) (hap : ∀ x, Ofr (.slice xa xn xc) us1 x → ¬ Hbl P1 rs1 qs1 x) (hb : OwHd wz m3 P2 rs2 qs2 W) (hy : OwW wz m3 ya yn yc us2 R) (h5 : OwHd wz m4 K5 rs5 qs5 W) (hkp : OwW wz m4 ka kn kc ks R)
    (o1 : w.heap.size ≤ m1) (o2 : m1 ≤ m2) (o3 : m2 ≤ m3) (o4 : m3 ≤ m4) (k2 : ∀ x, Hbl K rs qs x → x < m2) (k3 : ∀ x, Hbl P1 rs1 qs1 x → x < m3) (k3' : ∀ x, Ofr (.slice xa xn xc) us1 x → x < m3)
    (fd : (Fit 140737488351232 d.S ∧ K.sn * 24 ≤ 140737488351232) ∧ (Fit 140737488351232 d.Q ∧ K.qn * 24 ≤ 140737488351232)) (fW : (Fit 140737488351232 W.S ∧ P1.sn * 24 ≤ 140737488351232) ∧ (Fit 140737488351232 W.Q ∧ P1.qn * 24 ≤ 140737488351232)) (fR : Fit 140737488351232 R ∧ xn * 24 ≤ 140737488351232) (Gz : w.grownBy wz none) :
    Code.wp Try.prog (tailR 12 (Try.f36.body.getD .skip)) (bodyPost Try.prog Try.f36 (fun e w' => e = .returned (.bool true) ∧ w.grownBy w' none)) (Act.mk (List.toArray (u0 :: u1 :: u2 :: u3 :: u4 :: u5 :: u6 :: u7 :: u8 :: u9 :: u10 :: (.pointer (some ⟨g11, 0, none⟩)) :: (.pointer (some ⟨g12, 0, none⟩)) :: (.slice xa xn xc) :: u14 :: (.pointer (some ⟨g15, 0, none⟩)) :: (.slice ya yn yc) :: u17 :: (.pointer (some ⟨g18, 0, none⟩)) :: (.slice ka kn kc) :: u20 :: u21 :: u22 :: u23 :: u24 :: u25 :: u26 :: u27 :: u28 :: u29 :: u30 :: u31 :: u32 :: u33 :: u34 :: u35 :: u36 :: u37 :: u38 :: u39 :: u40 :: u41 :: u42 :: u43 :: u44 :: u45 :: u46 :: u47 :: u48 :: u49 :: u50 :: u51 :: u52 :: u53 :: u54 :: u55 :: u56 :: u57 :: u58 :: u59 :: u60 :: u61 :: u62 :: u63 :: u64 :: u65 :: u66 :: u67 :: u68 :: u69 :: u70 :: u71 :: u72 :: u73 :: u74 :: u75 :: u76 :: u77 :: u78 :: u79 :: u80 :: u81 :: u82 :: u83 :: u84 :: u85 :: u86 :: u87 :: u88 :: u89 :: u90 :: u91 :: u92 :: u93 :: u94 :: u95 :: u96 :: u97 :: u98 :: u99 :: u100 :: u101 :: u102 :: u103 :: u104 :: u105 :: u106 :: u107 :: u108 :: u109 :: u110 :: u111 :: u112 :: [])) []) wz := by
  conv => enter [2]; whnf
  have kS := fun X Y wz (h : RdHd wz X W) (k : RdHd wz Y W) => sameHand2_any X Y W wz h k
  unfold hnV at kS
  let p : Nat → Prop := fun i => Hbl P1 rs1 qs1 i ∨ Hbl K rs qs i ∨ Ofr (.slice xa xn xc) us1 i
  have hp : ∀ i, p i → m1 ≤ i ∧ i < m3 := fun i h => by
    rcases h with h | h | h
    · have := ha.lo' i h; have := k3 i h; omega
    · have := hk.lo' i h; have := k2 i h; omega
    · have := hx.lo' i h; have := k3' i h; omega
  have hF : ∀ w1, Fz (Ofr (.slice P1.sa P1.sn P1.sc) rs1) wz w1 → ∀ w2, Fz (Ofr (.slice P1.qa P1.qn P1.qc) qs1) w1 w2 → ∀ w3, Fz (Ofr (.slice K.sa K.sn K.sc) rs) w2 w3 → ∀ w4, Fz (Ofr (.slice K.qa K.qn K.qc) qs) w3 w4 → ∀ w5, Fz (Ofr (.slice xa xn xc) us1) w4 w5 → Fz p wz w5 := fun w1 f1 w2 f2 w3 f3 w4 f4 w5 f5 =>
    Fz.trans (Fz.trans (Fz.trans (Fz.trans (Fz.trans (Fz.refl p wz) f1 (fun i _ h => .inl (.inl h))) f2 (fun i _ h => .inl (.inr h))) f3 (fun i _ h => .inr (.inl (.inl h)))) f4 (fun i _ h => .inr (.inl (.inr h)))) f5 (fun i _ h => .inr (.inr h))
  have nbox : ∀ (g : Nat) (cs : Array Value), BxS wz g 50 cs → p g → False := fun g cs b h => by
    rcases h with (h | h) | (h | h) | h
    · exact box_ofr ha.s b h
    · exact box_ofr ha.q b h
    · exact box_ofr hk.s b h
    · exact box_ofr hk.q b h
    · exact box_ofr hx b h
  clear_value p
  obtain ⟨c0, c1, c2, c3, c4, c5, c6, c7, c8, c9, c10, c11⟩ := b12.cell12
  have s0 : True := trivial
  go_wp2_with (first
    | (go_at_call 70; have _t := s0; clear s0; refine (spoilRows2_any _ _ _ _ _ _ _ ha.s fW.1.1 fW.1.2).mono ?_; rintro e w1 ⟨rfl, f1⟩; clear c0 c1 c2 c3 c4 c5 c6 c7 c8 c9 c10 c11; have b12 := b12.fz f1 (box_ofr ha.s b12); obtain ⟨c0, c1, c2, c3, c4, c5, c6, c7, c8, c9, c10, c11⟩ := b12.cell12; have b11 := b11.fz f1 (box_ofr ha.s b11); have aq := ha.q.fz f1 (fun x hx h => ha.ap x h hx); have s1 : True := trivial)
    | (go_at_call 70; have _t := s1; clear s1; refine (spoilRows2_any _ _ _ _ _ _ _ aq fW.2.1 fW.2.2).mono ?_; rintro e w2 ⟨rfl, f2⟩; clear c0 c1 c2 c3 c4 c5 c6 c7 c8 c9 c10 c11; have b11 := b11.fz f2 (box_ofr aq b11); obtain ⟨c0, c1, c2, c3, c4, c5, c6, c7, c8, c9, c10, c11⟩ := b11.cell12; have ksr := (hk.s.fz f1 (fun x hx h => by have := k2 x (.inl hx); have := ha.lo' x (.inl h); omega)).fz f2 (fun x hx h => by have := k2 x (.inl hx); have := ha.lo' x (.inr h); omega); have s2 : True := trivial)
    | (go_at_call 70; have _t := s2; clear s2; refine (spoilRows2_any _ _ _ _ _ _ _ ksr fd.1.1 fd.1.2).mono ?_; rintro e w3 ⟨rfl, f3⟩; clear c0 c1 c2 c3 c4 c5 c6 c7 c8 c9 c10 c11; have b11 := b11.fz f3 (box_ofr ksr b11); obtain ⟨c0, c1, c2, c3, c4, c5, c6, c7, c8, c9, c10, c11⟩ := b11.cell12; have kqr := ((hk.q.fz f1 (fun x hx h => by have := k2 x (.inr hx); have := ha.lo' x (.inl h); omega)).fz f2 (fun x hx h => by have := k2 x (.inr hx); have := ha.lo' x (.inr h); omega)).fz f3 (fun x hx h => hk.ap x h hx); have s3 : True := trivial)
    | (go_at_call 70; have _t := s3; clear s3; refine (spoilRows2_any _ _ _ _ _ _ _ kqr fd.2.1 fd.2.2).mono ?_; rintro e w4 ⟨rfl, f4⟩; clear c0 c1 c2 c3 c4 c5 c6 c7 c8 c9 c10 c11; have xr := (((hx.fz f1 (fun x hx h => hap x hx (.inl h))).fz f2 (fun x hx h => hap x hx (.inr h))).fz f3 (fun x hx' h => by have := k2 x (.inl h); have := hx.lo' x hx'; omega)).fz f4 (fun x hx' h => by have := k2 x (.inr h); have := hx.lo' x hx'; omega); have s4 : True := trivial)
    | (go_at_call 70; have _t := s4; clear s4; refine (spoilRows2_any _ _ _ _ _ _ _ xr fR.1 fR.2).mono ?_; rintro e w5 ⟨rfl, f5⟩; have F5 := hF _ f1 _ f2 _ f3 _ f4 _ f5; have b15 := b15.fz F5 (fun h => nbox _ _ b15 h); have b18 := b18.fz F5 (fun h => nbox _ _ b18 h); obtain ⟨c0, c1, c2, c3, c4, c5, c6, c7, c8, c9, c10, c11⟩ := b15.cell12; obtain ⟨d0, d1, d2, d3, d4, d5, d6, d7, d8, d9, d10, d11⟩ := b18.cell12; have hbr := (hb.fz F5 (fun x hx h => by have := hp x h; have := hb.lo' x hx; omega)).rd; have h5r := (h5.fz F5 (fun x hx h => by have := hp x h; have := h5.lo' x hx; omega)).rd; have hyr := (hy.fz F5 (fun x hx h => by have := hp x h; have := hy.lo' x hx; omega)).rd; have hkr := (hkp.fz F5 (fun x hx h => by have := hp x h; have := hkp.lo' x hx; omega)).rd; have GR := Fz.grown Gz F5 (fun x h => by have := hp x h; omega); have s5 : True := trivial)
    | (go_at_call 32; have _t := s5; clear s5; refine (kS P2 K5 _ hbr h5r).mono ?_; rintro e w6 ⟨rfl, y6⟩; have s6 : True := trivial)
    | (go_at_call 65; have _t := s6; clear s6; refine (sameRows2_any ya ka yn kn yc kc R _ (hyr.keep y6) (hkr.keep y6)).mono ?_; rintro e w7 ⟨rfl, y7⟩))
  go_ret
  exact ⟨rfl, grown_trans GR (grown_trans y6 y7)⟩
set_option maxHeartbeats 64000000 in
theorem ha_t4 {u0 u1 u2 u5 u8 u9 u10 u18 u19 u20 u21 u22 u23 u24 u25 u26 u27 u28 u29 u30 u31 u32 u33 u34 u35 u36 u37 u38 u39 u40 u41 u42 u43 u44 u45 u46 u47 u48 u49 u50 u51 u52 u53 u54 u55 u56 u57 u58 u59 u60 u61 u62 u63 u64 u65 u66 u67 u68 u69 u70 u71 u72 u73 u74 u75 u76 u77 u78 u79 u80 u81 u82 u83 u84 u85 u86 u87 u88 u89 u90 u91 u92 u93 u94 u95 u96 u97 u98 u99 u100 u101 u102 u103 u104 u105 u106 u107 u108 u109 u110 u111 u112 : Value} (w wz : World) (d W : Hd) (R : List (List Nat)) (Er : Nat) (X Y K P1 P2 : Hx) (rs qs rs1 qs1 rs2 qs2 us1 us2 : List Rw) (g6 g7 g11 g12 g15 m1 m2 m3 : Nat) (ra xa ya : Option Addr) (rn rc xn xc yn yc : Nat)
    (b6 : BxS wz g6 50 #[.int .i64 d.cr, .int .i64 d.nx, .int .i64 d.ah, .slice X.sa X.sn X.sc, .slice X.qa X.qn X.qc, .int .i64 d.ti, .int .i64 d.pa, .int .i64 d.tr, .int .i64 d.li, .int .i64 d.si, .int .i64 d.pu, .int .i64 d.hl]) (b7 : BxS wz g7 50 #[.int .i64 W.cr, .int .i64 W.nx, .int .i64 W.ah, .slice Y.sa Y.sn Y.sc, .slice Y.qa Y.qn Y.qc, .int .i64 W.ti, .int .i64 W.pa, .int .i64 W.tr, .int .i64 W.li, .int .i64 W.si, .int .i64 W.pu, .int .i64 W.hl]) (b11 : BxS wz g11 50 #[.int .i64 d.cr, .int .i64 d.nx, .int .i64 d.ah, .slice K.sa K.sn K.sc, .slice K.qa K.qn K.qc, .int .i64 d.ti, .int .i64 d.pa, .int .i64 d.tr, .int .i64 d.li, .int .i64 d.si, .int .i64 d.pu, .int .i64 d.hl]) (b12 : BxS wz g12 50 #[.int .i64 W.cr, .int .i64 W.nx, .int .i64 W.ah, .slice P1.sa P1.sn P1.sc, .slice P1.qa P1.qn P1.qc, .int .i64 W.ti, .int .i64 W.pa, .int .i64 W.tr, .int .i64 W.li, .int .i64 W.si, .int .i64 W.pu, .int .i64 W.hl]) (b15 : BxS wz g15 50 #[.int .i64 W.cr, .int .i64 W.nx, .int .i64 W.ah, .slice P2.sa P2.sn P2.sc, .slice P2.qa P2.qn P2.qc, .int .i64 W.ti, .int .i64 W.pa, .int .i64 W.tr, .int .i64 W.li, .int .i64 W.si, .int .i64 W.pu, .int .i64 W.hl])
    (hd : RdHd wz X d) (hw : RdHd wz Y W) (hr : RdW wz ra rn rc R) (hk : OwHd wz m1 K rs qs d) (ha : OwHd wz m2 P1 rs1 qs1 W) (hx : OwW wz m2 xa xn xc us1 R) (hap : ∀ x, Ofr (.slice xa xn xc) us1 x → ¬ Hbl P1 rs1 qs1 x) (hb : OwHd wz m3 P2 rs2 qs2 W) (hy : OwW wz m3 ya yn yc us2 R)
    (o1 : w.heap.size ≤ m1) (o2 : m1 ≤ m2) (o3 : m2 ≤ m3) (o4 : m3 ≤ wz.heap.size) (k2 : ∀ x, Hbl K rs qs x → x < m2) (k3 : ∀ x, Hbl P1 rs1 qs1 x → x < m3) (k3' : ∀ x, Ofr (.slice xa xn xc) us1 x → x < m3)
    (fd : (Fit 140737488351232 d.S ∧ K.sn * 24 ≤ 140737488351232) ∧ (Fit 140737488351232 d.Q ∧ K.qn * 24 ≤ 140737488351232)) (fW : (Fit 140737488351232 W.S ∧ W.S.length * 24 ≤ 140737488351232) ∧ (Fit 140737488351232 W.Q ∧ W.Q.length * 24 ≤ 140737488351232)) (fR : Fit 140737488351232 R ∧ R.length * 24 ≤ 140737488351232) (Gz : w.grownBy wz none) :
    Code.wp Try.prog (tailR 4 (Try.f36.body.getD .skip)) (bodyPost Try.prog Try.f36 (fun e w' => e = .returned (.bool true) ∧ w.grownBy w' none)) (Act.mk (List.toArray (u0 :: u1 :: u2 :: (.slice ra rn rc) :: (.int .i64 (Er : Int)) :: u5 :: (.pointer (some ⟨g6, 0, none⟩)) :: (.pointer (some ⟨g7, 0, none⟩)) :: u8 :: u9 :: u10 :: (.pointer (some ⟨g11, 0, none⟩)) :: (.pointer (some ⟨g12, 0, none⟩)) :: (.slice xa xn xc) :: (.int .i64 (Er : Int)) :: (.pointer (some ⟨g15, 0, none⟩)) :: (.slice ya yn yc) :: (.int .i64 (Er : Int)) :: u18 :: u19 :: u20 :: u21 :: u22 :: u23 :: u24 :: u25 :: u26 :: u27 :: u28 :: u29 :: u30 :: u31 :: u32 :: u33 :: u34 :: u35 :: u36 :: u37 :: u38 :: u39 :: u40 :: u41 :: u42 :: u43 :: u44 :: u45 :: u46 :: u47 :: u48 :: u49 :: u50 :: u51 :: u52 :: u53 :: u54 :: u55 :: u56 :: u57 :: u58 :: u59 :: u60 :: u61 :: u62 :: u63 :: u64 :: u65 :: u66 :: u67 :: u68 :: u69 :: u70 :: u71 :: u72 :: u73 :: u74 :: u75 :: u76 :: u77 :: u78 :: u79 :: u80 :: u81 :: u82 :: u83 :: u84 :: u85 :: u86 :: u87 :: u88 :: u89 :: u90 :: u91 :: u92 :: u93 :: u94 :: u95 :: u96 :: u97 :: u98 :: u99 :: u100 :: u101 :: u102 :: u103 :: u104 :: u105 :: u106 :: u107 :: u108 :: u109 :: u110 :: u111 :: u112 :: [])) []) wz := by
  let pq : Exit → Act → World → Prop := bodyPost Try.prog Try.f36 (fun _ _ => True)
  conv => enter [2]; whnf
  have lY1 := hw.s.len
  have lY2 := hw.q.len
  have lr := hr.len
  have kS := fun X Y wz (h : RdHd wz X W) (k : RdHd wz Y W) => sameHand2_any X Y W wz h k
  have kD := fun X Y wz (h : RdHd wz X d) (k : RdHd wz Y d) => sameHand2_any X Y d wz h k
  have kH := fun wz (h : RdHd wz Y W) => handOf2_any Y W wz h fW.1.1 (by omega) fW.2.1 (by omega)
  unfold hnV at kS kD kH
  have hee : ((Er : Int) != (Er : Int)) = false := by simp
  obtain ⟨c0, c1, c2, c3, c4, c5, c6, c7, c8, c9, c10, c11⟩ := b12.cell12
  obtain ⟨e0, e1, e2, e3, e4, e5, e6, e7, e8, e9, e10, e11⟩ := b7.cell12
  have s0 : True := trivial
  go_upto_block 0 with (first
    | (go_at_call 32; have _t := s0; clear s0; refine (kS P1 Y _ ha.rd hw).mono ?_; rintro e w1 ⟨rfl, y1⟩; clear c0 c1 c2 c3 c4 c5 c6 c7 c8 c9 c10 c11 e0 e1 e2 e3 e4 e5 e6 e7 e8 e9 e10 e11; obtain ⟨c0, c1, c2, c3, c4, c5, c6, c7, c8, c9, c10, c11⟩ := (b15.keep y1 (by simp)).cell12; obtain ⟨e0, e1, e2, e3, e4, e5, e6, e7, e8, e9, e10, e11⟩ := (b7.keep y1 (by simp)).cell12; have s1 : True := trivial)
    | (go_at_call 32; have _t := s1; clear s1; refine (kS P2 Y _ (hb.rd.keep y1) (hw.keep y1)).mono ?_; rintro e w2 ⟨rfl, y2⟩; have Y2 := grown_trans y1 y2; clear c0 c1 c2 c3 c4 c5 c6 c7 c8 c9 c10 c11 e0 e1 e2 e3 e4 e5 e6 e7 e8 e9 e10 e11; obtain ⟨c0, c1, c2, c3, c4, c5, c6, c7, c8, c9, c10, c11⟩ := (b11.keep Y2 (by simp)).cell12; obtain ⟨e0, e1, e2, e3, e4, e5, e6, e7, e8, e9, e10, e11⟩ := (b6.keep Y2 (by simp)).cell12; have s2 : True := trivial)
    | (go_at_call 32; have _t := s2; clear s2; refine (kD K X _ (hk.rd.keep Y2) (hd.keep Y2)).mono ?_; rintro e w3 ⟨rfl, y3⟩; have Y3 := grown_trans Y2 y3; clear c0 c1 c2 c3 c4 c5 c6 c7 c8 c9 c10 c11 e0 e1 e2 e3 e4 e5 e6 e7 e8 e9 e10 e11; have s3 : True := trivial)
    | (go_at_call 65; have _t := s3; clear s3; refine (sameRows2_any xa ra xn rn xc rc R _ (hx.rd.keep Y3) (hr.keep Y3)).mono ?_; rintro e w4 ⟨rfl, y4⟩; have Y4 := grown_trans Y3 y4; have s4 : True := trivial)
    | (go_at_call 65; have _t := s4; clear s4; refine (sameRows2_any ya ra yn rn yc rc R _ (hy.rd.keep Y4) (hr.keep Y4)).mono ?_; rintro e w5 ⟨rfl, y5⟩; have Y5 := grown_trans Y4 y5; obtain ⟨c0, c1, c2, c3, c4, c5, c6, c7, c8, c9, c10, c11⟩ := (b7.keep Y5 (by simp)).cell12; have s5 : True := trivial)
    | (go_at_call 37; have _t := s5; clear s5; refine (kH _ (hw.keep Y5)).mono ?_; rintro e w6 ⟨K5, rs5, qs5, rfl, h5, y6⟩; have yA := World.grownBy_alloc w6 (.cells #[.int .i64 W.cr, .int .i64 W.nx, .int .i64 W.ah, .slice K5.sa K5.sn K5.sc, .slice K5.qa K5.qn K5.qc, .int .i64 W.ti, .int .i64 W.pa, .int .i64 W.tr, .int .i64 W.li, .int .i64 W.si, .int .i64 W.pu, .int .i64 W.hl] 50) none; have b18 := BxS.new w6 50 #[.int .i64 W.cr, .int .i64 W.nx, .int .i64 W.ah, .slice K5.sa K5.sn K5.sc, .slice K5.qa K5.qn K5.qc, .int .i64 W.ti, .int .i64 W.pa, .int .i64 W.tr, .int .i64 W.li, .int .i64 W.si, .int .i64 W.pu, .int .i64 W.hl]; have Y6 := grown_trans Y5 y6; have YA := grown_trans Y6 yA; clear c0 c1 c2 c3 c4 c5 c6 c7 c8 c9 c10 c11))
  have hrB := hr.keep YA
  have h5B := h5.keep yA
  have b18B := b18
  have szB : w5.heap.size ≤ w6.heap.size := y6.size
  have sz5 := Y5.size
  clear b18 h5 kS kD kH
  obtain ⟨wB, hwB⟩ : ∃ wB, wB = w6.alloc (.cells #[.int .i64 W.cr, .int .i64 W.nx, .int .i64 W.ah, .slice K5.sa K5.sn K5.sc, .slice K5.qa K5.qn K5.qc, .int .i64 W.ti, .int .i64 W.pa, .int .i64 W.tr, .int .i64 W.li, .int .i64 W.si, .int .i64 W.pu, .int .i64 W.hl] 50) := ⟨_, rfl⟩
  rw [← hwB] at hrB h5B b18B YA ⊢
  have szA := YA.size
  have szC : w6.heap.size ≤ wB.heap.size := by rw [hwB]; exact yA.size
  clear hwB yA
  go_cut [19, 20] from 77 to 90 (fun s19 s20 wy => ∃ (ka : Option Addr) (kc : Nat) (ks : List Rw), s19 = .slice ka rn kc ∧ OwW wy wB.heap.size ka rn kc ks R ∧ wB.grownBy wy none)
  case first =>
    obtain ⟨F, hF1, hF2⟩ := hrB.ex
    obtain ⟨i0, hi, hz0, hz1, hz2⟩ := info_parts Try.info_rw
    have hle := hF1.le
    have hmx := hF1.max
    unfold maxLen at hmx
    have hFn : ∀ i, i < rn → (F i).n ≤ 140737488351232 := fun i hi => by
      rw [← (hF1.data i hi).len, hF2 i hi]
      exact fR.1.at' i (by omega)
    have hn : rn * 24 ≤ 140737488351232 := by omega
    go_wp2
    go_loopw [19, 20] (fun out i wr => ∃ (k : Nat) (rs : List Rw) (ao : Option Addr) (co : Nat), k ≤ rn ∧ i = .int .i64 k ∧ out = .slice ao k co ∧ OwR wr wB.heap.size ao k co rs ∧ (∀ i, i < k → (rs.getD i kr0).D = (F i).D) ∧ wB.grownBy wr none) (fun _ i _ => rn - (intOf i).toNat)
    case atStart => exact ⟨0, [], none, 0, by omega, rfl, rfl, OwR.nil _ _, fun i h => by omega, World.grownBy.refl _ _⟩
    case round =>
      obtain ⟨k, rs, ao, co, hk, rfl, rfl, hO, hd, hgr⟩ := hrel
      by_cases hlk : k < rn
      · have h2 := hF1.keep hgr
        obtain ⟨ba, oa, rfl, hba, ca⟩ := h2.at' (by omega)
        have d1 := ca k hlk
        have hr := h2.data k hlk
        have f2 := hFn k hlk
        have HD : Hid (∀ i, i < k → (rs.getD i kr0).D = (F i).D) := hd
        obtain ⟨Dk, hDk⟩ : ∃ Dk, Dk = (F k).D := ⟨_, rfl⟩
        rw [← hDk] at hr
        have HDk : Hid (Dk = (F k).D) := hDk
        clear hDk
        generalize (F k).a = ak at *
        generalize (F k).n = nk at *
        generalize (F k).c = ck at *
        have l1 : (k : Int) < (rn : Int) := by omega
        have hlo := hgr.size
        clear ca h2 hd
        have t1 : True := trivial
        go_wp2_with (first
          | (at_builtin; have _t := t1; clear t1; refine wpList_joinZ (w := wr) rfl _ _ rfl none 0 0 wr.heap.size [] rfl (ans_nil _ _) (Nat.le_refl _) ak nk ck Dk rfl hr (by omega) ?_; intro a2 c2 w2 hA2 g2; simp only [Nat.zero_add, List.nil_append] at hA2; have t2 : True := trivial)
          | (at_builtin; have _t := t2; clear t2; refine wpList_apS _ rfl _ _ 48 22 i0 zr 1 24 Try.underlying48 hi hz0 hz1 hz2 rfl (by decide) rfl (.slice ao k co) k (flatR rs) rfl ((hO.keep g2).own.alloc _) ⟨w2.heap.size, 0, none⟩ 1 1 [.slice a2 nk c2] rfl rfl (one_row w2 _) (by simp [Value.oneCell']) (by decide) (by unfold maxLen; omega) (by omega) ?_; intro gx cx w3 hgx g3 hown3))
        have gA := World.grownBy_alloc w2 (.cells #[.slice a2 nk c2] 22) none
        have g2' : wr.grownBy w2 none := g2
        have hOA := (hO.keep g2').keep gA
        have hrA := (hA2.wide (Nat.le_trans hlo (Nat.le_refl _))).keep gA
        have hap : ∀ q, q ∈ rs → ∀ g, q.v.ownBlock = some g → (Rw.mk a2 nk c2 Dk).v.ownBlock ≠ some g := by
          intro q hq g hg e
          have h1 := hA2.new g e
          rcases (hO.each q hq).cases with ⟨e1, _, _⟩ | ⟨x, e1, _, hx⟩
          · unfold Rw.v at hg; rw [e1] at hg; simp [Value.ownBlock] at hg
          · unfold Rw.v at hg
            rw [e1] at hg
            have e2 : x = g := Option.some.inj hg
            omega
        have hpu := OwR.push (r := ⟨a2, nk, c2, Dk⟩) hOA hrA hap g3 hown3 (by
          rcases hgx with h1 | h1
          · exact .inl h1
          · exact .inr (Nat.le_trans hlo (Nat.le_trans (Nat.le_trans g2'.size gA.size) h1)))
        have hll := hO.len
        go_roundw
        case rel =>
          refine ⟨k + 1, _, _, _, by omega, by go_num, rfl, hpu, fun i hi => ?_, grown_far (grown_trans (grown_trans hgr g2') gA) g3 (fun q e => hO.new q e)⟩
          rw [List.getD_eq_getElem?_getD]
          by_cases e : i < k
          · rw [List.getElem?_append_left (by omega), ← List.getD_eq_getElem?_getD]
            exact HD.out i e
          · obtain rfl : i = k := by omega
            rw [List.getElem?_append_right (by omega), hll, Nat.sub_self]
            exact HDk.out
        case measure => simp [intOf]; omega
      · have hlk' : ¬ (k : Int) < (rn : Int) := by omega
        obtain rfl : k = rn := by omega
        have eD : rs.map Rw.D = R := map_D_of rs R (by rw [hO.len]; omega) (fun i hi => by rw [hd i (by omega), hF2 i (by omega)])
        have HO : OwW wr wB.heap.size ao k co rs R := ⟨hO, eD⟩
        clear eD hd
        go_wp2
        go_meet
        exact ⟨ao, co, rs, rfl, HO, hgr⟩
  case rest =>
  obtain ⟨ka, kc, ks, e19, hkp, yk⟩ := hcut
  subst e19
  generalize wc = wk at *
  apply_assumption
  have Y := grown_trans YA yk
  have l1 := ha.s.len
  have l2 := ha.q.len
  have l3 := hx.len
  exact ha_t12 w wk d W R K P1 P2 K5 rs qs rs1 qs1 rs2 qs2 rs5 qs5 us1 us2 ks g11 g12 g15 _ m1 m2 m3 w5.heap.size xa ya ka xn xc yn yc rn kc (b11.keep Y (by simp)) (b12.keep Y (by simp)) (b15.keep Y (by simp)) (b18B.keep yk (by simp)) (hk.keep Y) (ha.keep Y) (hx.keep Y) hap (hb.keep Y) (hy.keep Y) (h5B.keep yk) (hkp.wide (by omega)) o1 o2 o3 (by omega) k2 k3 k3' fd ⟨⟨fW.1.1, by omega⟩, ⟨fW.2.1, by omega⟩⟩ ⟨fR.1, by omega⟩ (grown_trans Gz Y)
end Go.Proofs.Ytnnoeeakkpaocaa
