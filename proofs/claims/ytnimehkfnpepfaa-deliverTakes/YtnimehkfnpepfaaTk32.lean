import Derived.Test.YtnimehkfnpepfaaTk31
import Derived.Test.YtnimehkfnpepfaaTk4
import Derived.Test.YtnimehkfnpepfaaTk7
import Derived.Test.YtnimehkfnpepfaaTk9
import Derived.Test.YtnimehkfnpepfaaTk6
namespace Go.Proofs.Ytnimehkfnpepfaa
open Go.RowKit
set_option maxRecDepth 100000
set_option linter.unusedVariables false
set_option linter.unusedSimpArgs false

section
set_option maxHeartbeats 64000000 in
/-- the document's TakeOf -/
theorem rtake_any (V : Tv) (a q : Option Addr) (c d : Nat) (kd nid : Int) (nm2 : ByteArray) (si2 su2 at2 : Int) (pa2 : Option Addr) (pn pc : Nat) (ga : Option Addr) (gm gd : Nat) (o co : Int) (F2 : Nat → Int × Int) (D : List Nat) (w : World) (hL : Rd w a V.L.length c V.L) (hG : RdG w q V.G.length d (giF V.G)) (hn : V.L.length ≤ 140737488351232) (hm : V.G.length ≤ 8796093021952) (hD : Rd w pa2 pn pc D) (hF2 : RdG w ga gm gd F2) (hpn : pn ≤ 9223372036854700000) :
    Calls Try.prog 36 #[.agg (tkA V.id V.kn V.nm V.si V.en V.la V.su (.slice q V.G.length d) (.slice a V.L.length c) V.st V.ti V.pa V.tr V.li), .agg (ntA kd nid nm2 si2 su2 at2 (.slice pa2 pn pc) (.slice ga gm gd) o co)] w fun e w' => RDk w (taV (tmB V.id V.kn V.nm V.si V.en V.la V.su (giF V.G) V.G.length V.L V.st V.ti V.pa V.tr V.li) (wnE (ntB kd nid nm2.size si2 su2 at2 pn gm o co (alG F2 65536 gm)) nid V.id (hasK [1, 2, 3, 6] kd 4)) V (heV V kd o nm2 si2 su2 at2.toNat D)).1 (taV (tmB V.id V.kn V.nm V.si V.en V.la V.su (giF V.G) V.G.length V.L V.st V.ti V.pa V.tr V.li) (wnE (ntB kd nid nm2.size si2 su2 at2 pn gm o co (alG F2 65536 gm)) nid V.id (hasK [1, 2, 3, 6] kd 4)) V (heV V kd o nm2 si2 su2 at2.toNat D)).2.1 (taV (tmB V.id V.kn V.nm V.si V.en V.la V.su (giF V.G) V.G.length V.L V.st V.ti V.pa V.tr V.li) (wnE (ntB kd nid nm2.size si2 su2 at2 pn gm o co (alG F2 65536 gm)) nid V.id (hasK [1, 2, 3, 6] kd 4)) V (heV V kd o nm2 si2 su2 at2.toNat D)).2.2 e w' := by
  have i14 := Try.info_tk
  have i10 := Try.info_nt
  have kM := fun wz (k1 : Rd wz a V.L.length c V.L) (k : RdG wz q V.G.length d (giF V.G)) => takerMayR_any V.id V.kn V.nm V.si V.en V.la V.su q V.G.length d a V.L.length c V.st V.ti V.pa V.tr V.li (giF V.G) V.L wz k1 k hm
  have kA := fun wz (k1 : Rd wz a V.L.length c V.L) (k : RdG wz q V.G.length d (giF V.G)) => takerOf_any V.id V.kn V.nm V.si V.en V.la V.su q V.G.length d a V.L.length c V.st V.ti V.pa V.tr V.li (giF V.G) V.L wz k1 k hn hm
  have kN := fun wz (k1 : RdG wz ga gm gd F2) => rnoteMay_any kd nid nm2 si2 su2 at2 pa2 pn pc ga gm gd o co F2 wz k1 hpn
  have hok := fun (h0 : (wnE (ntB kd nid nm2.size si2 su2 at2 pn gm o co (alG F2 65536 gm)) nid V.id (hasK [1, 2, 3, 6] kd 4)) = 0) => wn_ok h0
  have hgo := fun h => tmB_go (V := V) h
  have HGO : Hid _ := hgo
  clear hgo
  have hkd := fun h => (ntB_kd (kd := kd) (id := nid) (nm := nm2.size) (si := si2) (su := su2) (at' := at2) (n := pn) (m := gm) (o := o) (co := co) (g := alG F2 65536 gm) h).1
  generalize hH : (heV V kd o nm2 si2 su2 at2.toNat D) = H
  generalize (ntB kd nid nm2.size si2 su2 at2 pn gm o co (alG F2 65536 gm)) = nB at kN hok hkd
  generalize (tmB V.id V.kn V.nm V.si V.en V.la V.su (giF V.G) V.G.length V.L V.st V.ti V.pa V.tr V.li) = gB at kM HGO
  have HHH : Hid _ := hH
  have HOK : Hid _ := hok
  have HKD : Hid _ := hkd
  clear hH hok hkd
  unfold tkA at kM kA
  unfold ntA at kN
  have HKN : Hid _ := kN
  clear kN
  have b1 := BxS.new w 48 #[.int .i64 V.id, .bool V.kn, .string V.nm, .int .i64 V.si, .bool V.en, .int .i64 V.la, .int .i64 V.su, .slice q V.G.length d, .slice a V.L.length c, .int .i64 V.st, .int .i64 V.ti, .int .i64 V.pa, .int .i64 V.tr, .int .i64 V.li]
  have y1 := World.grownBy_alloc w (.cells #[.int .i64 V.id, .bool V.kn, .string V.nm, .int .i64 V.si, .bool V.en, .int .i64 V.la, .int .i64 V.su, .slice q V.G.length d, .slice a V.L.length c, .int .i64 V.st, .int .i64 V.ti, .int .i64 V.pa, .int .i64 V.tr, .int .i64 V.li] 48) none
  unfold tkA ntA
  have hz1 : (w.alloc (.cells #[.int .i64 V.id, .bool V.kn, .string V.nm, .int .i64 V.si, .bool V.en, .int .i64 V.la, .int .i64 V.su, .slice q V.G.length d, .slice a V.L.length c, .int .i64 V.st, .int .i64 V.ti, .int .i64 V.pa, .int .i64 V.tr, .int .i64 V.li] 48)).heap.size = w.heap.size + 1 := by simp
  generalize hw1 : w.alloc (.cells #[.int .i64 V.id, .bool V.kn, .string V.nm, .int .i64 V.si, .bool V.en, .int .i64 V.la, .int .i64 V.su, .slice q V.G.length d, .slice a V.L.length c, .int .i64 V.st, .int .i64 V.ti, .int .i64 V.pa, .int .i64 V.tr, .int .i64 V.li] 48) = w1 at b1 y1 hz1
  have b2 := BxS.new w1 27 #[.int .i64 kd, .int .i64 nid, .string nm2, .int .i64 si2, .int .i64 su2, .int .i64 at2, .slice pa2 pn pc, .slice ga gm gd, .int .i64 o, .int .i64 co]
  have y2 := World.grownBy_alloc w1 (.cells #[.int .i64 kd, .int .i64 nid, .string nm2, .int .i64 si2, .int .i64 su2, .int .i64 at2, .slice pa2 pn pc, .slice ga gm gd, .int .i64 o, .int .i64 co] 27) none
  have hz2 : (w1.alloc (.cells #[.int .i64 kd, .int .i64 nid, .string nm2, .int .i64 si2, .int .i64 su2, .int .i64 at2, .slice pa2 pn pc, .slice ga gm gd, .int .i64 o, .int .i64 co] 27)).heap.size = w.heap.size + 2 := by simp [hz1]
  rw [hz1] at b2
  generalize hw2 : w1.alloc (.cells #[.int .i64 kd, .int .i64 nid, .string nm2, .int .i64 si2, .int .i64 su2, .int .i64 at2, .slice pa2 pn pc, .slice ga gm gd, .int .i64 o, .int .i64 co] 27) = w2 at b2 y2 hz2
  have b3 := BxS.new w2 48 #[.int .i64 0, .bool false, .string ⟨#[]⟩, .int .i64 0, .bool false, .int .i64 0, .int .i64 0, .slice none 0 0, .slice none 0 0, .int .i64 0, .int .i64 0, .int .i64 0, .int .i64 0, .int .i64 0]
  have y3 := World.grownBy_alloc w2 (.cells #[.int .i64 0, .bool false, .string ⟨#[]⟩, .int .i64 0, .bool false, .int .i64 0, .int .i64 0, .slice none 0 0, .slice none 0 0, .int .i64 0, .int .i64 0, .int .i64 0, .int .i64 0, .int .i64 0] 48) none
  rw [hz2] at b3
  generalize hw3 : w2.alloc (.cells #[.int .i64 0, .bool false, .string ⟨#[]⟩, .int .i64 0, .bool false, .int .i64 0, .int .i64 0, .slice none 0 0, .slice none 0 0, .int .i64 0, .int .i64 0, .int .i64 0, .int .i64 0, .int .i64 0] 48) = w3 at b3 y3
  have b1 := (b1.keep y2 (by simp)).keep y3 (by simp)
  have b2 := b2.keep y3 (by simp)
  have G3 := grown_trans (grown_trans y1 y2) y3
  go_enter Try.func36, Try.ntmps36
  refine wp_seq_k fun K1 hK1 => ?_
  have HK1 : Hid _ := hK1
  clear hK1
  go_wp2
  refine HK1.out _ _ ?_
  clear HK1
  clear hw1 hw2 hw3 y1 y2 y3 hz1 hz2
  have s0 : True := trivial
  cases gB with
  | false =>
    go_wp2_with (first
      | (have _t := s0; clear s0; refine wpList_ldX _ rfl _ (.tmp 2) rfl w.heap.size _ rfl b1 Try.underlying48 i14 ?_; have s1 : True := trivial)
      | (go_at_call 71; have _t := s1; clear s1; refine (kM w3 (hL.keep G3) (hG.keep G3)).mono ?_; rintro e w4 ⟨rfl, y4⟩; have b34 := b3.keep y4 (by simp); have s2 : True := trivial)
      | (have _t := s2; clear s2; refine wpList_stX _ rfl _ (.tmp 4) (.tmp 13) rfl (w.heap.size + 2) _ _ rfl rfl b34 i14 rfl (by simp [Value.oneCell']) ?_; intro w5 b35 u5))
    refine bodyPost_ret (results_c1t2 rfl _ _ _ ⟨w.heap.size + 2, 0, none⟩ _ _ _ rfl (BxS.load (t := 48) b35 Try.underlying48 Try.info_tk) rfl rfl) rfl ?_
    exact ⟨none, 0, none, 0, none, 0, [], rfl, rfl, (Ans.nil _ 0).rd, (OwGi.nil _ 0).rd, OwN.nil _ _, grown_far (grown_trans G3 y4) u5 (fun z e => by have e := Option.some.inj e; omega)⟩
  | true =>
    have HO : Hid _ := HGO.out rfl
    refine wp_seq_k fun K2 hK2 => ?_
    have HK2 : Hid _ := hK2
    clear hK2
    go_wp2_with (first
      | (have _t := s0; clear s0; refine wpList_ldX _ rfl _ (.tmp 2) rfl w.heap.size _ rfl b1 Try.underlying48 i14 ?_; have s1 : True := trivial)
      | (go_at_call 71; have _t := s1; clear s1; refine (kM w3 (hL.keep G3) (hG.keep G3)).mono ?_; rintro e w4 ⟨rfl, y4⟩; have s2 : True := trivial))
    refine HK2.out _ _ ?_
    clear HK2
    have b14 := b1.keep y4 (by simp)
    have b24 := b2.keep y4 (by simp)
    have b34 := b3.keep y4 (by simp)
    have G4 := grown_trans G3 y4
    refine wp_seq_k fun K3 hK3 => ?_
    have HK3 : Hid _ := hK3
    clear hK3
    go_wp2_with (first
      | (have _t := s2; clear s2; refine wpList_ldX _ rfl _ (.tmp 2) rfl w.heap.size _ rfl b14 Try.underlying48 i14 ?_; have s3 : True := trivial)
      | (go_at_call 40; have _t := s3; clear s3; refine (kA w4 (hL.keep G4) (hG.keep G4)).mono ?_; rintro e w5 ⟨a', c', q', d', rfl, hA, hO, y5⟩; have z5 := y5.size; have bn := BxS.new w5 48 #[.int .i64 0, .bool false, .string ⟨#[]⟩, .int .i64 0, .bool false, .int .i64 0, .int .i64 0, .slice none 0 0, .slice none 0 0, .int .i64 0, .int .i64 0, .int .i64 0, .int .i64 0, .int .i64 0]; have gn := World.grownBy_alloc w5 (.cells #[.int .i64 0, .bool false, .string ⟨#[]⟩, .int .i64 0, .bool false, .int .i64 0, .int .i64 0, .slice none 0 0, .slice none 0 0, .int .i64 0, .int .i64 0, .int .i64 0, .int .i64 0, .int .i64 0] 48) none; generalize hwn : w5.alloc (.cells #[.int .i64 0, .bool false, .string ⟨#[]⟩, .int .i64 0, .bool false, .int .i64 0, .int .i64 0, .slice none 0 0, .slice none 0 0, .int .i64 0, .int .i64 0, .int .i64 0, .int .i64 0, .int .i64 0] 48) = w6 at bn gn; have s4 : True := trivial)
      | (have _t := s4; clear s4; refine wpList_stX _ rfl _ (.tmp 7) (.tmp 15) rfl w5.heap.size _ _ rfl rfl bn i14 rfl (by simp [tkA, Value.oneCell']) ?_; intro w7 b7 u7))
    refine HK3.out _ _ ?_
    clear HK3
    try unfold tkA at b7
    rw [tab_giF] at hO
    have z4 := G4.size
    have Y7 : w5.grownBy w7 none := grown_far gn u7 (fun z e => by have e := Option.some.inj e; omega)
    obtain ⟨g7, hg7⟩ : ∃ g, w5.heap.size = g := ⟨_, rfl⟩
    rw [hg7] at b7 ⊢
    have l3 := b34.lt
    have Y47 := grown_trans y5 Y7
    have hD7 : DTk w w7 (w.heap.size + 2) g7 V a' c' q' d' := ⟨b7, b34.keep Y47 (by simp), (hA.keep Y7).wide z4, (hO.keep Y7).wide z4, by omega, by omega, by omega, grown_trans G4 Y47⟩
    have b27 := b24.keep Y47 (by simp)
    have b17 := b14.keep Y47 (by simp)
    have G7 := hD7.g
    clear bn gn hwn u7 hg7 hA hO Y7 y5 z5 b7 b14 b24 b34 kA kM
    have kN := HKN.out w7 (hF2.keep G7)
    refine wp_seq_k fun K3 hK3 => ?_
    have HK3 : Hid _ := hK3
    clear hK3
    have s0 : True := trivial
    cases nB with
    | false =>
      have HX : Hid (taV true (wnE false nid V.id (hasK [1, 2, 3, 6] kd 4)) V H = (V, [], 8)) := rfl
      rw [HX.out]
      refine wp_seq_k fun K4 hK4 => ?_
      have HK4 : Hid _ := hK4
      clear hK4
      go_wp2_with (first
        | (have _t := s0; clear s0; refine wpList_ldX _ rfl _ (.tmp 3) rfl (w.heap.size + 1) _ rfl b27 Try.underlying27 i10 ?_; have s1 : True := trivial)
        | (go_at_call 47; have _t := s1; clear s1; refine kN.mono ?_; rintro e w8 ⟨rfl, y8⟩))
      refine HK4.out _ _ ?_
      clear HK4
      refine wp_cond_true rfl ?_
      clear HK3
      have hD7 := hD7.keepN y8
      have b5 := hD7.b5
      have s0 : True := trivial
      go_wp2_with (first
        | (have _t := s0; clear s0; refine wpList_ldX _ rfl _ (.tmp 7) rfl g7 _ rfl b5 Try.underlying48 i14 ?_; have s1 : True := trivial)
        | (have _t := s1; clear s1; refine wpList_stX _ rfl _ (.tmp 4) (.tmp 19) rfl (w.heap.size + 2) _ _ rfl rfl hD7.b2 i14 rfl (by simp [Value.oneCell']) ?_; intro wf bf uf))
      try simp only [Exit.then]
      refine bodyPost_ret (results_c1t2 rfl _ _ _ ⟨w.heap.size + 2, 0, none⟩ _ _ _ rfl (BxS.load (t := 48) bf Try.underlying48 Try.info_tk) rfl rfl) rfl ?_
      exact ⟨a', c', q', d', none, 0, [], rfl, rfl, (hD7.A.kRR uf (fun z e e2 => by have e := Option.some.inj e; subst e; exact own_ty hD7.A.own hD7.b2 (by decide) e2)).rd, (hD7.O.bx hD7.b2 (by decide) uf).rd, OwN.nil _ _, grown_far hD7.g uf (fun z e => by have e := Option.some.inj e; omega)⟩
    | true =>
      refine wp_seq_k fun K4 hK4 => ?_
      have HK4 : Hid _ := hK4
      clear hK4
      go_wp2_with (first
        | (have _t := s0; clear s0; refine wpList_ldX _ rfl _ (.tmp 3) rfl (w.heap.size + 1) _ rfl b27 Try.underlying27 i10 ?_; have s1 : True := trivial)
        | (go_at_call 47; have _t := s1; clear s1; refine kN.mono ?_; rintro e w8 ⟨rfl, y8⟩))
      refine HK4.out _ _ ?_
      clear HK4
      refine wp_cond_false rfl ?_
      refine wp_skip ?_
      try simp only [Exit.then]
      refine HK3.out _ _ ?_
      clear HK3
      have hD7 := hD7.keepN y8
      have b27 := b27.keep y8 (by simp)
      clear kN y8 HKN
      have x1 : w8.cell? ⟨w.heap.size + 1, 1, none⟩ = some (.int .i64 nid) := b27.cell 1 (by show 1 < 10; decide)
      have x0 : w8.cell? ⟨g7, 0, none⟩ = some (.int .i64 V.id) := hD7.b5.cell 0 (by show 0 < 14; decide)
      have n0 : w8.cell? ⟨w.heap.size + 1, 0, none⟩ = some (.int .i64 kd) := b27.cell 0 (by show 0 < 10; decide)
      refine wp_seq_k fun K3 hK3 => ?_
      have HK3 : Hid _ := hK3
      clear hK3
      by_cases hid : nid = V.id
      · have HID : Hid _ := hid
        rw [hid] at x1
        clear hid
        go_wp2
        try simp only [Exit.then]
        refine HK3.out _ _ ?_
        clear HK3
        clear x1 x0
        have hkk := HKD.out (by first | rfl | trivial)
        refine wp_seq_k fun K3 hK3 => ?_
        have HK3 : Hid _ := hK3
        clear hK3
        by_cases h45 : kd = 4 ∨ kd = 5
        · have hhs : hasK [1, 2, 3, 6] kd 4 = false := by
            show ((((false || decide (kd = 1)) || decide (kd = 2)) || decide (kd = 3)) || decide (kd = 6)) = false
            rw [decide_eq_false (by omega), decide_eq_false (by omega), decide_eq_false (by omega), decide_eq_false (by omega)]
            rfl
          have HX : Hid (taV true (wnE true nid V.id (hasK [1, 2, 3, 6] kd 4)) V H = (V, [], 6)) := by
            have e : wnE true nid V.id (hasK [1, 2, 3, 6] kd 4) = 6 := by unfold wnE; rw [if_neg (by decide), if_neg (by rw [HID.out]; exact fun e => e rfl), if_pos hhs]
            rw [e]
            rfl
          rw [HX.out]
          clear HX hhs hkk
          refine wp_seq_k fun K4 hK4 => ?_
          have HK4 : Hid _ := hK4
          clear hK4
          rcases h45 with hk | hk
          · rw [hk] at n0
            clear hk
            go_wp2
            refine HK4.out _ _ ?_
            clear HK4
            refine wp_cond_true rfl ?_
            clear HK3 n0
            have b5 := hD7.b5
            have s0 : True := trivial
            go_wp2_with (first
              | (have _t := s0; clear s0; refine wpList_ldX _ rfl _ (.tmp 7) rfl g7 _ rfl b5 Try.underlying48 i14 ?_; have s1 : True := trivial)
              | (have _t := s1; clear s1; refine wpList_stX _ rfl _ (.tmp 4) (.tmp 34) rfl (w.heap.size + 2) _ _ rfl rfl hD7.b2 i14 rfl (by simp [Value.oneCell']) ?_; intro wf bf uf))
            try simp only [Exit.then]
            refine bodyPost_ret (results_c1t2 rfl _ _ _ ⟨w.heap.size + 2, 0, none⟩ _ _ _ rfl (BxS.load (t := 48) bf Try.underlying48 Try.info_tk) rfl rfl) rfl ?_
            exact ⟨a', c', q', d', none, 0, [], rfl, rfl, (hD7.A.kRR uf (fun z e e2 => by have e := Option.some.inj e; subst e; exact own_ty hD7.A.own hD7.b2 (by decide) e2)).rd, (hD7.O.bx hD7.b2 (by decide) uf).rd, OwN.nil _ _, grown_far hD7.g uf (fun z e => by have e := Option.some.inj e; omega)⟩
          · rw [hk] at n0
            clear hk
            go_wp2
            refine HK4.out _ _ ?_
            clear HK4
            refine wp_cond_true rfl ?_
            clear HK3 n0
            have b5 := hD7.b5
            have s0 : True := trivial
            go_wp2_with (first
              | (have _t := s0; clear s0; refine wpList_ldX _ rfl _ (.tmp 7) rfl g7 _ rfl b5 Try.underlying48 i14 ?_; have s1 : True := trivial)
              | (have _t := s1; clear s1; refine wpList_stX _ rfl _ (.tmp 4) (.tmp 34) rfl (w.heap.size + 2) _ _ rfl rfl hD7.b2 i14 rfl (by simp [Value.oneCell']) ?_; intro wf bf uf))
            try simp only [Exit.then]
            refine bodyPost_ret (results_c1t2 rfl _ _ _ ⟨w.heap.size + 2, 0, none⟩ _ _ _ rfl (BxS.load (t := 48) bf Try.underlying48 Try.info_tk) rfl rfl) rfl ?_
            exact ⟨a', c', q', d', none, 0, [], rfl, rfl, (hD7.A.kRR uf (fun z e e2 => by have e := Option.some.inj e; subst e; exact own_ty hD7.A.own hD7.b2 (by decide) e2)).rd, (hD7.O.bx hD7.b2 (by decide) uf).rd, OwN.nil _ _, grown_far hD7.g uf (fun z e => by have e := Option.some.inj e; omega)⟩
        · have h42 : (kd == 4) = false := beq_eq_false_iff_ne.2 (by omega)
          have h52 : (kd == 5) = false := beq_eq_false_iff_ne.2 (by omega)
          have hhs : hasK [1, 2, 3, 6] kd 4 = true := by
            show ((((false || decide (kd = 1)) || decide (kd = 2)) || decide (kd = 3)) || decide (kd = 6)) = true
            simp only [Bool.or_eq_true, decide_eq_true_eq, Bool.false_eq_true, false_or]
            omega
          have e0 : wnE true nid V.id (hasK [1, 2, 3, 6] kd 4) = 0 := by unfold wnE; rw [if_neg (by decide), if_neg (by rw [HID.out]; exact fun e => e rfl), if_neg (by rw [hhs]; decide)]
          obtain ⟨hnt, _, _, _⟩ := HOK.out e0
          have HX : Hid (taV true 0 V H = (H.1, H.2, 0)) := rfl
          have HE0 : Hid _ := e0
          clear hhs e0 h45 hkk
          go_wp2
          try simp only [Exit.then]
          refine HK3.out _ _ ?_
          clear HK3
          clear n0 h42 h52
          have x0 : w8.cell? ⟨g7, 0, none⟩ = some (.int .i64 V.id) := hD7.b5.cell 0 (by show 0 < 14; decide)
          have bn := BxS.new w8 27 #[.int .i64 0, .int .i64 0, .string ⟨#[]⟩, .int .i64 0, .int .i64 0, .int .i64 0, .slice none 0 0, .slice none 0 0, .int .i64 0, .int .i64 0]
          have gn := World.grownBy_alloc w8 (.cells #[.int .i64 0, .int .i64 0, .string ⟨#[]⟩, .int .i64 0, .int .i64 0, .int .i64 0, .slice none 0 0, .slice none 0 0, .int .i64 0, .int .i64 0] 27) none
          generalize hwn : w8.alloc (.cells #[.int .i64 0, .int .i64 0, .string ⟨#[]⟩, .int .i64 0, .int .i64 0, .int .i64 0, .slice none 0 0, .slice none 0 0, .int .i64 0, .int .i64 0] 27) = w9 at bn gn
          refine wp_seq_k fun K3 hK3 => ?_
          have HK3 : Hid _ := hK3
          clear hK3
          have s0 : True := trivial
          go_wp2_with (have _t := s0; clear s0; refine wpList_stX _ rfl _ (.tmp 8) (.tmp 37) rfl w8.heap.size _ _ rfl rfl bn i10 rfl (by simp [Value.oneCell']) ?_; intro wa b8 u8)
          refine HK3.out _ _ ?_
          clear HK3
          have Ya : w8.grownBy wa none := grown_far gn u8 (fun z e => by have e := Option.some.inj e; omega)
          obtain ⟨g8, hg8⟩ : ∃ g, w8.heap.size = g := ⟨_, rfl⟩
          rw [hg8] at b8 ⊢
          have hDa := hD7.keepN Ya
          have b2a := b27.keep Ya (by simp)
          clear hg8 u8 bn gn hwn x0
          have hxa := hnt.ax
          have hnt2 : NtK kd si2 su2 ((at2.toNat : Nat) : Int) pn o at2.toNat := by rw [← hxa]; exact hnt
          have b2x : BxS wa (w.heap.size + 1) 27 #[.int .i64 kd, .int .i64 nid, .string nm2, .int .i64 si2, .int .i64 su2, .int .i64 ((at2.toNat : Nat) : Int), .slice pa2 pn pc, .slice ga gm gd, .int .i64 o, .int .i64 co] := by rw [← hxa]; exact b2a
          exact to_t11 _ w wa (w.heap.size + 2) g7 V a' c' q' d' hDa (w.heap.size + 1) g8 kd nid nm2 si2 su2 pa2 pn pc ga gm gd o co at2.toNat D hD b2x b8 HO.out.q HO.out.st hnt2 (fun e w' kk => by rw [HE0.out, HX.out, ← HHH.out]; exact kk)
      · have hb : (nid == V.id) = false := beq_eq_false_iff_ne.2 hid
        have hb3 : (nid != V.id) = true := by unfold bne; rw [hb]; rfl
        have HX : Hid (taV true (wnE true nid V.id (hasK [1, 2, 3, 6] kd 4)) V H = (V, [], 10)) := by
          have e : wnE true nid V.id (hasK [1, 2, 3, 6] kd 4) = 10 := by unfold wnE; rw [if_neg (by decide), if_pos hid]
          rw [e]
          rfl
        rw [HX.out]
        clear HX
        refine wp_seq_k fun K4 hK4 => ?_
        have HK4 : Hid _ := hK4
        clear hK4
        go_wp2
        refine HK4.out _ _ ?_
        clear HK4
        refine wp_cond_true rfl ?_
        clear HK3 x1 x0 n0 hid hb hb3
        have b5 := hD7.b5
        have s0 : True := trivial
        go_wp2_with (first
          | (have _t := s0; clear s0; refine wpList_ldX _ rfl _ (.tmp 7) rfl g7 _ rfl b5 Try.underlying48 i14 ?_; have s1 : True := trivial)
          | (have _t := s1; clear s1; refine wpList_stX _ rfl _ (.tmp 4) (.tmp 25) rfl (w.heap.size + 2) _ _ rfl rfl hD7.b2 i14 rfl (by simp [Value.oneCell']) ?_; intro wf bf uf))
        try simp only [Exit.then]
        refine bodyPost_ret (results_c1t2 rfl _ _ _ ⟨w.heap.size + 2, 0, none⟩ _ _ _ rfl (BxS.load (t := 48) bf Try.underlying48 Try.info_tk) rfl rfl) rfl ?_
        exact ⟨a', c', q', d', none, 0, [], rfl, rfl, (hD7.A.kRR uf (fun z e e2 => by have e := Option.some.inj e; subst e; exact own_ty hD7.A.own hD7.b2 (by decide) e2)).rd, (hD7.O.bx hD7.b2 (by decide) uf).rd, OwN.nil _ _, grown_far hD7.g uf (fun z e => by have e := Option.some.inj e; omega)⟩
end
end Go.Proofs.Ytnimehkfnpepfaa
