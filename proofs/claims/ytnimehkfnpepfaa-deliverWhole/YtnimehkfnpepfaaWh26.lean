import Derived.Test.YtnimehkfnpepfaaWh25
import Derived.Test.YtnimehkfnpepfaaWh22
namespace Go.Proofs.Ytnimehkfnpepfaa
open Go.RowKit
set_option maxRecDepth 100000
set_option linter.unusedVariables false
set_option linter.unusedSimpArgs false

section
set_option maxHeartbeats 16000000 in
theorem reply_failed (id : Int) (nm : ByteArray) (a : Option Addr) (n c : Nat) (mo bu st : Int) (fi : Bool) (at' : Int) (q : Option Addr) (m d : Nat) (ti pa tr li : Int) (L : List Nat) (F : Nat → Int × Int) (kd nid : Int) (nm2 : ByteArray) (si su at2 : Int) (pa2 : Option Addr) (pn pc : Nat) (ga : Option Addr) (gm gd : Nat) (o co : Int) (F2 : Nat → Int × Int) (w : World) (hL : Rd w a n c L) (hG : RdG w q m d F) (hF2 : RdG w ga gm gd F2) (hn : n ≤ 140737488351232) (hm : m ≤ 8796093021952) (hpa : -9223372036854775808 ≤ pa ∧ pa ≤ 9223372036854775807) (hB : gvB id nm.size n mo bu st fi at' m (alG F n m) ti pa tr li = true) (hE : wnE (ntB kd nid nm2.size si su at2 pn gm o co (alG F2 65536 gm)) nid id (hasK [4, 5, 6] kd 3) = 0) (hst : st = 4) : Calls Try.prog 35 #[.agg (gvA id nm (.slice a n c) mo bu st fi at' (.slice q m d) ti pa tr li), .agg (ntA kd nid nm2 si su at2 (.slice pa2 pn pc) (.slice ga gm gd) o co)] w fun e w' => RpA w id nm mo bu st fi at' ti pa tr li L (tabG F m) [] 0 e w' := by
  have b2 := BxS.new w 44 #[.int .i64 id, .string nm, .slice a n c, .int .i64 mo, .int .i64 bu, .int .i64 st, .bool fi, .int .i64 at', .slice q m d, .int .i64 ti, .int .i64 pa, .int .i64 tr, .int .i64 li]
  have y2 := World.grownBy_alloc w (.cells #[.int .i64 id, .string nm, .slice a n c, .int .i64 mo, .int .i64 bu, .int .i64 st, .bool fi, .int .i64 at', .slice q m d, .int .i64 ti, .int .i64 pa, .int .i64 tr, .int .i64 li] 44) none
  have i13 := Try.info_gv
  have i10 := Try.info_nt
  unfold gvA ntA
  have hz2 : (w.alloc (.cells #[.int .i64 id, .string nm, .slice a n c, .int .i64 mo, .int .i64 bu, .int .i64 st, .bool fi, .int .i64 at', .slice q m d, .int .i64 ti, .int .i64 pa, .int .i64 tr, .int .i64 li] 44)).heap.size = w.heap.size + 1 := by simp
  generalize hw2 : w.alloc (.cells #[.int .i64 id, .string nm, .slice a n c, .int .i64 mo, .int .i64 bu, .int .i64 st, .bool fi, .int .i64 at', .slice q m d, .int .i64 ti, .int .i64 pa, .int .i64 tr, .int .i64 li] 44) = w2 at b2 y2 hz2
  have b3 := BxS.new w2 27 #[.int .i64 kd, .int .i64 nid, .string nm2, .int .i64 si, .int .i64 su, .int .i64 at2, .slice pa2 pn pc, .slice ga gm gd, .int .i64 o, .int .i64 co]
  rw [hz2] at b3
  have y3 := World.grownBy_alloc w2 (.cells #[.int .i64 kd, .int .i64 nid, .string nm2, .int .i64 si, .int .i64 su, .int .i64 at2, .slice pa2 pn pc, .slice ga gm gd, .int .i64 o, .int .i64 co] 27) none
  have hz3 : (w2.alloc (.cells #[.int .i64 kd, .int .i64 nid, .string nm2, .int .i64 si, .int .i64 su, .int .i64 at2, .slice pa2 pn pc, .slice ga gm gd, .int .i64 o, .int .i64 co] 27)).heap.size = w.heap.size + 2 := by simp [hz2]
  generalize hw3 : w2.alloc (.cells #[.int .i64 kd, .int .i64 nid, .string nm2, .int .i64 si, .int .i64 su, .int .i64 at2, .slice pa2 pn pc, .slice ga gm gd, .int .i64 o, .int .i64 co] 27) = w3 at b3 y3 hz3
  have b4 := BxS.new w3 44 #[.int .i64 0, .string ⟨#[]⟩, .slice none 0 0, .int .i64 0, .int .i64 0, .int .i64 0, .bool false, .int .i64 0, .slice none 0 0, .int .i64 0, .int .i64 0, .int .i64 0, .int .i64 0]
  rw [hz3] at b4
  have y4 := World.grownBy_alloc w3 (.cells #[.int .i64 0, .string ⟨#[]⟩, .slice none 0 0, .int .i64 0, .int .i64 0, .int .i64 0, .bool false, .int .i64 0, .slice none 0 0, .int .i64 0, .int .i64 0, .int .i64 0, .int .i64 0] 44) none
  generalize hw4 : w3.alloc (.cells #[.int .i64 0, .string ⟨#[]⟩, .slice none 0 0, .int .i64 0, .int .i64 0, .int .i64 0, .bool false, .int .i64 0, .slice none 0 0, .int .i64 0, .int .i64 0, .int .i64 0, .int .i64 0] 44) = w4 at b4 y4
  have b24 := (b2.keep y3 (by simp)).keep y4 (by simp)
  have b34 := b3.keep y4 (by simp)
  have G4 := grown_trans (grown_trans y2 y3) y4
  have l4 := b4.lt
  have HST9 : Hid _ := hst
  clear hst
  have s0 : True := trivial
  go_enter Try.func35, Try.ntmps35
  refine wp_seq_k fun K1 hK1 => ?_
  have HK1 : Hid _ := hK1
  clear hK1
  go_wp2
  refine HK1.out _ _ ?_
  clear HK1
  refine wp_seq_k fun K2 hK2 => ?_
  have HK2 : Hid _ := hK2
  clear hK2
  go_wp2_with (first
    | (have _t := s0; clear s0; refine wpList_ldX _ rfl _ (.tmp 2) rfl w.heap.size _ rfl b24 Try.underlying44 i13 ?_; have s1 : True := trivial)
    | (go_at_call 66; have _t := s1; clear s1; refine (giverMay_any id nm a n c mo bu st fi at' q m d ti pa tr li F w4 (hG.keep G4) hpa).mono ?_; rintro e w5 ⟨he, y5⟩; rw [hB] at he; subst he; have b25 := b24.keep y5 (by simp); have b35 := b34.keep y5 (by simp); have b45 := b4.keep y5 (by simp); have G5 := grown_trans G4 y5; have s2 : True := trivial))
  refine HK2.out _ _ ?_
  clear HK2
  refine wp_seq_k fun K3 hK3 => ?_
  have HK3 : Hid _ := hK3
  clear hK3
  go_wp2_with (first
    | (have _t := s2; clear s2; refine wpList_ldX _ rfl _ (.tmp 2) rfl w.heap.size _ rfl b25 Try.underlying44 i13 ?_; have s3 : True := trivial)
    | (go_at_call 67; have _t := s3; clear s3; refine (atWork_any id nm a n c mo bu st fi at' q m d ti pa tr li F L w5 (hL.keep G5) (hG.keep G5) hn hm).mono ?_; rintro e w6 ⟨gw, a6, c6, q6, d6, rfl, bW, hA6, hO6, hgl, y6⟩; have z5 := G5.size; have G6 := grown_trans G5 y6; have hW : GW w w6 gw id nm mo bu st fi at' ti pa tr li a6 n c6 L q6 m d6 (tabG F m) none 0 0 [] := ⟨bW, hA6.wide z5, hO6.wide z5, OwN.nil _ _, by omega, (fun z e => nbl_nil), (fun z e => nbl_nil), G6⟩; have b26 := b25.keep y6 (by simp); have b36 := b35.keep y6 (by simp); have b46 := b45.keep y6 (by simp); have x0 : w6.cell? ⟨w.heap.size, 0, none⟩ = some (.int .i64 id) := b26.cell 0 (by show 0 < 13; decide); have bK := BxS.new w6 22 #[.int .i64 4, .int .i64 5, .int .i64 6]; have yK := World.grownBy_alloc w6 (.cells #[.int .i64 4, .int .i64 5, .int .i64 6] 22) none; generalize hw7 : w6.alloc (.cells #[.int .i64 4, .int .i64 5, .int .i64 6] 22) = w7 at bK yK; have hW7 := hW.keepN yK; have b37 := b36.keep yK (by simp); have b47 := b46.keep yK (by simp); have G7 := grown_trans G6 yK; have s4 : True := trivial))
  refine HK3.out _ _ ?_
  clear HK3
  refine wp_seq_k fun K4 hK4 => ?_
  have HK4 : Hid _ := hK4
  clear hK4
  go_wp2_with (first
    | (have _t := s4; clear s4; refine wpList_ldX _ rfl _ (.tmp 3) rfl (w.heap.size + 1) _ rfl b36 Try.underlying27 i10 ?_; have s5 : True := trivial)
    | (go_at_call 69; have _t := s5; clear s5; refine (wrongNote_any kd nid nm2 si su at2 pa2 pn pc ga gm gd o co F2 id w6.heap.size 3 3 [4, 5, 6] w7 (hF2.keep G7) ⟨rfl, by decide, rdk3 bK⟩ (Nat.le_refl _)).mono ?_; rintro e w8 ⟨he, y8⟩; rw [hE] at he; subst he; have hW8 := hW7.keepN y8; have b38 := b37.keep y8 (by simp); have b48 := b47.keep y8 (by simp); obtain ⟨k0, k1, k2, k3, k4, k5, k6, k7, k8, k9, k10, k11, k12, k13⟩ := BxS.cell14 hW8.bx; have s6 : True := trivial))
  refine HK4.out _ _ ?_
  clear HK4
  clear k0 k1 k2 k3 k4 k5 k6 k7 k8 k9 k10 k11 k12 k13
  refine wp_seq_k fun K5 hK5 => ?_
  have HK5 : Hid _ := hK5
  clear hK5
  go_wp2_with (first
    | (have _t := s6; clear s6; refine wpList_ldX _ rfl _ (.tmp 3) rfl (w.heap.size + 1) _ rfl b38 Try.underlying27 i10 ?_; have s7 : True := trivial)
    | (go_at_call 70; have _t := s7; clear s7; refine (hear_failed w w8 gw id nm mo bu st fi at' ti pa tr li a6 n c6 L q6 m d6 (tabG F m) none 0 0 [] kd nid nm2 si su at2 pa2 pn pc ga gm gd o co hW8 HST9.out).mono ?_; rintro e w9 ⟨rfl, hX, kT⟩))
  have b49 := kT _ _ b48
  refine HK5.out _ _ ?_
  clear HK5
  refine rp_t8 _ w w9 gw id nm mo bu st fi at' ti pa tr li a6 n c6 L q6 m d6 (tabG F m) none 0 0 [] hX (w.heap.size + 2) _ rfl b49 ?_
  intro w' u
  exact hX.rpA b49 (by omega) u 0

set_option maxHeartbeats 16000000 in
theorem reply_over (id : Int) (nm : ByteArray) (a : Option Addr) (n c : Nat) (mo bu st : Int) (fi : Bool) (at' : Int) (q : Option Addr) (m d : Nat) (ti pa tr li : Int) (L : List Nat) (F : Nat → Int × Int) (kd nid : Int) (nm2 : ByteArray) (si su at2 : Int) (pa2 : Option Addr) (pn pc : Nat) (ga : Option Addr) (gm gd : Nat) (o co : Int) (F2 : Nat → Int × Int) (w : World) (hL : Rd w a n c L) (hG : RdG w q m d F) (hF2 : RdG w ga gm gd F2) (hn : n ≤ 140737488351232) (hm : m ≤ 8796093021952) (hpa : -9223372036854775808 ≤ pa ∧ pa ≤ 9223372036854775807) (hB : gvB id nm.size n mo bu st fi at' m (alG F n m) ti pa tr li = true) (hE : wnE (ntB kd nid nm2.size si su at2 pn gm o co (alG F2 65536 gm)) nid id (hasK [4, 5, 6] kd 3) = 0) (hst : st = 3) (hk : kd ≠ 5) : Calls Try.prog 35 #[.agg (gvA id nm (.slice a n c) mo bu st fi at' (.slice q m d) ti pa tr li), .agg (ntA kd nid nm2 si su at2 (.slice pa2 pn pc) (.slice ga gm gd) o co)] w fun e w' => RpA w id nm mo bu st fi at' ti pa tr li L (tabG F m) [] 0 e w' := by
  have b2 := BxS.new w 44 #[.int .i64 id, .string nm, .slice a n c, .int .i64 mo, .int .i64 bu, .int .i64 st, .bool fi, .int .i64 at', .slice q m d, .int .i64 ti, .int .i64 pa, .int .i64 tr, .int .i64 li]
  have y2 := World.grownBy_alloc w (.cells #[.int .i64 id, .string nm, .slice a n c, .int .i64 mo, .int .i64 bu, .int .i64 st, .bool fi, .int .i64 at', .slice q m d, .int .i64 ti, .int .i64 pa, .int .i64 tr, .int .i64 li] 44) none
  have i13 := Try.info_gv
  have i10 := Try.info_nt
  unfold gvA ntA
  have hz2 : (w.alloc (.cells #[.int .i64 id, .string nm, .slice a n c, .int .i64 mo, .int .i64 bu, .int .i64 st, .bool fi, .int .i64 at', .slice q m d, .int .i64 ti, .int .i64 pa, .int .i64 tr, .int .i64 li] 44)).heap.size = w.heap.size + 1 := by simp
  generalize hw2 : w.alloc (.cells #[.int .i64 id, .string nm, .slice a n c, .int .i64 mo, .int .i64 bu, .int .i64 st, .bool fi, .int .i64 at', .slice q m d, .int .i64 ti, .int .i64 pa, .int .i64 tr, .int .i64 li] 44) = w2 at b2 y2 hz2
  have b3 := BxS.new w2 27 #[.int .i64 kd, .int .i64 nid, .string nm2, .int .i64 si, .int .i64 su, .int .i64 at2, .slice pa2 pn pc, .slice ga gm gd, .int .i64 o, .int .i64 co]
  rw [hz2] at b3
  have y3 := World.grownBy_alloc w2 (.cells #[.int .i64 kd, .int .i64 nid, .string nm2, .int .i64 si, .int .i64 su, .int .i64 at2, .slice pa2 pn pc, .slice ga gm gd, .int .i64 o, .int .i64 co] 27) none
  have hz3 : (w2.alloc (.cells #[.int .i64 kd, .int .i64 nid, .string nm2, .int .i64 si, .int .i64 su, .int .i64 at2, .slice pa2 pn pc, .slice ga gm gd, .int .i64 o, .int .i64 co] 27)).heap.size = w.heap.size + 2 := by simp [hz2]
  generalize hw3 : w2.alloc (.cells #[.int .i64 kd, .int .i64 nid, .string nm2, .int .i64 si, .int .i64 su, .int .i64 at2, .slice pa2 pn pc, .slice ga gm gd, .int .i64 o, .int .i64 co] 27) = w3 at b3 y3 hz3
  have b4 := BxS.new w3 44 #[.int .i64 0, .string ⟨#[]⟩, .slice none 0 0, .int .i64 0, .int .i64 0, .int .i64 0, .bool false, .int .i64 0, .slice none 0 0, .int .i64 0, .int .i64 0, .int .i64 0, .int .i64 0]
  rw [hz3] at b4
  have y4 := World.grownBy_alloc w3 (.cells #[.int .i64 0, .string ⟨#[]⟩, .slice none 0 0, .int .i64 0, .int .i64 0, .int .i64 0, .bool false, .int .i64 0, .slice none 0 0, .int .i64 0, .int .i64 0, .int .i64 0, .int .i64 0] 44) none
  generalize hw4 : w3.alloc (.cells #[.int .i64 0, .string ⟨#[]⟩, .slice none 0 0, .int .i64 0, .int .i64 0, .int .i64 0, .bool false, .int .i64 0, .slice none 0 0, .int .i64 0, .int .i64 0, .int .i64 0, .int .i64 0] 44) = w4 at b4 y4
  have b24 := (b2.keep y3 (by simp)).keep y4 (by simp)
  have b34 := b3.keep y4 (by simp)
  have G4 := grown_trans (grown_trans y2 y3) y4
  have l4 := b4.lt
  have HST9 : Hid _ := hst
  clear hst
  have HK9 : Hid _ := hk
  clear hk
  have s0 : True := trivial
  go_enter Try.func35, Try.ntmps35
  refine wp_seq_k fun K1 hK1 => ?_
  have HK1 : Hid _ := hK1
  clear hK1
  go_wp2
  refine HK1.out _ _ ?_
  clear HK1
  refine wp_seq_k fun K2 hK2 => ?_
  have HK2 : Hid _ := hK2
  clear hK2
  go_wp2_with (first
    | (have _t := s0; clear s0; refine wpList_ldX _ rfl _ (.tmp 2) rfl w.heap.size _ rfl b24 Try.underlying44 i13 ?_; have s1 : True := trivial)
    | (go_at_call 66; have _t := s1; clear s1; refine (giverMay_any id nm a n c mo bu st fi at' q m d ti pa tr li F w4 (hG.keep G4) hpa).mono ?_; rintro e w5 ⟨he, y5⟩; rw [hB] at he; subst he; have b25 := b24.keep y5 (by simp); have b35 := b34.keep y5 (by simp); have b45 := b4.keep y5 (by simp); have G5 := grown_trans G4 y5; have s2 : True := trivial))
  refine HK2.out _ _ ?_
  clear HK2
  refine wp_seq_k fun K3 hK3 => ?_
  have HK3 : Hid _ := hK3
  clear hK3
  go_wp2_with (first
    | (have _t := s2; clear s2; refine wpList_ldX _ rfl _ (.tmp 2) rfl w.heap.size _ rfl b25 Try.underlying44 i13 ?_; have s3 : True := trivial)
    | (go_at_call 67; have _t := s3; clear s3; refine (atWork_any id nm a n c mo bu st fi at' q m d ti pa tr li F L w5 (hL.keep G5) (hG.keep G5) hn hm).mono ?_; rintro e w6 ⟨gw, a6, c6, q6, d6, rfl, bW, hA6, hO6, hgl, y6⟩; have z5 := G5.size; have G6 := grown_trans G5 y6; have hW : GW w w6 gw id nm mo bu st fi at' ti pa tr li a6 n c6 L q6 m d6 (tabG F m) none 0 0 [] := ⟨bW, hA6.wide z5, hO6.wide z5, OwN.nil _ _, by omega, (fun z e => nbl_nil), (fun z e => nbl_nil), G6⟩; have b26 := b25.keep y6 (by simp); have b36 := b35.keep y6 (by simp); have b46 := b45.keep y6 (by simp); have x0 : w6.cell? ⟨w.heap.size, 0, none⟩ = some (.int .i64 id) := b26.cell 0 (by show 0 < 13; decide); have bK := BxS.new w6 22 #[.int .i64 4, .int .i64 5, .int .i64 6]; have yK := World.grownBy_alloc w6 (.cells #[.int .i64 4, .int .i64 5, .int .i64 6] 22) none; generalize hw7 : w6.alloc (.cells #[.int .i64 4, .int .i64 5, .int .i64 6] 22) = w7 at bK yK; have hW7 := hW.keepN yK; have b37 := b36.keep yK (by simp); have b47 := b46.keep yK (by simp); have G7 := grown_trans G6 yK; have s4 : True := trivial))
  refine HK3.out _ _ ?_
  clear HK3
  refine wp_seq_k fun K4 hK4 => ?_
  have HK4 : Hid _ := hK4
  clear hK4
  go_wp2_with (first
    | (have _t := s4; clear s4; refine wpList_ldX _ rfl _ (.tmp 3) rfl (w.heap.size + 1) _ rfl b36 Try.underlying27 i10 ?_; have s5 : True := trivial)
    | (go_at_call 69; have _t := s5; clear s5; refine (wrongNote_any kd nid nm2 si su at2 pa2 pn pc ga gm gd o co F2 id w6.heap.size 3 3 [4, 5, 6] w7 (hF2.keep G7) ⟨rfl, by decide, rdk3 bK⟩ (Nat.le_refl _)).mono ?_; rintro e w8 ⟨he, y8⟩; rw [hE] at he; subst he; have hW8 := hW7.keepN y8; have b38 := b37.keep y8 (by simp); have b48 := b47.keep y8 (by simp); obtain ⟨k0, k1, k2, k3, k4, k5, k6, k7, k8, k9, k10, k11, k12, k13⟩ := BxS.cell14 hW8.bx; have s6 : True := trivial))
  refine HK4.out _ _ ?_
  clear HK4
  clear k0 k1 k2 k3 k4 k5 k6 k7 k8 k9 k10 k11 k12 k13
  refine wp_seq_k fun K5 hK5 => ?_
  have HK5 : Hid _ := hK5
  clear hK5
  go_wp2_with (first
    | (have _t := s6; clear s6; refine wpList_ldX _ rfl _ (.tmp 3) rfl (w.heap.size + 1) _ rfl b38 Try.underlying27 i10 ?_; have s7 : True := trivial)
    | (go_at_call 70; have _t := s7; clear s7; refine (hear_over w w8 gw id nm mo bu st fi at' ti pa tr li a6 n c6 L q6 m d6 (tabG F m) none 0 0 [] kd nid nm2 si su at2 pa2 pn pc ga gm gd o co hW8 HST9.out HK9.out).mono ?_; rintro e w9 ⟨rfl, hX, kT⟩))
  have b49 := kT _ _ b48
  refine HK5.out _ _ ?_
  clear HK5
  refine rp_t8 _ w w9 gw id nm mo bu st fi at' ti pa tr li a6 n c6 L q6 m d6 (tabG F m) none 0 0 [] hX (w.heap.size + 2) _ rfl b49 ?_
  intro w' u
  exact hX.rpA b49 (by omega) u 0

set_option maxHeartbeats 16000000 in
theorem reply_done3 (id : Int) (nm : ByteArray) (a : Option Addr) (n c : Nat) (mo bu st : Int) (fi : Bool) (at' : Int) (q : Option Addr) (m d : Nat) (ti pa tr li : Int) (L : List Nat) (F : Nat → Int × Int) (kd nid : Int) (nm2 : ByteArray) (si su at2 : Int) (pa2 : Option Addr) (pn pc : Nat) (ga : Option Addr) (gm gd : Nat) (o co : Int) (F2 : Nat → Int × Int) (w : World) (hL : Rd w a n c L) (hG : RdG w q m d F) (hF2 : RdG w ga gm gd F2) (hn : n ≤ 140737488351232) (hm : m ≤ 8796093021952) (hpa : -9223372036854775808 ≤ pa ∧ pa ≤ 9223372036854775807) (hB : gvB id nm.size n mo bu st fi at' m (alG F n m) ti pa tr li = true) (hE : wnE (ntB kd nid nm2.size si su at2 pn gm o co (alG F2 65536 gm)) nid id (hasK [4, 5, 6] kd 3) = 0) (hst : st = 3) (hk : kd = 5) : Calls Try.prog 35 #[.agg (gvA id nm (.slice a n c) mo bu st fi at' (.slice q m d) ti pa tr li), .agg (ntA kd nid nm2 si su at2 (.slice pa2 pn pc) (.slice ga gm gd) o co)] w fun e w' => RpA w id nm mo bu 3 fi at' ti pa tr li L (tabG F m) [xSeen id] 0 e w' := by
  have b2 := BxS.new w 44 #[.int .i64 id, .string nm, .slice a n c, .int .i64 mo, .int .i64 bu, .int .i64 st, .bool fi, .int .i64 at', .slice q m d, .int .i64 ti, .int .i64 pa, .int .i64 tr, .int .i64 li]
  have y2 := World.grownBy_alloc w (.cells #[.int .i64 id, .string nm, .slice a n c, .int .i64 mo, .int .i64 bu, .int .i64 st, .bool fi, .int .i64 at', .slice q m d, .int .i64 ti, .int .i64 pa, .int .i64 tr, .int .i64 li] 44) none
  have i13 := Try.info_gv
  have i10 := Try.info_nt
  unfold gvA ntA
  have hz2 : (w.alloc (.cells #[.int .i64 id, .string nm, .slice a n c, .int .i64 mo, .int .i64 bu, .int .i64 st, .bool fi, .int .i64 at', .slice q m d, .int .i64 ti, .int .i64 pa, .int .i64 tr, .int .i64 li] 44)).heap.size = w.heap.size + 1 := by simp
  generalize hw2 : w.alloc (.cells #[.int .i64 id, .string nm, .slice a n c, .int .i64 mo, .int .i64 bu, .int .i64 st, .bool fi, .int .i64 at', .slice q m d, .int .i64 ti, .int .i64 pa, .int .i64 tr, .int .i64 li] 44) = w2 at b2 y2 hz2
  have b3 := BxS.new w2 27 #[.int .i64 kd, .int .i64 nid, .string nm2, .int .i64 si, .int .i64 su, .int .i64 at2, .slice pa2 pn pc, .slice ga gm gd, .int .i64 o, .int .i64 co]
  rw [hz2] at b3
  have y3 := World.grownBy_alloc w2 (.cells #[.int .i64 kd, .int .i64 nid, .string nm2, .int .i64 si, .int .i64 su, .int .i64 at2, .slice pa2 pn pc, .slice ga gm gd, .int .i64 o, .int .i64 co] 27) none
  have hz3 : (w2.alloc (.cells #[.int .i64 kd, .int .i64 nid, .string nm2, .int .i64 si, .int .i64 su, .int .i64 at2, .slice pa2 pn pc, .slice ga gm gd, .int .i64 o, .int .i64 co] 27)).heap.size = w.heap.size + 2 := by simp [hz2]
  generalize hw3 : w2.alloc (.cells #[.int .i64 kd, .int .i64 nid, .string nm2, .int .i64 si, .int .i64 su, .int .i64 at2, .slice pa2 pn pc, .slice ga gm gd, .int .i64 o, .int .i64 co] 27) = w3 at b3 y3 hz3
  have b4 := BxS.new w3 44 #[.int .i64 0, .string ⟨#[]⟩, .slice none 0 0, .int .i64 0, .int .i64 0, .int .i64 0, .bool false, .int .i64 0, .slice none 0 0, .int .i64 0, .int .i64 0, .int .i64 0, .int .i64 0]
  rw [hz3] at b4
  have y4 := World.grownBy_alloc w3 (.cells #[.int .i64 0, .string ⟨#[]⟩, .slice none 0 0, .int .i64 0, .int .i64 0, .int .i64 0, .bool false, .int .i64 0, .slice none 0 0, .int .i64 0, .int .i64 0, .int .i64 0, .int .i64 0] 44) none
  generalize hw4 : w3.alloc (.cells #[.int .i64 0, .string ⟨#[]⟩, .slice none 0 0, .int .i64 0, .int .i64 0, .int .i64 0, .bool false, .int .i64 0, .slice none 0 0, .int .i64 0, .int .i64 0, .int .i64 0, .int .i64 0] 44) = w4 at b4 y4
  have b24 := (b2.keep y3 (by simp)).keep y4 (by simp)
  have b34 := b3.keep y4 (by simp)
  have G4 := grown_trans (grown_trans y2 y3) y4
  have l4 := b4.lt
  have HST9 : Hid _ := hst
  clear hst
  have HK9 : Hid _ := hk
  clear hk
  have s0 : True := trivial
  go_enter Try.func35, Try.ntmps35
  refine wp_seq_k fun K1 hK1 => ?_
  have HK1 : Hid _ := hK1
  clear hK1
  go_wp2
  refine HK1.out _ _ ?_
  clear HK1
  refine wp_seq_k fun K2 hK2 => ?_
  have HK2 : Hid _ := hK2
  clear hK2
  go_wp2_with (first
    | (have _t := s0; clear s0; refine wpList_ldX _ rfl _ (.tmp 2) rfl w.heap.size _ rfl b24 Try.underlying44 i13 ?_; have s1 : True := trivial)
    | (go_at_call 66; have _t := s1; clear s1; refine (giverMay_any id nm a n c mo bu st fi at' q m d ti pa tr li F w4 (hG.keep G4) hpa).mono ?_; rintro e w5 ⟨he, y5⟩; rw [hB] at he; subst he; have b25 := b24.keep y5 (by simp); have b35 := b34.keep y5 (by simp); have b45 := b4.keep y5 (by simp); have G5 := grown_trans G4 y5; have s2 : True := trivial))
  refine HK2.out _ _ ?_
  clear HK2
  refine wp_seq_k fun K3 hK3 => ?_
  have HK3 : Hid _ := hK3
  clear hK3
  go_wp2_with (first
    | (have _t := s2; clear s2; refine wpList_ldX _ rfl _ (.tmp 2) rfl w.heap.size _ rfl b25 Try.underlying44 i13 ?_; have s3 : True := trivial)
    | (go_at_call 67; have _t := s3; clear s3; refine (atWork_any id nm a n c mo bu st fi at' q m d ti pa tr li F L w5 (hL.keep G5) (hG.keep G5) hn hm).mono ?_; rintro e w6 ⟨gw, a6, c6, q6, d6, rfl, bW, hA6, hO6, hgl, y6⟩; have z5 := G5.size; have G6 := grown_trans G5 y6; have hW : GW w w6 gw id nm mo bu st fi at' ti pa tr li a6 n c6 L q6 m d6 (tabG F m) none 0 0 [] := ⟨bW, hA6.wide z5, hO6.wide z5, OwN.nil _ _, by omega, (fun z e => nbl_nil), (fun z e => nbl_nil), G6⟩; have b26 := b25.keep y6 (by simp); have b36 := b35.keep y6 (by simp); have b46 := b45.keep y6 (by simp); have x0 : w6.cell? ⟨w.heap.size, 0, none⟩ = some (.int .i64 id) := b26.cell 0 (by show 0 < 13; decide); have bK := BxS.new w6 22 #[.int .i64 4, .int .i64 5, .int .i64 6]; have yK := World.grownBy_alloc w6 (.cells #[.int .i64 4, .int .i64 5, .int .i64 6] 22) none; generalize hw7 : w6.alloc (.cells #[.int .i64 4, .int .i64 5, .int .i64 6] 22) = w7 at bK yK; have hW7 := hW.keepN yK; have b37 := b36.keep yK (by simp); have b47 := b46.keep yK (by simp); have G7 := grown_trans G6 yK; have s4 : True := trivial))
  refine HK3.out _ _ ?_
  clear HK3
  refine wp_seq_k fun K4 hK4 => ?_
  have HK4 : Hid _ := hK4
  clear hK4
  go_wp2_with (first
    | (have _t := s4; clear s4; refine wpList_ldX _ rfl _ (.tmp 3) rfl (w.heap.size + 1) _ rfl b36 Try.underlying27 i10 ?_; have s5 : True := trivial)
    | (go_at_call 69; have _t := s5; clear s5; refine (wrongNote_any kd nid nm2 si su at2 pa2 pn pc ga gm gd o co F2 id w6.heap.size 3 3 [4, 5, 6] w7 (hF2.keep G7) ⟨rfl, by decide, rdk3 bK⟩ (Nat.le_refl _)).mono ?_; rintro e w8 ⟨he, y8⟩; rw [hE] at he; subst he; have hW8 := hW7.keepN y8; have b38 := b37.keep y8 (by simp); have b48 := b47.keep y8 (by simp); obtain ⟨k0, k1, k2, k3, k4, k5, k6, k7, k8, k9, k10, k11, k12, k13⟩ := BxS.cell14 hW8.bx; have s6 : True := trivial))
  refine HK4.out _ _ ?_
  clear HK4
  clear k0 k1 k2 k3 k4 k5 k6 k7 k8 k9 k10 k11 k12 k13
  refine wp_seq_k fun K5 hK5 => ?_
  have HK5 : Hid _ := hK5
  clear hK5
  go_wp2_with (first
    | (have _t := s6; clear s6; refine wpList_ldX _ rfl _ (.tmp 3) rfl (w.heap.size + 1) _ rfl b38 Try.underlying27 i10 ?_; have s7 : True := trivial)
    | (go_at_call 70; have _t := s7; clear s7; refine (hear_done3 w w8 gw id nm mo bu st fi at' ti pa tr li a6 n c6 L q6 m d6 (tabG F m) none 0 0 [] kd nid nm2 si su at2 pa2 pn pc ga gm gd o co hW8 HST9.out HK9.out (by omega)).mono ?_; rintro e w9 ⟨rfl, na9, nc9, hX, kT⟩))
  have b49 := kT _ _ b48
  refine HK5.out _ _ ?_
  clear HK5
  refine rp_t8 _ w w9 gw id nm mo bu 3 fi at' ti pa tr li a6 n c6 L q6 m d6 (tabG F m) na9 1 nc9 [xSeen id] hX (w.heap.size + 2) _ rfl b49 ?_
  intro w' u
  exact hX.rpA b49 (by omega) u 0

set_option maxHeartbeats 16000000 in
theorem reply_done (id : Int) (nm : ByteArray) (a : Option Addr) (n c : Nat) (mo bu st : Int) (fi : Bool) (at' : Int) (q : Option Addr) (m d : Nat) (ti pa tr li : Int) (L : List Nat) (F : Nat → Int × Int) (kd nid : Int) (nm2 : ByteArray) (si su at2 : Int) (pa2 : Option Addr) (pn pc : Nat) (ga : Option Addr) (gm gd : Nat) (o co : Int) (F2 : Nat → Int × Int) (w : World) (hL : Rd w a n c L) (hG : RdG w q m d F) (hF2 : RdG w ga gm gd F2) (hn : n ≤ 140737488351232) (hm : m ≤ 8796093021952) (hpa : -9223372036854775808 ≤ pa ∧ pa ≤ 9223372036854775807) (hB : gvB id nm.size n mo bu st fi at' m (alG F n m) ti pa tr li = true) (hE : wnE (ntB kd nid nm2.size si su at2 pn gm o co (alG F2 65536 gm)) nid id (hasK [4, 5, 6] kd 3) = 0) (hs3 : st ≠ 3) (hs4 : st ≠ 4) (hk : kd = 5) (S2 : Int) (hS2 : (if co = 0 then (3 : Int) else 4) = S2) : Calls Try.prog 35 #[.agg (gvA id nm (.slice a n c) mo bu st fi at' (.slice q m d) ti pa tr li), .agg (ntA kd nid nm2 si su at2 (.slice pa2 pn pc) (.slice ga gm gd) o co)] w fun e w' => RpA w id nm mo bu S2 false n ti pa tr li L [] [xSeen id] 0 e w' := by
  have b2 := BxS.new w 44 #[.int .i64 id, .string nm, .slice a n c, .int .i64 mo, .int .i64 bu, .int .i64 st, .bool fi, .int .i64 at', .slice q m d, .int .i64 ti, .int .i64 pa, .int .i64 tr, .int .i64 li]
  have y2 := World.grownBy_alloc w (.cells #[.int .i64 id, .string nm, .slice a n c, .int .i64 mo, .int .i64 bu, .int .i64 st, .bool fi, .int .i64 at', .slice q m d, .int .i64 ti, .int .i64 pa, .int .i64 tr, .int .i64 li] 44) none
  have i13 := Try.info_gv
  have i10 := Try.info_nt
  unfold gvA ntA
  have hz2 : (w.alloc (.cells #[.int .i64 id, .string nm, .slice a n c, .int .i64 mo, .int .i64 bu, .int .i64 st, .bool fi, .int .i64 at', .slice q m d, .int .i64 ti, .int .i64 pa, .int .i64 tr, .int .i64 li] 44)).heap.size = w.heap.size + 1 := by simp
  generalize hw2 : w.alloc (.cells #[.int .i64 id, .string nm, .slice a n c, .int .i64 mo, .int .i64 bu, .int .i64 st, .bool fi, .int .i64 at', .slice q m d, .int .i64 ti, .int .i64 pa, .int .i64 tr, .int .i64 li] 44) = w2 at b2 y2 hz2
  have b3 := BxS.new w2 27 #[.int .i64 kd, .int .i64 nid, .string nm2, .int .i64 si, .int .i64 su, .int .i64 at2, .slice pa2 pn pc, .slice ga gm gd, .int .i64 o, .int .i64 co]
  rw [hz2] at b3
  have y3 := World.grownBy_alloc w2 (.cells #[.int .i64 kd, .int .i64 nid, .string nm2, .int .i64 si, .int .i64 su, .int .i64 at2, .slice pa2 pn pc, .slice ga gm gd, .int .i64 o, .int .i64 co] 27) none
  have hz3 : (w2.alloc (.cells #[.int .i64 kd, .int .i64 nid, .string nm2, .int .i64 si, .int .i64 su, .int .i64 at2, .slice pa2 pn pc, .slice ga gm gd, .int .i64 o, .int .i64 co] 27)).heap.size = w.heap.size + 2 := by simp [hz2]
  generalize hw3 : w2.alloc (.cells #[.int .i64 kd, .int .i64 nid, .string nm2, .int .i64 si, .int .i64 su, .int .i64 at2, .slice pa2 pn pc, .slice ga gm gd, .int .i64 o, .int .i64 co] 27) = w3 at b3 y3 hz3
  have b4 := BxS.new w3 44 #[.int .i64 0, .string ⟨#[]⟩, .slice none 0 0, .int .i64 0, .int .i64 0, .int .i64 0, .bool false, .int .i64 0, .slice none 0 0, .int .i64 0, .int .i64 0, .int .i64 0, .int .i64 0]
  rw [hz3] at b4
  have y4 := World.grownBy_alloc w3 (.cells #[.int .i64 0, .string ⟨#[]⟩, .slice none 0 0, .int .i64 0, .int .i64 0, .int .i64 0, .bool false, .int .i64 0, .slice none 0 0, .int .i64 0, .int .i64 0, .int .i64 0, .int .i64 0] 44) none
  generalize hw4 : w3.alloc (.cells #[.int .i64 0, .string ⟨#[]⟩, .slice none 0 0, .int .i64 0, .int .i64 0, .int .i64 0, .bool false, .int .i64 0, .slice none 0 0, .int .i64 0, .int .i64 0, .int .i64 0, .int .i64 0] 44) = w4 at b4 y4
  have b24 := (b2.keep y3 (by simp)).keep y4 (by simp)
  have b34 := b3.keep y4 (by simp)
  have G4 := grown_trans (grown_trans y2 y3) y4
  have l4 := b4.lt
  have HS39 : Hid _ := hs3
  clear hs3
  have HS49 : Hid _ := hs4
  clear hs4
  have HK9 : Hid _ := hk
  clear hk
  have HS29 : Hid _ := hS2
  clear hS2
  have s0 : True := trivial
  go_enter Try.func35, Try.ntmps35
  refine wp_seq_k fun K1 hK1 => ?_
  have HK1 : Hid _ := hK1
  clear hK1
  go_wp2
  refine HK1.out _ _ ?_
  clear HK1
  refine wp_seq_k fun K2 hK2 => ?_
  have HK2 : Hid _ := hK2
  clear hK2
  go_wp2_with (first
    | (have _t := s0; clear s0; refine wpList_ldX _ rfl _ (.tmp 2) rfl w.heap.size _ rfl b24 Try.underlying44 i13 ?_; have s1 : True := trivial)
    | (go_at_call 66; have _t := s1; clear s1; refine (giverMay_any id nm a n c mo bu st fi at' q m d ti pa tr li F w4 (hG.keep G4) hpa).mono ?_; rintro e w5 ⟨he, y5⟩; rw [hB] at he; subst he; have b25 := b24.keep y5 (by simp); have b35 := b34.keep y5 (by simp); have b45 := b4.keep y5 (by simp); have G5 := grown_trans G4 y5; have s2 : True := trivial))
  refine HK2.out _ _ ?_
  clear HK2
  refine wp_seq_k fun K3 hK3 => ?_
  have HK3 : Hid _ := hK3
  clear hK3
  go_wp2_with (first
    | (have _t := s2; clear s2; refine wpList_ldX _ rfl _ (.tmp 2) rfl w.heap.size _ rfl b25 Try.underlying44 i13 ?_; have s3 : True := trivial)
    | (go_at_call 67; have _t := s3; clear s3; refine (atWork_any id nm a n c mo bu st fi at' q m d ti pa tr li F L w5 (hL.keep G5) (hG.keep G5) hn hm).mono ?_; rintro e w6 ⟨gw, a6, c6, q6, d6, rfl, bW, hA6, hO6, hgl, y6⟩; have z5 := G5.size; have G6 := grown_trans G5 y6; have hW : GW w w6 gw id nm mo bu st fi at' ti pa tr li a6 n c6 L q6 m d6 (tabG F m) none 0 0 [] := ⟨bW, hA6.wide z5, hO6.wide z5, OwN.nil _ _, by omega, (fun z e => nbl_nil), (fun z e => nbl_nil), G6⟩; have b26 := b25.keep y6 (by simp); have b36 := b35.keep y6 (by simp); have b46 := b45.keep y6 (by simp); have x0 : w6.cell? ⟨w.heap.size, 0, none⟩ = some (.int .i64 id) := b26.cell 0 (by show 0 < 13; decide); have bK := BxS.new w6 22 #[.int .i64 4, .int .i64 5, .int .i64 6]; have yK := World.grownBy_alloc w6 (.cells #[.int .i64 4, .int .i64 5, .int .i64 6] 22) none; generalize hw7 : w6.alloc (.cells #[.int .i64 4, .int .i64 5, .int .i64 6] 22) = w7 at bK yK; have hW7 := hW.keepN yK; have b37 := b36.keep yK (by simp); have b47 := b46.keep yK (by simp); have G7 := grown_trans G6 yK; have s4 : True := trivial))
  refine HK3.out _ _ ?_
  clear HK3
  refine wp_seq_k fun K4 hK4 => ?_
  have HK4 : Hid _ := hK4
  clear hK4
  go_wp2_with (first
    | (have _t := s4; clear s4; refine wpList_ldX _ rfl _ (.tmp 3) rfl (w.heap.size + 1) _ rfl b36 Try.underlying27 i10 ?_; have s5 : True := trivial)
    | (go_at_call 69; have _t := s5; clear s5; refine (wrongNote_any kd nid nm2 si su at2 pa2 pn pc ga gm gd o co F2 id w6.heap.size 3 3 [4, 5, 6] w7 (hF2.keep G7) ⟨rfl, by decide, rdk3 bK⟩ (Nat.le_refl _)).mono ?_; rintro e w8 ⟨he, y8⟩; rw [hE] at he; subst he; have hW8 := hW7.keepN y8; have b38 := b37.keep y8 (by simp); have b48 := b47.keep y8 (by simp); obtain ⟨k0, k1, k2, k3, k4, k5, k6, k7, k8, k9, k10, k11, k12, k13⟩ := BxS.cell14 hW8.bx; have s6 : True := trivial))
  refine HK4.out _ _ ?_
  clear HK4
  clear k0 k1 k2 k3 k4 k5 k6 k7 k8 k9 k10 k11 k12 k13
  refine wp_seq_k fun K5 hK5 => ?_
  have HK5 : Hid _ := hK5
  clear hK5
  go_wp2_with (first
    | (have _t := s6; clear s6; refine wpList_ldX _ rfl _ (.tmp 3) rfl (w.heap.size + 1) _ rfl b38 Try.underlying27 i10 ?_; have s7 : True := trivial)
    | (go_at_call 70; have _t := s7; clear s7; refine (hear_done w w8 gw id nm mo bu st fi at' ti pa tr li a6 n c6 L q6 m d6 (tabG F m) none 0 0 [] kd nid nm2 si su at2 pa2 pn pc ga gm gd o co hW8 HS39.out HS49.out HK9.out (by omega)).mono ?_; rintro e w9 ⟨rfl, na9, nc9, hX, kT⟩; rw [HS29.out] at hX))
  have b49 := kT _ _ b48
  refine HK5.out _ _ ?_
  clear HK5
  refine rp_t8 _ w w9 gw id nm mo bu S2 false n ti pa tr li a6 n c6 L none 0 0 [] na9 1 nc9 [xSeen id] hX (w.heap.size + 2) _ rfl b49 ?_
  intro w' u
  exact hX.rpA b49 (by omega) u 0

set_option maxHeartbeats 16000000 in
theorem reply_gaps (id : Int) (nm : ByteArray) (a : Option Addr) (n c : Nat) (mo bu st : Int) (fi : Bool) (at' : Int) (q : Option Addr) (m d : Nat) (ti pa tr li : Int) (L : List Nat) (F : Nat → Int × Int) (kd nid : Int) (nm2 : ByteArray) (si su at2 : Int) (pa2 : Option Addr) (pn pc : Nat) (ga : Option Addr) (gm gd : Nat) (o co : Int) (F2 : Nat → Int × Int) (w : World) (hL : Rd w a n c L) (hG : RdG w q m d F) (hF2 : RdG w ga gm gd F2) (hn : n ≤ 140737488351232) (hm : m ≤ 8796093021952) (hpa : -9223372036854775808 ≤ pa ∧ pa ≤ 9223372036854775807) (hB : gvB id nm.size n mo bu st fi at' m (alG F n m) ti pa tr li = true) (hE : wnE (ntB kd nid nm2.size si su at2 pn gm o co (alG F2 65536 gm)) nid id (hasK [4, 5, 6] kd 3) = 0) (hs3 : st ≠ 3) (hs4 : st ≠ 4) (hk : kd ≠ 5) (hm9 : m ≤ 1000) (S2 : Int) (hS2 : (if o = 3 ∧ st = 1 then (2 : Int) else st) = S2) : Calls Try.prog 35 #[.agg (gvA id nm (.slice a n c) mo bu st fi at' (.slice q m d) ti pa tr li), .agg (ntA kd nid nm2 si su at2 (.slice pa2 pn pc) (.slice ga gm gd) o co)] w fun e w' => RpA w id nm mo bu S2 fi at' 0 pa 0 li L (agN n (tabG F m) F2 gm) [] 0 e w' := by
  have b2 := BxS.new w 44 #[.int .i64 id, .string nm, .slice a n c, .int .i64 mo, .int .i64 bu, .int .i64 st, .bool fi, .int .i64 at', .slice q m d, .int .i64 ti, .int .i64 pa, .int .i64 tr, .int .i64 li]
  have y2 := World.grownBy_alloc w (.cells #[.int .i64 id, .string nm, .slice a n c, .int .i64 mo, .int .i64 bu, .int .i64 st, .bool fi, .int .i64 at', .slice q m d, .int .i64 ti, .int .i64 pa, .int .i64 tr, .int .i64 li] 44) none
  have i13 := Try.info_gv
  have i10 := Try.info_nt
  unfold gvA ntA
  have hz2 : (w.alloc (.cells #[.int .i64 id, .string nm, .slice a n c, .int .i64 mo, .int .i64 bu, .int .i64 st, .bool fi, .int .i64 at', .slice q m d, .int .i64 ti, .int .i64 pa, .int .i64 tr, .int .i64 li] 44)).heap.size = w.heap.size + 1 := by simp
  generalize hw2 : w.alloc (.cells #[.int .i64 id, .string nm, .slice a n c, .int .i64 mo, .int .i64 bu, .int .i64 st, .bool fi, .int .i64 at', .slice q m d, .int .i64 ti, .int .i64 pa, .int .i64 tr, .int .i64 li] 44) = w2 at b2 y2 hz2
  have b3 := BxS.new w2 27 #[.int .i64 kd, .int .i64 nid, .string nm2, .int .i64 si, .int .i64 su, .int .i64 at2, .slice pa2 pn pc, .slice ga gm gd, .int .i64 o, .int .i64 co]
  rw [hz2] at b3
  have y3 := World.grownBy_alloc w2 (.cells #[.int .i64 kd, .int .i64 nid, .string nm2, .int .i64 si, .int .i64 su, .int .i64 at2, .slice pa2 pn pc, .slice ga gm gd, .int .i64 o, .int .i64 co] 27) none
  have hz3 : (w2.alloc (.cells #[.int .i64 kd, .int .i64 nid, .string nm2, .int .i64 si, .int .i64 su, .int .i64 at2, .slice pa2 pn pc, .slice ga gm gd, .int .i64 o, .int .i64 co] 27)).heap.size = w.heap.size + 2 := by simp [hz2]
  generalize hw3 : w2.alloc (.cells #[.int .i64 kd, .int .i64 nid, .string nm2, .int .i64 si, .int .i64 su, .int .i64 at2, .slice pa2 pn pc, .slice ga gm gd, .int .i64 o, .int .i64 co] 27) = w3 at b3 y3 hz3
  have b4 := BxS.new w3 44 #[.int .i64 0, .string ⟨#[]⟩, .slice none 0 0, .int .i64 0, .int .i64 0, .int .i64 0, .bool false, .int .i64 0, .slice none 0 0, .int .i64 0, .int .i64 0, .int .i64 0, .int .i64 0]
  rw [hz3] at b4
  have y4 := World.grownBy_alloc w3 (.cells #[.int .i64 0, .string ⟨#[]⟩, .slice none 0 0, .int .i64 0, .int .i64 0, .int .i64 0, .bool false, .int .i64 0, .slice none 0 0, .int .i64 0, .int .i64 0, .int .i64 0, .int .i64 0] 44) none
  generalize hw4 : w3.alloc (.cells #[.int .i64 0, .string ⟨#[]⟩, .slice none 0 0, .int .i64 0, .int .i64 0, .int .i64 0, .bool false, .int .i64 0, .slice none 0 0, .int .i64 0, .int .i64 0, .int .i64 0, .int .i64 0] 44) = w4 at b4 y4
  have b24 := (b2.keep y3 (by simp)).keep y4 (by simp)
  have b34 := b3.keep y4 (by simp)
  have G4 := grown_trans (grown_trans y2 y3) y4
  have l4 := b4.lt
  have HS39 : Hid _ := hs3
  clear hs3
  have HS49 : Hid _ := hs4
  clear hs4
  have HK9 : Hid _ := hk
  clear hk
  have HS29 : Hid _ := hS2
  clear hS2
  have s0 : True := trivial
  go_enter Try.func35, Try.ntmps35
  refine wp_seq_k fun K1 hK1 => ?_
  have HK1 : Hid _ := hK1
  clear hK1
  go_wp2
  refine HK1.out _ _ ?_
  clear HK1
  refine wp_seq_k fun K2 hK2 => ?_
  have HK2 : Hid _ := hK2
  clear hK2
  go_wp2_with (first
    | (have _t := s0; clear s0; refine wpList_ldX _ rfl _ (.tmp 2) rfl w.heap.size _ rfl b24 Try.underlying44 i13 ?_; have s1 : True := trivial)
    | (go_at_call 66; have _t := s1; clear s1; refine (giverMay_any id nm a n c mo bu st fi at' q m d ti pa tr li F w4 (hG.keep G4) hpa).mono ?_; rintro e w5 ⟨he, y5⟩; rw [hB] at he; subst he; have b25 := b24.keep y5 (by simp); have b35 := b34.keep y5 (by simp); have b45 := b4.keep y5 (by simp); have G5 := grown_trans G4 y5; have s2 : True := trivial))
  refine HK2.out _ _ ?_
  clear HK2
  refine wp_seq_k fun K3 hK3 => ?_
  have HK3 : Hid _ := hK3
  clear hK3
  go_wp2_with (first
    | (have _t := s2; clear s2; refine wpList_ldX _ rfl _ (.tmp 2) rfl w.heap.size _ rfl b25 Try.underlying44 i13 ?_; have s3 : True := trivial)
    | (go_at_call 67; have _t := s3; clear s3; refine (atWork_any id nm a n c mo bu st fi at' q m d ti pa tr li F L w5 (hL.keep G5) (hG.keep G5) hn hm).mono ?_; rintro e w6 ⟨gw, a6, c6, q6, d6, rfl, bW, hA6, hO6, hgl, y6⟩; have z5 := G5.size; have G6 := grown_trans G5 y6; have hW : GW w w6 gw id nm mo bu st fi at' ti pa tr li a6 n c6 L q6 m d6 (tabG F m) none 0 0 [] := ⟨bW, hA6.wide z5, hO6.wide z5, OwN.nil _ _, by omega, (fun z e => nbl_nil), (fun z e => nbl_nil), G6⟩; have b26 := b25.keep y6 (by simp); have b36 := b35.keep y6 (by simp); have b46 := b45.keep y6 (by simp); have x0 : w6.cell? ⟨w.heap.size, 0, none⟩ = some (.int .i64 id) := b26.cell 0 (by show 0 < 13; decide); have bK := BxS.new w6 22 #[.int .i64 4, .int .i64 5, .int .i64 6]; have yK := World.grownBy_alloc w6 (.cells #[.int .i64 4, .int .i64 5, .int .i64 6] 22) none; generalize hw7 : w6.alloc (.cells #[.int .i64 4, .int .i64 5, .int .i64 6] 22) = w7 at bK yK; have hW7 := hW.keepN yK; have b37 := b36.keep yK (by simp); have b47 := b46.keep yK (by simp); have G7 := grown_trans G6 yK; have s4 : True := trivial))
  refine HK3.out _ _ ?_
  clear HK3
  refine wp_seq_k fun K4 hK4 => ?_
  have HK4 : Hid _ := hK4
  clear hK4
  go_wp2_with (first
    | (have _t := s4; clear s4; refine wpList_ldX _ rfl _ (.tmp 3) rfl (w.heap.size + 1) _ rfl b36 Try.underlying27 i10 ?_; have s5 : True := trivial)
    | (go_at_call 69; have _t := s5; clear s5; refine (wrongNote_any kd nid nm2 si su at2 pa2 pn pc ga gm gd o co F2 id w6.heap.size 3 3 [4, 5, 6] w7 (hF2.keep G7) ⟨rfl, by decide, rdk3 bK⟩ (Nat.le_refl _)).mono ?_; rintro e w8 ⟨he, y8⟩; rw [hE] at he; subst he; have hW8 := hW7.keepN y8; have b38 := b37.keep y8 (by simp); have b48 := b47.keep y8 (by simp); obtain ⟨k0, k1, k2, k3, k4, k5, k6, k7, k8, k9, k10, k11, k12, k13⟩ := BxS.cell14 hW8.bx; have s6 : True := trivial))
  refine HK4.out _ _ ?_
  clear HK4
  clear k0 k1 k2 k3 k4 k5 k6 k7 k8 k9 k10 k11 k12 k13
  refine wp_seq_k fun K5 hK5 => ?_
  have HK5 : Hid _ := hK5
  clear hK5
  go_wp2_with (first
    | (have _t := s6; clear s6; refine wpList_ldX _ rfl _ (.tmp 3) rfl (w.heap.size + 1) _ rfl b38 Try.underlying27 i10 ?_; have s7 : True := trivial)
    | (go_at_call 70; have _t := s7; clear s7; refine (hear_gaps w w8 gw id nm mo bu st fi at' ti pa tr li a6 n c6 L q6 m d6 (tabG F m) none 0 0 [] kd nid nm2 si su at2 pa2 pn pc ga gm gd o co hW8 HS39.out HS49.out HK9.out hm9 F2 hF2).mono ?_; rintro e w9 ⟨rfl, q9, m9, d9, hX, kT⟩; rw [HS29.out] at hX))
  have b49 := kT _ _ b48
  refine HK5.out _ _ ?_
  clear HK5
  refine rp_t8 _ w w9 gw id nm mo bu S2 fi at' 0 pa 0 li a6 n c6 L q9 m9 d9 (agN n (tabG F m) F2 gm) none 0 0 [] hX (w.heap.size + 2) _ rfl b49 ?_
  intro w' u
  exact hX.rpA b49 (by omega) u 0
end

section
theorem hasK3 (kd : Int) : hasK [4, 5, 6] kd 3 = decide (kd = 4 ∨ kd = 5 ∨ kd = 6) := by
  by_cases h4 : kd = 4
  · subst h4; rfl
  · by_cases h5 : kd = 5
    · subst h5; rfl
    · by_cases h6 : kd = 6
      · subst h6; rfl
      · rw [decide_eq_false (by omega)]
        simp [hasK, h4, h5, h6]
        try omega
/-- what Reply answers -/
theorem reply_any (id : Int) (nm : ByteArray) (a : Option Addr) (n c : Nat) (mo bu st : Int) (fi : Bool) (at' : Int) (q : Option Addr) (m d : Nat) (ti pa tr li : Int) (L : List Nat) (F : Nat → Int × Int) (kd nid : Int) (nm2 : ByteArray) (si su at2 : Int) (pa2 : Option Addr) (pn pc : Nat) (ga : Option Addr) (gm gd : Nat) (o co : Int) (F2 : Nat → Int × Int) (w : World) (hL : Rd w a n c L) (hG : RdG w q m d F) (hF2 : RdG w ga gm gd F2) (hn : n ≤ 140737488351232) (hm : m ≤ 8796093021952) (hpa : -9223372036854775808 ≤ pa ∧ pa ≤ 9223372036854775807) : Calls Try.prog 35 #[.agg (gvA id nm (.slice a n c) mo bu st fi at' (.slice q m d) ti pa tr li), .agg (ntA kd nid nm2 si su at2 (.slice pa2 pn pc) (.slice ga gm gd) o co)] w fun e w' => RV w (rpV (gvB id nm.size n mo bu st fi at' m (alG F n m) ti pa tr li) (ntB kd nid nm2.size si su at2 pn gm o co (alG F2 65536 gm)) (⟨id, nm, mo, bu, st, fi, at', ti, pa, tr, li, L, tabG F m⟩ : Gv) kd nid o co F2 gm) e w' := by
  by_cases hB : gvB id nm.size n mo bu st fi at' m (alG F n m) ti pa tr li = true
  · have hgp := gvB_parts hB
    obtain ⟨may, hmay⟩ : ∃ may, ntB kd nid nm2.size si su at2 pn gm o co (alG F2 65536 gm) = may := ⟨_, rfl⟩
    rw [hB, hmay]
    by_cases hE0 : wnE may nid id (hasK [4, 5, 6] kd 3) = 0
    · have hm1 : may = true := by
        unfold wnE at hE0
        by_cases e : may = false
        · rw [if_pos e] at hE0; omega
        · cases may; exact absurd rfl e; rfl
      subst hm1
      have hid : nid = id := by
        unfold wnE at hE0
        rw [if_neg (by decide)] at hE0
        by_cases e : nid = id
        · exact e
        · rw [if_pos e] at hE0; omega
      have hk : kd = 4 ∨ kd = 5 ∨ kd = 6 := by
        unfold wnE at hE0
        rw [if_neg (by decide), if_neg (fun h9 => h9 hid), hasK3] at hE0
        by_cases e : kd = 4 ∨ kd = 5 ∨ kd = 6
        · exact e
        · rw [decide_eq_false e, if_pos rfl] at hE0; omega
      have hE : wnE (ntB kd nid nm2.size si su at2 pn gm o co (alG F2 65536 gm)) nid id (hasK [4, 5, 6] kd 3) = 0 := by rw [hmay]; exact hE0
      have hn1 : L.length = n := hL.len
      have e : rpV true true (⟨id, nm, mo, bu, st, fi, at', ti, pa, tr, li, L, tabG F m⟩ : Gv) kd nid o co F2 gm = rpX (⟨id, nm, mo, bu, st, fi, at', ti, pa, tr, li, L, tabG F m⟩ : Gv) kd o co F2 gm := by
        unfold rpV; rw [if_neg (by decide), if_neg (by decide), if_neg (fun h9 => h9 hid)]
      rw [e]
      unfold rpX
      rw [if_neg (by omega)]
      show Calls _ _ _ _ fun e w' => RV w (if st = 4 then _ else if kd = 5 then (if st = 3 then _ else _) else if st = 3 then _ else _) e w'
      by_cases h4 : st = 4
      · rw [if_pos h4]
        exact reply_failed id nm a n c mo bu st fi at' q m d ti pa tr li L F kd nid nm2 si su at2 pa2 pn pc ga gm gd o co F2 w hL hG hF2 hn hm hpa hB hE h4
      · rw [if_neg h4]
        by_cases h5 : kd = 5
        · rw [if_pos h5]
          by_cases h3 : st = 3
          · rw [if_pos h3]
            have := reply_done3 id nm a n c mo bu st fi at' q m d ti pa tr li L F kd nid nm2 si su at2 pa2 pn pc ga gm gd o co F2 w hL hG hF2 hn hm hpa hB hE h3 h5
            subst h3
            exact this
          · rw [if_neg h3]
            rw [hn1]
            exact reply_done id nm a n c mo bu st fi at' q m d ti pa tr li L F kd nid nm2 si su at2 pa2 pn pc ga gm gd o co F2 w hL hG hF2 hn hm hpa hB hE h3 h4 h5 _ rfl
        · rw [if_neg h5]
          by_cases h3 : st = 3
          · rw [if_pos h3]
            exact reply_over id nm a n c mo bu st fi at' q m d ti pa tr li L F kd nid nm2 si su at2 pa2 pn pc ga gm gd o co F2 w hL hG hF2 hn hm hpa hB hE h3 h5
          · rw [if_neg h3]
            rw [hn1]
            exact reply_gaps id nm a n c mo bu st fi at' q m d ti pa tr li L F kd nid nm2 si su at2 pa2 pn pc ga gm gd o co F2 w hL hG hF2 hn hm hpa hB hE h3 h4 h5 hgp.2.1 _ rfl
    · have hE : wnE (ntB kd nid nm2.size si su at2 pn gm o co (alG F2 65536 gm)) nid id (hasK [4, 5, 6] kd 3) = wnE may nid id (hasK [4, 5, 6] kd 3) := by rw [hmay]
      have e : rpV true may (⟨id, nm, mo, bu, st, fi, at', ti, pa, tr, li, L, tabG F m⟩ : Gv) kd nid o co F2 gm = ((⟨id, nm, mo, bu, st, fi, at', ti, pa, tr, li, L, tabG F m⟩ : Gv), [], wnE may nid id (hasK [4, 5, 6] kd 3)) := by
        unfold rpV wnE
        rw [if_neg (by decide)]
        by_cases h1 : may = false
        · rw [if_pos h1, if_pos h1]
        · rw [if_neg h1, if_neg h1]
          by_cases h2 : nid = id
          · rw [if_neg (fun h9 => h9 h2), if_neg (fun h9 => h9 h2), hasK3]
            unfold rpX
            by_cases h3 : kd = 4 ∨ kd = 5 ∨ kd = 6
            · exfalso
              apply hE0
              unfold wnE
              rw [if_neg h1, if_neg (fun h9 => h9 h2), hasK3, decide_eq_true h3, if_neg (by decide)]
            · rw [if_pos (by omega), decide_eq_false h3, if_pos rfl]
          · rw [if_pos h2, if_pos h2]
      rw [e]
      exact reply_err id nm a n c mo bu st fi at' q m d ti pa tr li L F kd nid nm2 si su at2 pa2 pn pc ga gm gd o co F2 w hL hG hF2 hn hm hpa hB _ hE hE0
  · have hB := Bool.eq_false_iff.2 hB
    rw [hB]
    exact reply_no id nm a n c mo bu st fi at' q m d ti pa tr li L F kd nid nm2 si su at2 pa2 pn pc ga gm gd o co F2 w hL hG hF2 hn hm hpa hB
end

section
/-- Reply, and what the document answers, in data form -/
theorem replyT_any (V : Gv) (a q : Option Addr) (c d : Nat) (kd nid : Int) (nm2 : ByteArray) (si su at2 : Int) (pa2 : Option Addr) (pn pc : Nat) (ga : Option Addr) (gm gd : Nat) (o co : Int) (F2 : Nat → Int × Int) (w : World) (hL : Rd w a V.L.length c V.L) (hG : RdG w q V.G.length d (giF V.G)) (hF2 : RdG w ga gm gd F2) (hn : V.L.length ≤ 140737488351232) (hm : V.G.length ≤ 8796093021952) (hpa : -9223372036854775808 ≤ V.pa ∧ V.pa ≤ 9223372036854775807) :
    Calls Try.prog 35 #[.agg (gvA V.id V.nm (.slice a V.L.length c) V.mo V.bu V.st V.fi V.at' (.slice q V.G.length d) V.ti V.pa V.tr V.li), .agg (ntA kd nid nm2 si su at2 (.slice pa2 pn pc) (.slice ga gm gd) o co)] w fun e w' => RT w (rpV (gvB V.id V.nm.size V.L.length V.mo V.bu V.st V.fi V.at' V.G.length (alG (giF V.G) V.L.length V.G.length) V.ti V.pa V.tr V.li) (ntB kd nid nm2.size si su at2 pn gm o co (alG F2 65536 gm)) V kd nid o co F2 gm).1 ((rpV (gvB V.id V.nm.size V.L.length V.mo V.bu V.st V.fi V.at' V.G.length (alG (giF V.G) V.L.length V.G.length) V.ti V.pa V.tr V.li) (ntB kd nid nm2.size si su at2 pn gm o co (alG F2 65536 gm)) V kd nid o co F2 gm).2.1.map Nx.dt) (rpV (gvB V.id V.nm.size V.L.length V.mo V.bu V.st V.fi V.at' V.G.length (alG (giF V.G) V.L.length V.G.length) V.ti V.pa V.tr V.li) (ntB kd nid nm2.size si su at2 pn gm o co (alG F2 65536 gm)) V kd nid o co F2 gm).2.2 e w' := by
  have h := reply_any V.id V.nm a V.L.length c V.mo V.bu V.st V.fi V.at' q V.G.length d V.ti V.pa V.tr V.li V.L (giF V.G) kd nid nm2 si su at2 pa2 pn pc ga gm gd o co F2 w hL hG hF2 hn hm hpa
  rw [tab_giF] at h
  exact h.mono (fun e w' h9 => RV.rt h9)
open Go.ChangeShapes Go.WideShapes
end
end Go.Proofs.Ytnimehkfnpepfaa
