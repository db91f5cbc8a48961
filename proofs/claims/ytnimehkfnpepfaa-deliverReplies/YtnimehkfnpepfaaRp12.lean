import Derived.Test.YtnimehkfnpepfaaRp10
import Derived.Test.YtnimehkfnpepfaaRp11
import Derived.Test.YtnimehkfnpepfaaRp4
import Derived.Test.YtnimehkfnpepfaaRp6
import Derived.Test.YtnimehkfnpepfaaRp5
namespace Go.Proofs.Ytnimehkfnpepfaa
open Go.RowKit
set_option maxRecDepth 100000
set_option linter.unusedVariables false
set_option linter.unusedSimpArgs false

section
set_option maxHeartbeats 16000000 in
theorem rreply_no (id : Int) (nm : ByteArray) (a : Option Addr) (n c : Nat) (mo bu st : Int) (fi : Bool) (at' : Int) (q : Option Addr) (m d : Nat) (ti pa tr li : Int) (L : List Nat) (F : Nat → Int × Int) (kd nid : Int) (nm2 : ByteArray) (si su at2 : Int) (pa2 : Option Addr) (pn pc : Nat) (ga : Option Addr) (gm gd : Nat) (o co : Int) (F2 : Nat → Int × Int) (w : World) (hL : Rd w a n c L) (hG : RdG w q m d F) (hF2 : RdG w ga gm gd F2) (hn : n ≤ 140737488351232) (hm : m ≤ 8796093021952) (hpa : -9223372036854775808 ≤ pa ∧ pa ≤ 9223372036854775807) (hB : gvB id nm.size n mo bu st fi at' m (alG F n m) ti pa tr li = false) : Calls Try.prog 33 #[.agg (gvA id nm (.slice a n c) mo bu st fi at' (.slice q m d) ti pa tr li), .agg (ntA kd nid nm2 si su at2 (.slice pa2 pn pc) (.slice ga gm gd) o co)] w fun e w' => RpA w 0 ⟨#[]⟩ 0 0 0 false 0 0 0 0 0 [] [] [] 11 e w' := by
  have b2 := BxS.new w 44 #[.int .i64 id, .string nm, .slice a n c, .int .i64 mo, .int .i64 bu, .int .i64 st, .bool fi, .int .i64 at', .slice q m d, .int .i64 ti, .int .i64 pa, .int .i64 tr, .int .i64 li]
  have y2 := World.grownBy_alloc w (.cells #[.int .i64 id, .string nm, .slice a n c, .int .i64 mo, .int .i64 bu, .int .i64 st, .bool fi, .int .i64 at', .slice q m d, .int .i64 ti, .int .i64 pa, .int .i64 tr, .int .i64 li] 44) none
  have i13 := Try.info_gv
  have i10 := Try.info_nt
  unfold gvA ntA
  have hz2 : (w.alloc (.cells #[.int .i64 id, .string nm, .slice a n c, .int .i64 mo, .int .i64 bu, .int .i64 st, .bool fi, .int .i64 at', .slice q m d, .int .i64 ti, .int .i64 pa, .int .i64 tr, .int .i64 li] 44)).heap.size = w.heap.size + 1 := by simp
  generalize hw2 : w.alloc (.cells #[.int .i64 id, .string nm, .slice a n c, .int .i64 mo, .int .i64 bu, .int .i64 st, .bool fi, .int .i64 at', .slice q m d, .int .i64 ti, .int .i64 pa, .int .i64 tr, .int .i64 li] 44) = w2 at b2 y2 hz2
  have b3 := BxS.new w2 27 #[.int .i64 kd, .int .i64 nid, .string nm2, .int .i64 si, .int .i64 su, .int .i64 at2, .slice pa2 pn pc, .slice ga gm gd, .int .i64 o, .int .i64 co]
  rw [hz2] at b3
  have y3 := World.grownBy_alloc w2 (.cells #[.int .i64 kd, .int .i64 nid, .string nm2, .int .i64 si, .int .i64 su, .int .i64 at2, .slice pa2 pn pc, .slice ga gm gd, .int .i64 o, .int .i64 co] 27) none
  have hz3 : (w2.alloc (.cells #[.int .i64 kd, .int .i64 nid, .string nm2, .int .i64 si, .int .i64 su, .int .i64 at2, .slice pa2 pn pc, .slice ga gm gd, .int .i64 o, .int .i64 co] 27)).heap.size = w.heap.size + 2 := by simp [hz2]
  generalize hw3 : w2.alloc (.cells #[.int .i64 kd, .int .i64 nid, .string nm2, .int .i64 si, .int .i64 su, .int .i64 at2, .slice pa2 pn pc, .slice ga gm gd, .int .i64 o, .int .i64 co] 27) = w3 at b3 y3 hz3
  have b4 := BxS.new w3 44 #[.int .i64 0, .string ⟨#[]⟩, .slice none 0 0, .int .i64 0, .int .i64 0, .int .i64 0, .bool false, .int .i64 0, .slice none 0 0, .int .i64 0, .int .i64 0, .int .i64 0, .int .i64 0]
  rw [hz3] at b4
  have y4 := World.grownBy_alloc w3 (.cells #[.int .i64 0, .string ⟨#[]⟩, .slice none 0 0, .int .i64 0, .int .i64 0, .int .i64 0, .bool false, .int .i64 0, .slice none 0 0, .int .i64 0, .int .i64 0, .int .i64 0, .int .i64 0] 44) none
  generalize hw4 : w3.alloc (.cells #[.int .i64 0, .string ⟨#[]⟩, .slice none 0 0, .int .i64 0, .int .i64 0, .int .i64 0, .bool false, .int .i64 0, .slice none 0 0, .int .i64 0, .int .i64 0, .int .i64 0, .int .i64 0] 44) = w4 at b4 y4
  have b24 := (b2.keep y3 (by simp)).keep y4 (by simp)
  have b34 := b3.keep y4 (by simp)
  have G4 := grown_trans (grown_trans y2 y3) y4
  have l4 := b4.lt
  have s0 : True := trivial
  go_enter Try.func33, Try.ntmps33
  go_wp2_with (first
    | (have _t := s0; clear s0; refine wpList_ldX _ rfl _ (.tmp 2) rfl w.heap.size _ rfl b24 Try.underlying44 i13 ?_; have s1 : True := trivial)
    | (go_at_call 59; have _t := s1; clear s1; refine (rgiverMay_any id nm a n c mo bu st fi at' q m d ti pa tr li F L w4 (hL.keep G4) (hG.keep G4)).mono ?_; rintro e w5 ⟨he, y5⟩; rw [hB] at he; subst he; have b25 := b24.keep y5 (by simp); have b35 := b34.keep y5 (by simp); have b45 := b4.keep y5 (by simp); have G5 := grown_trans G4 y5; have s2 : True := trivial)
    | (have _t := s2; clear s2; refine wpList_stX _ rfl _ (.tmp 4) (.tmp 13) rfl (w.heap.size + 2) _ _ rfl rfl b45 i13 rfl (by simp [Value.oneCell']) ?_; intro w6 b46 u6))
  refine bodyPost_ret (results_c1t2 rfl _ _ _ ⟨w.heap.size + 2, 0, none⟩ _ _ _ rfl (BxS.load (t := 44) b46 Try.underlying44 Try.info_gv) rfl rfl) rfl ?_
  exact ⟨none, 0, none, 0, none, 0, rfl, Ans.nil _ _, OwGi.nil _ _, OwN.nil _ _, (fun z e => by cases e), (fun z e => by cases e), grown_far G5 u6 (fun z e => by have e := Option.some.inj e; omega)⟩

set_option maxHeartbeats 16000000 in
theorem rreply_form (id : Int) (nm : ByteArray) (a : Option Addr) (n c : Nat) (mo bu st : Int) (fi : Bool) (at' : Int) (q : Option Addr) (m d : Nat) (ti pa tr li : Int) (L : List Nat) (F : Nat → Int × Int) (kd nid : Int) (nm2 : ByteArray) (si su at2 : Int) (pa2 : Option Addr) (pn pc : Nat) (ga : Option Addr) (gm gd : Nat) (o co : Int) (F2 : Nat → Int × Int) (w : World) (hL : Rd w a n c L) (hG : RdG w q m d F) (hF2 : RdG w ga gm gd F2) (hn : n ≤ 140737488351232) (hm : m ≤ 8796093021952) (hpa : -9223372036854775808 ≤ pa ∧ pa ≤ 9223372036854775807) (hpn : pn ≤ 9223372036854700000) (hB : gvB id nm.size n mo bu st fi at' m (alG F n m) ti pa tr li = true) (hM : ntB kd nid nm2.size si su at2 pn gm o co (alG F2 65536 gm) = false) : Calls Try.prog 33 #[.agg (gvA id nm (.slice a n c) mo bu st fi at' (.slice q m d) ti pa tr li), .agg (ntA kd nid nm2 si su at2 (.slice pa2 pn pc) (.slice ga gm gd) o co)] w fun e w' => RpA w id nm mo bu st fi at' ti pa tr li L (tabG F m) [] 8 e w' := by
  have b2 := BxS.new w 44 #[.int .i64 id, .string nm, .slice a n c, .int .i64 mo, .int .i64 bu, .int .i64 st, .bool fi, .int .i64 at', .slice q m d, .int .i64 ti, .int .i64 pa, .int .i64 tr, .int .i64 li]
  have y2 := World.grownBy_alloc w (.cells #[.int .i64 id, .string nm, .slice a n c, .int .i64 mo, .int .i64 bu, .int .i64 st, .bool fi, .int .i64 at', .slice q m d, .int .i64 ti, .int .i64 pa, .int .i64 tr, .int .i64 li] 44) none
  have i13 := Try.info_gv
  have i10 := Try.info_nt
  unfold gvA ntA
  have hz2 : (w.alloc (.cells #[.int .i64 id, .string nm, .slice a n c, .int .i64 mo, .int .i64 bu, .int .i64 st, .bool fi, .int .i64 at', .slice q m d, .int .i64 ti, .int .i64 pa, .int .i64 tr, .int .i64 li] 44)).heap.size = w.heap.size + 1 := by simp
  generalize hw2 : w.alloc (.cells #[.int .i64 id, .string nm, .slice a n c, .int .i64 mo, .int .i64 bu, .int .i64 st, .bool fi, .int .i64 at', .slice q m d, .int .i64 ti, .int .i64 pa, .int .i64 tr, .int .i64 li] 44) = w2 at b2 y2 hz2
  have b3 := BxS.new w2 27 #[.int .i64 kd, .int .i64 nid, .string nm2, .int .i64 si, .int .i64 su, .int .i64 at2, .slice pa2 pn pc, .slice ga gm gd, .int .i64 o, .int .i64 co]
  rw [hz2] at b3
  have y3 := World.grownBy_alloc w2 (.cells #[.int .i64 kd, .int .i64 nid, .string nm2, .int .i64 si, .int .i64 su, .int .i64 at2, .slice pa2 pn pc, .slice ga gm gd, .int .i64 o, .int .i64 co] 27) none
  have hz3 : (w2.alloc (.cells #[.int .i64 kd, .int .i64 nid, .string nm2, .int .i64 si, .int .i64 su, .int .i64 at2, .slice pa2 pn pc, .slice ga gm gd, .int .i64 o, .int .i64 co] 27)).heap.size = w.heap.size + 2 := by simp [hz2]
  generalize hw3 : w2.alloc (.cells #[.int .i64 kd, .int .i64 nid, .string nm2, .int .i64 si, .int .i64 su, .int .i64 at2, .slice pa2 pn pc, .slice ga gm gd, .int .i64 o, .int .i64 co] 27) = w3 at b3 y3 hz3
  have b4 := BxS.new w3 44 #[.int .i64 0, .string ⟨#[]⟩, .slice none 0 0, .int .i64 0, .int .i64 0, .int .i64 0, .bool false, .int .i64 0, .slice none 0 0, .int .i64 0, .int .i64 0, .int .i64 0, .int .i64 0]
  rw [hz3] at b4
  have y4 := World.grownBy_alloc w3 (.cells #[.int .i64 0, .string ⟨#[]⟩, .slice none 0 0, .int .i64 0, .int .i64 0, .int .i64 0, .bool false, .int .i64 0, .slice none 0 0, .int .i64 0, .int .i64 0, .int .i64 0, .int .i64 0] 44) none
  generalize hw4 : w3.alloc (.cells #[.int .i64 0, .string ⟨#[]⟩, .slice none 0 0, .int .i64 0, .int .i64 0, .int .i64 0, .bool false, .int .i64 0, .slice none 0 0, .int .i64 0, .int .i64 0, .int .i64 0, .int .i64 0] 44) = w4 at b4 y4
  have b24 := (b2.keep y3 (by simp)).keep y4 (by simp)
  have b34 := b3.keep y4 (by simp)
  have G4 := grown_trans (grown_trans y2 y3) y4
  have l4 := b4.lt
  have s0 : True := trivial
  go_enter Try.func33, Try.ntmps33
  go_wp2_with (first
    | (have _t := s0; clear s0; refine wpList_ldX _ rfl _ (.tmp 2) rfl w.heap.size _ rfl b24 Try.underlying44 i13 ?_; have s1 : True := trivial)
    | (go_at_call 59; have _t := s1; clear s1; refine (rgiverMay_any id nm a n c mo bu st fi at' q m d ti pa tr li F L w4 (hL.keep G4) (hG.keep G4)).mono ?_; rintro e w5 ⟨he, y5⟩; rw [hB] at he; subst he; have b25 := b24.keep y5 (by simp); have b35 := b34.keep y5 (by simp); have b45 := b4.keep y5 (by simp); have G5 := grown_trans G4 y5; have s2 : True := trivial)
    | (have _t := s2; clear s2; refine wpList_ldX _ rfl _ (.tmp 2) rfl w.heap.size _ rfl b25 Try.underlying44 i13 ?_; have s3 : True := trivial)
    | (go_at_call 60; have _t := s3; clear s3; refine (giverOf_any id nm a n c mo bu st fi at' q m d ti pa tr li F L w5 (hL.keep G5) (hG.keep G5) hn hm).mono ?_; rintro e w6 ⟨a6, c6, q6, d6, rfl, hA6, hO6, y6⟩; have z5 := G5.size; have z6 := y6.size; have bn7 := BxS.new w6 44 #[.int .i64 0, .string ⟨#[]⟩, .slice none 0 0, .int .i64 0, .int .i64 0, .int .i64 0, .bool false, .int .i64 0, .slice none 0 0, .int .i64 0, .int .i64 0, .int .i64 0, .int .i64 0]; have gn7 := World.grownBy_alloc w6 (.cells #[.int .i64 0, .string ⟨#[]⟩, .slice none 0 0, .int .i64 0, .int .i64 0, .int .i64 0, .bool false, .int .i64 0, .slice none 0 0, .int .i64 0, .int .i64 0, .int .i64 0, .int .i64 0] 44) none; generalize hw7 : w6.alloc (.cells #[.int .i64 0, .string ⟨#[]⟩, .slice none 0 0, .int .i64 0, .int .i64 0, .int .i64 0, .bool false, .int .i64 0, .slice none 0 0, .int .i64 0, .int .i64 0, .int .i64 0, .int .i64 0] 44) = w7 at bn7 gn7; have y7 := grown_trans y6 gn7; have b37 := b35.keep y7 (by simp); have b47 := b45.keep y7 (by simp); have l47 := b45.lt; have s4 : True := trivial)
    | (have _t := s4; clear s4; refine wpList_stX _ rfl _ (.tmp 7) (.tmp 15) rfl w6.heap.size _ _ rfl rfl bn7 i13 rfl (by simp [gvA, Value.oneCell']) ?_; intro w8 b78 u8; have b38 := b37.keep u8 (fun e => BxS.apart b37 bn7 (by decide) (Option.some.inj e)); have b48 := b47.keep u8 (fun e => by have e := Option.some.inj e; omega); have G8 : w.grownBy w8 none := grown_far (grown_trans G5 y7) u8 (fun z e => by have e := Option.some.inj e; omega); have hA8 := (hA6.keep gn7).kRR u8 (fun z e e2 => by have e := Option.some.inj e; subst e; exact own_ty (hA6.keep gn7).own bn7 (by decide) e2); have hO8 := (hO6.keep gn7).bx bn7 (by decide) u8; have s5 : True := trivial)
    | (have _t := s5; clear s5; refine wpList_ldX _ rfl _ (.tmp 3) rfl (w.heap.size + 1) _ rfl b38 Try.underlying27 i10 ?_; have s6 : True := trivial)
    | (go_at_call 47; have _t := s6; clear s6; refine (rnoteMay_any kd nid nm2 si su at2 pa2 pn pc ga gm gd o co F2 w8 (hF2.keep G8) hpn).mono ?_; rintro e w9 ⟨he, y9⟩; rw [hM] at he; subst he; have b79 := b78.keep y9 (by simp); have b39 := b38.keep y9 (by simp); have b49 := b48.keep y9 (by simp); unfold gvA at b79; obtain ⟨e0, e1, e2, e3, e4, e5, e6, e7, e8, e9⟩ := b39.cell10; have v0 : w9.cell? ⟨w6.heap.size, 0, none⟩ = some (.int .i64 id) := b79.cell 0 (by show 0 < 13; decide); have s7 : True := trivial)
    | (have _t := s7; clear s7; refine wpList_ldX _ rfl _ (.tmp 7) rfl w6.heap.size _ rfl b79 Try.underlying44 i13 ?_; have s8 : True := trivial)
    | (have _t := s8; clear s8; refine wpList_stX _ rfl _ (.tmp 4) (.tmp 19) rfl (w.heap.size + 2) _ _ rfl rfl b49 i13 rfl (by simp [Value.oneCell']) ?_; intro wA b4A uA))
  refine bodyPost_ret (results_c1t2 rfl _ _ _ ⟨w.heap.size + 2, 0, none⟩ _ _ _ rfl (BxS.load (t := 44) b4A Try.underlying44 Try.info_gv) rfl rfl) rfl ?_
  have hAA := ((hA8.keep y9).kRR uA (fun z e e2 => by have e := Option.some.inj e; subst e; exact own_ty (hA8.keep y9).own b49 (by decide) e2)).wide z5
  have hOA := ((hO8.keep y9).bx b49 (by decide) uA).wide z5
  have hl1 := hAA.len
  have hl2 := hOA.len
  unfold RpA
  rw [hl1, hl2]
  exact ⟨a6, c6, q6, d6, none, 0, rfl, hAA, hOA, OwN.nil _ _, (fun z e => nbl_nil), (fun z e => nbl_nil), grown_far (grown_trans G8 y9) uA (fun z e => by have e := Option.some.inj e; omega)⟩

set_option maxHeartbeats 16000000 in
theorem rreply_name (id : Int) (nm : ByteArray) (a : Option Addr) (n c : Nat) (mo bu st : Int) (fi : Bool) (at' : Int) (q : Option Addr) (m d : Nat) (ti pa tr li : Int) (L : List Nat) (F : Nat → Int × Int) (kd nid : Int) (nm2 : ByteArray) (si su at2 : Int) (pa2 : Option Addr) (pn pc : Nat) (ga : Option Addr) (gm gd : Nat) (o co : Int) (F2 : Nat → Int × Int) (w : World) (hL : Rd w a n c L) (hG : RdG w q m d F) (hF2 : RdG w ga gm gd F2) (hn : n ≤ 140737488351232) (hm : m ≤ 8796093021952) (hpa : -9223372036854775808 ≤ pa ∧ pa ≤ 9223372036854775807) (hpn : pn ≤ 9223372036854700000) (hB : gvB id nm.size n mo bu st fi at' m (alG F n m) ti pa tr li = true) (hM : ntB kd nid nm2.size si su at2 pn gm o co (alG F2 65536 gm) = true) (hid : nid ≠ id) : Calls Try.prog 33 #[.agg (gvA id nm (.slice a n c) mo bu st fi at' (.slice q m d) ti pa tr li), .agg (ntA kd nid nm2 si su at2 (.slice pa2 pn pc) (.slice ga gm gd) o co)] w fun e w' => RpA w id nm mo bu st fi at' ti pa tr li L (tabG F m) [] 10 e w' := by
  have b2 := BxS.new w 44 #[.int .i64 id, .string nm, .slice a n c, .int .i64 mo, .int .i64 bu, .int .i64 st, .bool fi, .int .i64 at', .slice q m d, .int .i64 ti, .int .i64 pa, .int .i64 tr, .int .i64 li]
  have y2 := World.grownBy_alloc w (.cells #[.int .i64 id, .string nm, .slice a n c, .int .i64 mo, .int .i64 bu, .int .i64 st, .bool fi, .int .i64 at', .slice q m d, .int .i64 ti, .int .i64 pa, .int .i64 tr, .int .i64 li] 44) none
  have i13 := Try.info_gv
  have i10 := Try.info_nt
  unfold gvA ntA
  have hz2 : (w.alloc (.cells #[.int .i64 id, .string nm, .slice a n c, .int .i64 mo, .int .i64 bu, .int .i64 st, .bool fi, .int .i64 at', .slice q m d, .int .i64 ti, .int .i64 pa, .int .i64 tr, .int .i64 li] 44)).heap.size = w.heap.size + 1 := by simp
  generalize hw2 : w.alloc (.cells #[.int .i64 id, .string nm, .slice a n c, .int .i64 mo, .int .i64 bu, .int .i64 st, .bool fi, .int .i64 at', .slice q m d, .int .i64 ti, .int .i64 pa, .int .i64 tr, .int .i64 li] 44) = w2 at b2 y2 hz2
  have b3 := BxS.new w2 27 #[.int .i64 kd, .int .i64 nid, .string nm2, .int .i64 si, .int .i64 su, .int .i64 at2, .slice pa2 pn pc, .slice ga gm gd, .int .i64 o, .int .i64 co]
  rw [hz2] at b3
  have y3 := World.grownBy_alloc w2 (.cells #[.int .i64 kd, .int .i64 nid, .string nm2, .int .i64 si, .int .i64 su, .int .i64 at2, .slice pa2 pn pc, .slice ga gm gd, .int .i64 o, .int .i64 co] 27) none
  have hz3 : (w2.alloc (.cells #[.int .i64 kd, .int .i64 nid, .string nm2, .int .i64 si, .int .i64 su, .int .i64 at2, .slice pa2 pn pc, .slice ga gm gd, .int .i64 o, .int .i64 co] 27)).heap.size = w.heap.size + 2 := by simp [hz2]
  generalize hw3 : w2.alloc (.cells #[.int .i64 kd, .int .i64 nid, .string nm2, .int .i64 si, .int .i64 su, .int .i64 at2, .slice pa2 pn pc, .slice ga gm gd, .int .i64 o, .int .i64 co] 27) = w3 at b3 y3 hz3
  have b4 := BxS.new w3 44 #[.int .i64 0, .string ⟨#[]⟩, .slice none 0 0, .int .i64 0, .int .i64 0, .int .i64 0, .bool false, .int .i64 0, .slice none 0 0, .int .i64 0, .int .i64 0, .int .i64 0, .int .i64 0]
  rw [hz3] at b4
  have y4 := World.grownBy_alloc w3 (.cells #[.int .i64 0, .string ⟨#[]⟩, .slice none 0 0, .int .i64 0, .int .i64 0, .int .i64 0, .bool false, .int .i64 0, .slice none 0 0, .int .i64 0, .int .i64 0, .int .i64 0, .int .i64 0] 44) none
  generalize hw4 : w3.alloc (.cells #[.int .i64 0, .string ⟨#[]⟩, .slice none 0 0, .int .i64 0, .int .i64 0, .int .i64 0, .bool false, .int .i64 0, .slice none 0 0, .int .i64 0, .int .i64 0, .int .i64 0, .int .i64 0] 44) = w4 at b4 y4
  have b24 := (b2.keep y3 (by simp)).keep y4 (by simp)
  have b34 := b3.keep y4 (by simp)
  have G4 := grown_trans (grown_trans y2 y3) y4
  have l4 := b4.lt
  have s0 : True := trivial
  go_enter Try.func33, Try.ntmps33
  go_wp2_with (first
    | (have _t := s0; clear s0; refine wpList_ldX _ rfl _ (.tmp 2) rfl w.heap.size _ rfl b24 Try.underlying44 i13 ?_; have s1 : True := trivial)
    | (go_at_call 59; have _t := s1; clear s1; refine (rgiverMay_any id nm a n c mo bu st fi at' q m d ti pa tr li F L w4 (hL.keep G4) (hG.keep G4)).mono ?_; rintro e w5 ⟨he, y5⟩; rw [hB] at he; subst he; have b25 := b24.keep y5 (by simp); have b35 := b34.keep y5 (by simp); have b45 := b4.keep y5 (by simp); have G5 := grown_trans G4 y5; have s2 : True := trivial)
    | (have _t := s2; clear s2; refine wpList_ldX _ rfl _ (.tmp 2) rfl w.heap.size _ rfl b25 Try.underlying44 i13 ?_; have s3 : True := trivial)
    | (go_at_call 60; have _t := s3; clear s3; refine (giverOf_any id nm a n c mo bu st fi at' q m d ti pa tr li F L w5 (hL.keep G5) (hG.keep G5) hn hm).mono ?_; rintro e w6 ⟨a6, c6, q6, d6, rfl, hA6, hO6, y6⟩; have z5 := G5.size; have z6 := y6.size; have bn7 := BxS.new w6 44 #[.int .i64 0, .string ⟨#[]⟩, .slice none 0 0, .int .i64 0, .int .i64 0, .int .i64 0, .bool false, .int .i64 0, .slice none 0 0, .int .i64 0, .int .i64 0, .int .i64 0, .int .i64 0]; have gn7 := World.grownBy_alloc w6 (.cells #[.int .i64 0, .string ⟨#[]⟩, .slice none 0 0, .int .i64 0, .int .i64 0, .int .i64 0, .bool false, .int .i64 0, .slice none 0 0, .int .i64 0, .int .i64 0, .int .i64 0, .int .i64 0] 44) none; generalize hw7 : w6.alloc (.cells #[.int .i64 0, .string ⟨#[]⟩, .slice none 0 0, .int .i64 0, .int .i64 0, .int .i64 0, .bool false, .int .i64 0, .slice none 0 0, .int .i64 0, .int .i64 0, .int .i64 0, .int .i64 0] 44) = w7 at bn7 gn7; have y7 := grown_trans y6 gn7; have b37 := b35.keep y7 (by simp); have b47 := b45.keep y7 (by simp); have l47 := b45.lt; have s4 : True := trivial)
    | (have _t := s4; clear s4; refine wpList_stX _ rfl _ (.tmp 7) (.tmp 15) rfl w6.heap.size _ _ rfl rfl bn7 i13 rfl (by simp [gvA, Value.oneCell']) ?_; intro w8 b78 u8; have b38 := b37.keep u8 (fun e => BxS.apart b37 bn7 (by decide) (Option.some.inj e)); have b48 := b47.keep u8 (fun e => by have e := Option.some.inj e; omega); have G8 : w.grownBy w8 none := grown_far (grown_trans G5 y7) u8 (fun z e => by have e := Option.some.inj e; omega); have hA8 := (hA6.keep gn7).kRR u8 (fun z e e2 => by have e := Option.some.inj e; subst e; exact own_ty (hA6.keep gn7).own bn7 (by decide) e2); have hO8 := (hO6.keep gn7).bx bn7 (by decide) u8; have s5 : True := trivial)
    | (have _t := s5; clear s5; refine wpList_ldX _ rfl _ (.tmp 3) rfl (w.heap.size + 1) _ rfl b38 Try.underlying27 i10 ?_; have s6 : True := trivial)
    | (go_at_call 47; have _t := s6; clear s6; refine (rnoteMay_any kd nid nm2 si su at2 pa2 pn pc ga gm gd o co F2 w8 (hF2.keep G8) hpn).mono ?_; rintro e w9 ⟨he, y9⟩; rw [hM] at he; subst he; have b79 := b78.keep y9 (by simp); have b39 := b38.keep y9 (by simp); have b49 := b48.keep y9 (by simp); unfold gvA at b79; obtain ⟨e0, e1, e2, e3, e4, e5, e6, e7, e8, e9⟩ := b39.cell10; have v0 : w9.cell? ⟨w6.heap.size, 0, none⟩ = some (.int .i64 id) := b79.cell 0 (by show 0 < 13; decide); have s7 : True := trivial)
    | (have _t := s7; clear s7; refine wpList_ldX _ rfl _ (.tmp 7) rfl w6.heap.size _ rfl b79 Try.underlying44 i13 ?_; have s8 : True := trivial)
    | (have _t := s8; clear s8; refine wpList_stX _ rfl _ (.tmp 4) (.tmp 25) rfl (w.heap.size + 2) _ _ rfl rfl b49 i13 rfl (by simp [Value.oneCell']) ?_; intro wA b4A uA))
  refine bodyPost_ret (results_c1t2 rfl _ _ _ ⟨w.heap.size + 2, 0, none⟩ _ _ _ rfl (BxS.load (t := 44) b4A Try.underlying44 Try.info_gv) rfl rfl) rfl ?_
  have hAA := ((hA8.keep y9).kRR uA (fun z e e2 => by have e := Option.some.inj e; subst e; exact own_ty (hA8.keep y9).own b49 (by decide) e2)).wide z5
  have hOA := ((hO8.keep y9).bx b49 (by decide) uA).wide z5
  have hl1 := hAA.len
  have hl2 := hOA.len
  unfold RpA
  rw [hl1, hl2]
  exact ⟨a6, c6, q6, d6, none, 0, rfl, hAA, hOA, OwN.nil _ _, (fun z e => nbl_nil), (fun z e => nbl_nil), grown_far (grown_trans G8 y9) uA (fun z e => by have e := Option.some.inj e; omega)⟩
end
end Go.Proofs.Ytnimehkfnpepfaa
