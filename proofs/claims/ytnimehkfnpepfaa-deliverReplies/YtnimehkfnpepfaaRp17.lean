import Derived.Test.YtnimehkfnpepfaaRp16
import Derived.Test.YtnimehkfnpepfaaRp8
import Derived.Test.YtnimehkfnpepfaaRp13
import Derived.Test.YtnimehkfnpepfaaRp6
import Derived.Test.YtnimehkfnpepfaaRp3
import Derived.Test.YtnimehkfnpepfaaRp5
namespace Go.Proofs.Ytnimehkfnpepfaa
open Go.RowKit
set_option maxRecDepth 100000
set_option linter.unusedVariables false
set_option linter.unusedSimpArgs false

section
set_option maxHeartbeats 16000000 in
theorem rreply_ok (id : Int) (nm : ByteArray) (a : Option Addr) (n c : Nat) (mo bu st : Int) (fi : Bool) (at' : Int) (q : Option Addr) (m d : Nat) (ti pa tr li : Int) (L : List Nat) (F : Nat → Int × Int) (kd nid : Int) (nm2 : ByteArray) (si su at2 : Int) (pa2 : Option Addr) (pn pc : Nat) (ga : Option Addr) (gm gd : Nat) (o co : Int) (F2 : Nat → Int × Int) (w : World) (hL : Rd w a n c L) (hG : RdG w q m d F) (hF2 : RdG w ga gm gd F2) (hn : n ≤ 140737488351232) (hm : m ≤ 8796093021952) (hpa : -9223372036854775808 ≤ pa ∧ pa ≤ 9223372036854775807) (hpn : pn ≤ 9223372036854700000) (hB : gvB id nm.size n mo bu st fi at' m (alG F n m) ti pa tr li = true) (hM : ntB kd nid nm2.size si su at2 pn gm o co (alG F2 65536 gm) = true) (hid : nid = id) : Calls Try.prog 33 #[.agg (gvA id nm (.slice a n c) mo bu st fi at' (.slice q m d) ti pa tr li), .agg (ntA kd nid nm2 si su at2 (.slice pa2 pn pc) (.slice ga gm gd) o co)] w fun e w' => RV w (rpX (⟨id, nm, mo, bu, st, fi, at', ti, pa, tr, li, L, tabG F m⟩ : Gv) kd o co F2 gm) e w' := by
  have hgp := gvB_parts hB
  have hnp := ntB_kd hM
  have HNP : Hid _ := hnp
  have HGP : Hid _ := hgp
  clear hgp hnp
  have HID9 : Hid _ := hid
  have HPA : Hid _ := hpa
  clear hid hpa
  have b2 := BxS.new w 44 #[.int .i64 id, .string nm, .slice a n c, .int .i64 mo, .int .i64 bu, .int .i64 st, .bool fi, .int .i64 at', .slice q m d, .int .i64 ti, .int .i64 pa, .int .i64 tr, .int .i64 li]
  have y2 := World.grownBy_alloc w (.cells #[.int .i64 id, .string nm, .slice a n c, .int .i64 mo, .int .i64 bu, .int .i64 st, .bool fi, .int .i64 at', .slice q m d, .int .i64 ti, .int .i64 pa, .int .i64 tr, .int .i64 li] 44) none
  have i13 := Try.info_gv
  have i10 := Try.info_nt
  unfold gvA ntA
  have hz2 : (w.alloc (.cells #[.int .i64 id, .string nm, .slice a n c, .int .i64 mo, .int .i64 bu, .int .i64 st, .bool fi, .int .i64 at', .slice q m d, .int .i64 ti, .int .i64 pa, .int .i64 tr, .int .i64 li] 44)).heap.size = w.heap.size + 1 := by simp
  generalize hw2 : w.alloc (.cells #[.int .i64 id, .string nm, .slice a n c, .int .i64 mo, .int .i64 bu, .int .i64 st, .bool fi, .int .i64 at', .slice q m d, .int .i64 ti, .int .i64 pa, .int .i64 tr, .int .i64 li] 44) = w2 at b2 y2 hz2
  have b3 := BxS.new w2 27 #[.int .i64 kd, .int .i64 nid, .string nm2, .int .i64 si, .int .i64 su, .int .i64 at2, .slice pa2 pn pc, .slice ga gm gd, .int .i64 o, .int .i64 co]
  rw [hz2] at b3
  have y3 := World.grownBy_alloc w2 (.cells #[.int .i64 kd, .int .i64 nid, .string nm2, .int .i64 si, .int .i64 su, .int .i64 at2, .slice pa2 pn pc, .slice ga gm gd, .int .i64 o, .int .i64 co] 27) none
  have hz3 : (w2.alloc (.cells #[.int .i64 kd, .int .i64 nid, .string nm2, .int .i64 si, .int .i64 su, .int .i64 at2, .slice pa2 pn pc, .slice ga gm gd, .int .i64 o, .int .i64 co] 27)).heap.size = w.heap.size + 2 := by simp [hz2]
  generalize hw3 : w2.alloc (.cells #[.int .i64 kd, .int .i64 nid, .string nm2, .int .i64 si, .int .i64 su, .int .i64 at2, .slice pa2 pn pc, .slice ga gm gd, .int .i64 o, .int .i64 co] 27) = w3 at b3 y3 hz3
  have b4 := BxS.new w3 44 #[.int .i64 0, .string ⟨#[]⟩, .slice none 0 0, .int .i64 0, .int .i64 0, .int .i64 0, .bool false, .int .i64 0, .slice none 0 0, .int .i64 0, .int .i64 0, .int .i64 0, .int .i64 0]
  rw [hz3] at b4
  have y4 := World.grownBy_alloc w3 (.cells #[.int .i64 0, .string ⟨#[]⟩, .slice none 0 0, .int .i64 0, .int .i64 0, .int .i64 0, .bool false, .int .i64 0, .slice none 0 0, .int .i64 0, .int .i64 0, .int .i64 0, .int .i64 0] 44) none
  generalize hw4 : w3.alloc (.cells #[.int .i64 0, .string ⟨#[]⟩, .slice none 0 0, .int .i64 0, .int .i64 0, .int .i64 0, .bool false, .int .i64 0, .slice none 0 0, .int .i64 0, .int .i64 0, .int .i64 0, .int .i64 0] 44) = w4 at b4 y4
  have b24 := (b2.keep y3 (by simp)).keep y4 (by simp)
  have b34 := b3.keep y4 (by simp)
  have G4 := grown_trans (grown_trans y2 y3) y4
  have l4 := b4.lt
  go_enter Try.func33, Try.ntmps33
  refine wp_seq_k fun K1 hK1 => ?_
  have HK1 : Hid _ := hK1
  clear hK1
  go_wp2
  refine HK1.out _ _ ?_
  clear HK1
  refine wp_seq_k fun K2 hK2 => ?_
  have HK2 : Hid _ := hK2
  clear hK2
  have s0 : True := trivial
  go_wp2_with (first
    | (have _t := s0; clear s0; refine wpList_ldX _ rfl _ (.tmp 2) rfl w.heap.size _ rfl b24 Try.underlying44 i13 ?_; have s1 : True := trivial)
    | (go_at_call 59; have _t := s1; clear s1; refine (rgiverMay_any id nm a n c mo bu st fi at' q m d ti pa tr li F L w4 (hL.keep G4) (hG.keep G4)).mono ?_; rintro e w5 ⟨he, y5⟩; rw [hB] at he; subst he; have b25 := b24.keep y5 (by simp); have b35 := b34.keep y5 (by simp); have b45 := b4.keep y5 (by simp); have G5 := grown_trans G4 y5; have s2 : True := trivial))
  refine HK2.out _ _ ?_
  clear HK2
  refine wp_seq_k fun K3 hK3 => ?_
  have HK3 : Hid _ := hK3
  clear hK3
  go_wp2_with (first
    | (have _t := s2; clear s2; refine wpList_ldX _ rfl _ (.tmp 2) rfl w.heap.size _ rfl b25 Try.underlying44 i13 ?_; have s3 : True := trivial)
    | (go_at_call 60; have _t := s3; clear s3; refine (giverOf_any id nm a n c mo bu st fi at' q m d ti pa tr li F L w5 (hL.keep G5) (hG.keep G5) hn hm).mono ?_; rintro e w6 ⟨a6, c6, q6, d6, rfl, hA6, hO6, y6⟩; have z5 := G5.size; have z6 := y6.size; have bn7 := BxS.new w6 44 #[.int .i64 0, .string ⟨#[]⟩, .slice none 0 0, .int .i64 0, .int .i64 0, .int .i64 0, .bool false, .int .i64 0, .slice none 0 0, .int .i64 0, .int .i64 0, .int .i64 0, .int .i64 0]; have gn7 := World.grownBy_alloc w6 (.cells #[.int .i64 0, .string ⟨#[]⟩, .slice none 0 0, .int .i64 0, .int .i64 0, .int .i64 0, .bool false, .int .i64 0, .slice none 0 0, .int .i64 0, .int .i64 0, .int .i64 0, .int .i64 0] 44) none; generalize hw7 : w6.alloc (.cells #[.int .i64 0, .string ⟨#[]⟩, .slice none 0 0, .int .i64 0, .int .i64 0, .int .i64 0, .bool false, .int .i64 0, .slice none 0 0, .int .i64 0, .int .i64 0, .int .i64 0, .int .i64 0] 44) = w7 at bn7 gn7; have y7 := grown_trans y6 gn7; have b37 := b35.keep y7 (by simp); have b47 := b45.keep y7 (by simp); have l47 := b45.lt; have s4 : True := trivial)
    | (have _t := s4; clear s4; refine wpList_stX _ rfl _ (.tmp 7) (.tmp 15) rfl w6.heap.size _ _ rfl rfl bn7 i13 rfl (by simp [gvA, Value.oneCell']) ?_; intro w8 b78 u8; have b38 := b37.keep u8 (fun e => BxS.apart b37 bn7 (by decide) (Option.some.inj e)); have b48 := b47.keep u8 (fun e => by have e := Option.some.inj e; omega); have G8 : w.grownBy w8 none := grown_far (grown_trans G5 y7) u8 (fun z e => by have e := Option.some.inj e; omega); have hA8 := (hA6.keep gn7).kRR u8 (fun z e e2 => by have e := Option.some.inj e; subst e; exact own_ty (hA6.keep gn7).own bn7 (by decide) e2); have hO8 := (hO6.keep gn7).bx bn7 (by decide) u8; have s5 : True := trivial))
  refine HK3.out _ _ ?_
  clear HK3
  refine wp_seq_k fun K4 hK4 => ?_
  have HK4 : Hid _ := hK4
  clear hK4
  go_wp2_with (first
    | (have _t := s5; clear s5; refine wpList_ldX _ rfl _ (.tmp 3) rfl (w.heap.size + 1) _ rfl b38 Try.underlying27 i10 ?_; have s6 : True := trivial)
    | (go_at_call 47; have _t := s6; clear s6; refine (rnoteMay_any kd nid nm2 si su at2 pa2 pn pc ga gm gd o co F2 w8 (hF2.keep G8) hpn).mono ?_; rintro e w9 ⟨he, y9⟩; rw [hM] at he; subst he; have b79 := b78.keep y9 (by simp); have b39 := b38.keep y9 (by simp); have b49 := b48.keep y9 (by simp); unfold gvA at b79; obtain ⟨e0, e1, e2, e3, e4, e5, e6, e7, e8, e9⟩ := b39.cell10; have v0 : w9.cell? ⟨w6.heap.size, 0, none⟩ = some (.int .i64 id) := b79.cell 0 (by show 0 < 13; decide); have s7 : True := trivial))
  refine HK4.out _ _ ?_
  clear HK4
  refine wp_seq_k fun K5 hK5 => ?_
  have HK5 : Hid _ := hK5
  clear hK5
  have hid9 : nid = id := HID9.out
  go_wp2
  refine HK5.out _ _ ?_
  clear HK5
  have hA9 := (hA8.keep y9).wide z5
  have hO9 := (hO8.keep y9).wide z5
  have G9 := grown_trans G8 y9
  have l49 := b49.lt
  have hD : DG w w9 (w.heap.size + 1) (w.heap.size + 2) w6.heap.size #[.int .i64 kd, .int .i64 nid, .string nm2, .int .i64 si, .int .i64 su, .int .i64 at2, .slice pa2 pn pc, .slice ga gm gd, .int .i64 o, .int .i64 co] id nm mo bu st fi at' ti pa tr li a6 n c6 L q6 m d6 (tabG F m) := ⟨b39, ⟨_, rfl, b49⟩, b79, hA9, hO9, by omega, by omega, by omega, G9⟩
  refine rr_t8 _ w w9 (w.heap.size + 1) (w.heap.size + 2) w6.heap.size kd nid nm2 si su at2 pa2 pn pc ga gm gd o co id nm mo bu st fi at' ti pa tr li a6 n c6 L q6 m d6 (tabG F m) hD F2 hF2 HGP.out.2.1 HNP.out.1 (fun hk => by have := (HNP.out.2.1 hk).2; omega) ?_ (fun e w' h9 => h9)
  by_cases hk : kd = 4
  · exact (HNP.out.2.1 hk).1
  · rw [HNP.out.2.2 hk]; rfl

/-- what the document's Reply answers -/
theorem rreply_any (id : Int) (nm : ByteArray) (a : Option Addr) (n c : Nat) (mo bu st : Int) (fi : Bool) (at' : Int) (q : Option Addr) (m d : Nat) (ti pa tr li : Int) (L : List Nat) (F : Nat → Int × Int) (kd nid : Int) (nm2 : ByteArray) (si su at2 : Int) (pa2 : Option Addr) (pn pc : Nat) (ga : Option Addr) (gm gd : Nat) (o co : Int) (F2 : Nat → Int × Int) (w : World) (hL : Rd w a n c L) (hG : RdG w q m d F) (hF2 : RdG w ga gm gd F2) (hn : n ≤ 140737488351232) (hm : m ≤ 8796093021952) (hpa : -9223372036854775808 ≤ pa ∧ pa ≤ 9223372036854775807) (hpn : pn ≤ 9223372036854700000) : Calls Try.prog 33 #[.agg (gvA id nm (.slice a n c) mo bu st fi at' (.slice q m d) ti pa tr li), .agg (ntA kd nid nm2 si su at2 (.slice pa2 pn pc) (.slice ga gm gd) o co)] w fun e w' => RV w (rpV (gvB id nm.size n mo bu st fi at' m (alG F n m) ti pa tr li) (ntB kd nid nm2.size si su at2 pn gm o co (alG F2 65536 gm)) (⟨id, nm, mo, bu, st, fi, at', ti, pa, tr, li, L, tabG F m⟩ : Gv) kd nid o co F2 gm) e w' := by
  by_cases hB : gvB id nm.size n mo bu st fi at' m (alG F n m) ti pa tr li = true
  · by_cases hM : ntB kd nid nm2.size si su at2 pn gm o co (alG F2 65536 gm) = true
    · by_cases hid : nid = id
      · rw [hB, hM]
        have e : rpV true true (⟨id, nm, mo, bu, st, fi, at', ti, pa, tr, li, L, tabG F m⟩ : Gv) kd nid o co F2 gm = rpX (⟨id, nm, mo, bu, st, fi, at', ti, pa, tr, li, L, tabG F m⟩ : Gv) kd o co F2 gm := by
          unfold rpV; rw [if_neg (by decide), if_neg (by decide), if_neg (fun h9 => h9 hid)]
        rw [e]
        exact rreply_ok id nm a n c mo bu st fi at' q m d ti pa tr li L F kd nid nm2 si su at2 pa2 pn pc ga gm gd o co F2 w hL hG hF2 hn hm hpa hpn hB hM hid
      · rw [hB, hM]
        have e : rpV true true (⟨id, nm, mo, bu, st, fi, at', ti, pa, tr, li, L, tabG F m⟩ : Gv) kd nid o co F2 gm = ((⟨id, nm, mo, bu, st, fi, at', ti, pa, tr, li, L, tabG F m⟩ : Gv), [], 10) := by
          unfold rpV; rw [if_neg (by decide), if_neg (by decide), if_pos hid]
        rw [e]
        exact rreply_name id nm a n c mo bu st fi at' q m d ti pa tr li L F kd nid nm2 si su at2 pa2 pn pc ga gm gd o co F2 w hL hG hF2 hn hm hpa hpn hB hM hid
    · have hM := Bool.eq_false_iff.2 hM
      rw [hB, hM]
      exact rreply_form id nm a n c mo bu st fi at' q m d ti pa tr li L F kd nid nm2 si su at2 pa2 pn pc ga gm gd o co F2 w hL hG hF2 hn hm hpa hpn hB hM
  · have hB := Bool.eq_false_iff.2 hB
    rw [hB]
    exact rreply_no id nm a n c mo bu st fi at' q m d ti pa tr li L F kd nid nm2 si su at2 pa2 pn pc ga gm gd o co F2 w hL hG hF2 hn hm hpa hB
theorem hasK3 (kd : Int) : hasK [4, 5, 6] kd 3 = decide (kd = 4 ∨ kd = 5 ∨ kd = 6) := by
  by_cases h4 : kd = 4
  · subst h4; rfl
  · by_cases h5 : kd = 5
    · subst h5; rfl
    · by_cases h6 : kd = 6
      · subst h6; rfl
      · rw [decide_eq_false (by omega)]
        simp [hasK, h4, h5, h6]
        try omega
/-- what Reply answers -/
theorem reply_any (id : Int) (nm : ByteArray) (a : Option Addr) (n c : Nat) (mo bu st : Int) (fi : Bool) (at' : Int) (q : Option Addr) (m d : Nat) (ti pa tr li : Int) (L : List Nat) (F : Nat → Int × Int) (kd nid : Int) (nm2 : ByteArray) (si su at2 : Int) (pa2 : Option Addr) (pn pc : Nat) (ga : Option Addr) (gm gd : Nat) (o co : Int) (F2 : Nat → Int × Int) (w : World) (hL : Rd w a n c L) (hG : RdG w q m d F) (hF2 : RdG w ga gm gd F2) (hn : n ≤ 140737488351232) (hm : m ≤ 8796093021952) (hpa : -9223372036854775808 ≤ pa ∧ pa ≤ 9223372036854775807) : Calls Try.prog 35 #[.agg (gvA id nm (.slice a n c) mo bu st fi at' (.slice q m d) ti pa tr li), .agg (ntA kd nid nm2 si su at2 (.slice pa2 pn pc) (.slice ga gm gd) o co)] w fun e w' => RV w (rpV (gvB id nm.size n mo bu st fi at' m (alG F n m) ti pa tr li) (ntB kd nid nm2.size si su at2 pn gm o co (alG F2 65536 gm)) (⟨id, nm, mo, bu, st, fi, at', ti, pa, tr, li, L, tabG F m⟩ : Gv) kd nid o co F2 gm) e w' := by
  by_cases hB : gvB id nm.size n mo bu st fi at' m (alG F n m) ti pa tr li = true
  · have hgp := gvB_parts hB
    obtain ⟨may, hmay⟩ : ∃ may, ntB kd nid nm2.size si su at2 pn gm o co (alG F2 65536 gm) = may := ⟨_, rfl⟩
    rw [hB, hmay]
    by_cases hE0 : wnE may nid id (hasK [4, 5, 6] kd 3) = 0
    · have hm1 : may = true := by
        unfold wnE at hE0
        by_cases e : may = false
        · rw [if_pos e] at hE0; omega
        · cases may; exact absurd rfl e; rfl
      subst hm1
      have hid : nid = id := by
        unfold wnE at hE0
        rw [if_neg (by decide)] at hE0
        by_cases e : nid = id
        · exact e
        · rw [if_pos e] at hE0; omega
      have hk : kd = 4 ∨ kd = 5 ∨ kd = 6 := by
        unfold wnE at hE0
        rw [if_neg (by decide), if_neg (fun h9 => h9 hid), hasK3] at hE0
        by_cases e : kd = 4 ∨ kd = 5 ∨ kd = 6
        · exact e
        · rw [decide_eq_false e, if_pos rfl] at hE0; omega
      have hE : wnE (ntB kd nid nm2.size si su at2 pn gm o co (alG F2 65536 gm)) nid id (hasK [4, 5, 6] kd 3) = 0 := by rw [hmay]; exact hE0
      have hn1 : L.length = n := hL.len
      have e : rpV true true (⟨id, nm, mo, bu, st, fi, at', ti, pa, tr, li, L, tabG F m⟩ : Gv) kd nid o co F2 gm = rpX (⟨id, nm, mo, bu, st, fi, at', ti, pa, tr, li, L, tabG F m⟩ : Gv) kd o co F2 gm := by
        unfold rpV; rw [if_neg (by decide), if_neg (by decide), if_neg (fun h9 => h9 hid)]
      rw [e]
      unfold rpX
      rw [if_neg (by omega)]
      show Calls _ _ _ _ fun e w' => RV w (if st = 4 then _ else if kd = 5 then (if st = 3 then _ else _) else if st = 3 then _ else _) e w'
      by_cases h4 : st = 4
      · rw [if_pos h4]
        exact reply_failed id nm a n c mo bu st fi at' q m d ti pa tr li L F kd nid nm2 si su at2 pa2 pn pc ga gm gd o co F2 w hL hG hF2 hn hm hpa hB hE h4
      · rw [if_neg h4]
        by_cases h5 : kd = 5
        · rw [if_pos h5]
          by_cases h3 : st = 3
          · rw [if_pos h3]
            have := reply_done3 id nm a n c mo bu st fi at' q m d ti pa tr li L F kd nid nm2 si su at2 pa2 pn pc ga gm gd o co F2 w hL hG hF2 hn hm hpa hB hE h3 h5
            subst h3
            exact this
          · rw [if_neg h3]
            rw [hn1]
            exact reply_done id nm a n c mo bu st fi at' q m d ti pa tr li L F kd nid nm2 si su at2 pa2 pn pc ga gm gd o co F2 w hL hG hF2 hn hm hpa hB hE h3 h4 h5 _ rfl
        · rw [if_neg h5]
          by_cases h3 : st = 3
          · rw [if_pos h3]
            exact reply_over id nm a n c mo bu st fi at' q m d ti pa tr li L F kd nid nm2 si su at2 pa2 pn pc ga gm gd o co F2 w hL hG hF2 hn hm hpa hB hE h3 h5
          · rw [if_neg h3]
            rw [hn1]
            exact reply_gaps id nm a n c mo bu st fi at' q m d ti pa tr li L F kd nid nm2 si su at2 pa2 pn pc ga gm gd o co F2 w hL hG hF2 hn hm hpa hB hE h3 h4 h5 hgp.2.1 _ rfl
    · have hE : wnE (ntB kd nid nm2.size si su at2 pn gm o co (alG F2 65536 gm)) nid id (hasK [4, 5, 6] kd 3) = wnE may nid id (hasK [4, 5, 6] kd 3) := by rw [hmay]
      have e : rpV true may (⟨id, nm, mo, bu, st, fi, at', ti, pa, tr, li, L, tabG F m⟩ : Gv) kd nid o co F2 gm = ((⟨id, nm, mo, bu, st, fi, at', ti, pa, tr, li, L, tabG F m⟩ : Gv), [], wnE may nid id (hasK [4, 5, 6] kd 3)) := by
        unfold rpV wnE
        rw [if_neg (by decide)]
        by_cases h1 : may = false
        · rw [if_pos h1, if_pos h1]
        · rw [if_neg h1, if_neg h1]
          by_cases h2 : nid = id
          · rw [if_neg (fun h9 => h9 h2), if_neg (fun h9 => h9 h2), hasK3]
            unfold rpX
            by_cases h3 : kd = 4 ∨ kd = 5 ∨ kd = 6
            · exfalso
              apply hE0
              unfold wnE
              rw [if_neg h1, if_neg (fun h9 => h9 h2), hasK3, decide_eq_true h3, if_neg (by decide)]
            · rw [if_pos (by omega), decide_eq_false h3, if_pos rfl]
          · rw [if_pos h2, if_pos h2]
      rw [e]
      exact reply_err id nm a n c mo bu st fi at' q m d ti pa tr li L F kd nid nm2 si su at2 pa2 pn pc ga gm gd o co F2 w hL hG hF2 hn hm hpa hB _ hE hE0
  · have hB := Bool.eq_false_iff.2 hB
    rw [hB]
    exact reply_no id nm a n c mo bu st fi at' q m d ti pa tr li L F kd nid nm2 si su at2 pa2 pn pc ga gm gd o co F2 w hL hG hF2 hn hm hpa hB
end

section
/-- a note's data -/
structure Nt where
  kd : Int
  id : Int
  nm : ByteArray
  si : Int
  su : Int
  at' : Int
  da : List Nat
  ga : List (Int × Int)
  o : Int
  co : Int
def Nx.dt (x : Nx) : Nt := ⟨x.kd, x.id, x.nm, x.si, x.su, x.at', x.da, x.ga, x.o, x.co⟩
theorem OwN.cell {w : World} {lo g n c : Nat} {xs : List Nx} (h : OwN w lo (some ⟨g, 0, none⟩) n c xs) {i : Nat} {x : Nx} (hi : xs[i]? = some x) (j : Nat) (hj : j < 10) : w.cell? ⟨g, i * 10 + j, none⟩ = x.cells[j]? := by
  have hf := flN_at xs i x hi j hj
  have hl : x.cells.length = 10 := rfl
  have hu : x.cells[j]? = some (x.cells[j]'(by omega)) := List.getElem?_eq_getElem (by omega)
  rw [hu] at hf ⊢
  have := h.own.cells (g := g) rfl (i * 10 + j) _ hf
  rw [addr_add, Nat.zero_add] at this
  exact this
theorem OwN.someN {w : World} {lo : Nat} {a : Option Addr} {n c : Nat} {xs : List Nx} (h : OwN w lo a n c xs) (h0 : 0 < n) : ∃ g, a = some ⟨g, 0, none⟩ := by
  rcases h.own.2 with ⟨h1, h2⟩ | ⟨g, cap', cur, h1, _⟩
  · omega
  · simp only [Value.slice.injEq] at h1; exact ⟨g, h1.1⟩
theorem ld_ten {w : World} {o : Oper} {a : Act} {p : Operand} {g off : Nat} {v0 v1 v2 v3 v4 v5 v6 v7 v8 v9 : Value} (hop : o.op = Op.load 27 p) (hp : a.eval p = .pointer (some ⟨g, off, none⟩)) (h0 : w.cell? ⟨g, off, none⟩ = some v0) (h1 : w.cell? ⟨g, off + 1, none⟩ = some v1) (h2 : w.cell? ⟨g, off + 2, none⟩ = some v2) (h3 : w.cell? ⟨g, off + 3, none⟩ = some v3) (h4 : w.cell? ⟨g, off + 4, none⟩ = some v4) (h5 : w.cell? ⟨g, off + 5, none⟩ = some v5) (h6 : w.cell? ⟨g, off + 6, none⟩ = some v6) (h7 : w.cell? ⟨g, off + 7, none⟩ = some v7) (h8 : w.cell? ⟨g, off + 8, none⟩ = some v8) (h9 : w.cell? ⟨g, off + 9, none⟩ = some v9) : (execOp a.eval o).run Try.prog w = .ok (.value (.agg #[v0, v1, v2, v3, v4, v5, v6, v7, v8, v9])) w := by
  have i10 := Try.info_nt
  have u10 := Try.underlying27
  simp [execOp, hop, hp]
  go_simp

set_option maxHeartbeats 16000000 in
theorem sameNotes_any (a b : Option Addr) (n c d la lb : Nat) (xs ys : List Nx) (w : World) (hx : OwN w la a n c xs) (hy : OwN w lb b n d ys) (he : xs.map Nx.dt = ys.map Nx.dt) (hn : n ≤ 100000) :
    Calls Try.prog 64 #[.slice a n c, .slice b n d] w fun e w' => e = .returned (.bool true) ∧ w.grownBy w' none := by
  have HE : Hid _ := he
  have lx := hx.len
  have ly := hy.len
  have LX : Hid _ := lx
  have LY : Hid _ := ly
  clear he lx ly
  go_enter Try.func64, Try.ntmps64
  go_wp2
  go_loopw [5] (fun iv wr => ∃ j : Nat, j ≤ n ∧ iv = .int .i64 j ∧ w.grownBy wr none) (fun iv _ => n - (intOf iv).toNat)
  case atStart => exact ⟨0, Nat.zero_le _, rfl, World.grownBy.refl _ _⟩
  case round =>
    obtain ⟨j, hj, rfl, Gr⟩ := hrel
    by_cases hlt : j < n
    · have lj : (j : Int) < (n : Int) := by omega
      obtain ⟨x, hxj⟩ : ∃ x, xs[j]? = some x := ⟨xs[j]'(by have := LX.out; omega), List.getElem?_eq_getElem _⟩
      obtain ⟨y, hyj⟩ : ∃ y, ys[j]? = some y := ⟨ys[j]'(by have := LY.out; omega), List.getElem?_eq_getElem _⟩
      have hdt : x.dt = y.dt := by
        have h1 : (xs.map Nx.dt)[j]? = some x.dt := by rw [List.getElem?_map, hxj]; rfl
        rw [HE.out, List.getElem?_map, hyj] at h1
        exact (Option.some.inj h1).symm
      unfold Nx.dt at hdt
      simp only [Nt.mk.injEq] at hdt
      obtain ⟨p1, p2, p3, p4, p5, p6, p7, p8, p9, p10⟩ := hdt
      obtain ⟨gx, hgx⟩ := hx.someN (by omega)
      obtain ⟨gy, hgy⟩ := hy.someN (by omega)
      subst hgx hgy
      refine wp_seq_k fun K1 hK1 => ?_
      have HK1 : Hid _ := hK1
      clear hK1
      go_wp2
      refine HK1.out _ _ ?_
      clear HK1
      refine wp_seq_k fun K2 hK2 => ?_
      have HK2 : Hid _ := hK2
      clear hK2
      refine wp_block ?_
      refine wp_seq_k fun K3 hK3 => ?_
      have HK3 : Hid _ := hK3
      clear hK3
      have Gd := grown_drew wr none
      have SS : OwN wr.drew la (some ⟨gx, 0, none⟩) n c xs ∧ OwN wr.drew lb (some ⟨gy, 0, none⟩) n d ys := ⟨(hx.keep Gr).keep Gd, (hy.keep Gr).keep Gd⟩
      have HSN : Calls Try.prog 15 #[.agg #[.int .i64 x.kd, .int .i64 x.id, .string x.nm, .int .i64 x.si, .int .i64 x.su, .int .i64 x.at', .slice x.a x.da.length x.c, .slice x.q x.ga.length x.d, .int .i64 x.o, .int .i64 x.co], .agg #[.int .i64 y.kd, .int .i64 y.id, .string y.nm, .int .i64 y.si, .int .i64 y.su, .int .i64 y.at', .slice y.a y.da.length y.c, .slice y.q y.ga.length y.d, .int .i64 y.o, .int .i64 y.co]] wr.drew fun e w' => e = .returned (.bool true) ∧ wr.drew.grownBy w' none := by
        have hxa := (SS.1.eA x (List.mem_of_getElem? hxj)).rd
        have hxo := (SS.1.eO x (List.mem_of_getElem? hxj)).rd
        rw [p1, p2, p3, p4, p5, p6, p7, p8, p9, p10] at *
        exact sameNote_any y.kd y.id y.nm y.si y.su y.at' y.o y.co x.a y.a x.q y.q y.da.length x.c y.c y.ga.length x.d y.d y.da (giF y.ga) (giF y.ga) wr.drew hxa (SS.2.eA y (List.mem_of_getElem? hyj)).rd hxo (SS.2.eO y (List.mem_of_getElem? hyj)).rd (fun i h => rfl)
      clear p1 p2 p3 p4 p5 p6 p7 p8 p9 p10
      refine wp_regionL (fun wz => OwN wz la (some ⟨gx, 0, none⟩) n c xs ∧ OwN wz lb (some ⟨gy, 0, none⟩) n d ys) [] #[false, false, false, false, false, false, false, false, false, false] rfl (by kernel_rfl) ?_
      refine wpAnyZ_take [] 0 (.slice (some ⟨gx, 0, none⟩) n c) rfl (by kernel_rfl) (fun _ _ _ h => h) SS rfl (by intro wz hz; go_simp) ?_
      try simp only [List.getElem_toArray, List.getElem_cons_succ, List.getElem_cons_zero, Act.put, List.setIfInBounds_toArray, List.set_cons_zero, List.set_cons_succ]
      refine wpAnyZ_take [] 1 (.int .i64 (j : Int)) rfl (by kernel_rfl) (fun _ _ _ h => h) SS rfl (by intro wz hz; go_simp) ?_
      try simp only [List.getElem_toArray, List.getElem_cons_succ, List.getElem_cons_zero, Act.put, List.setIfInBounds_toArray, List.set_cons_zero, List.set_cons_succ]
      refine wpAnyZ_take [] 2 (.pointer (some ⟨gx, j * 10, none⟩)) rfl (by kernel_rfl) (fun _ _ _ h => h) SS rfl (by intro wz hz; go_simp) ?_
      try simp only [List.getElem_toArray, List.getElem_cons_succ, List.getElem_cons_zero, Act.put, List.setIfInBounds_toArray, List.set_cons_zero, List.set_cons_succ]
      refine wpAnyZ_take [] 3 (.agg #[.int .i64 x.kd, .int .i64 x.id, .string x.nm, .int .i64 x.si, .int .i64 x.su, .int .i64 x.at', .slice x.a x.da.length x.c, .slice x.q x.ga.length x.d, .int .i64 x.o, .int .i64 x.co]) rfl (by kernel_rfl) (fun _ _ _ h => h) SS rfl (by rintro wz ⟨ha, hb⟩; exact ld_ten rfl rfl (ha.cell hxj 0 (by decide)) (ha.cell hxj 1 (by decide)) (ha.cell hxj 2 (by decide)) (ha.cell hxj 3 (by decide)) (ha.cell hxj 4 (by decide)) (ha.cell hxj 5 (by decide)) (ha.cell hxj 6 (by decide)) (ha.cell hxj 7 (by decide)) (ha.cell hxj 8 (by decide)) (ha.cell hxj 9 (by decide))) ?_
      try simp only [List.getElem_toArray, List.getElem_cons_succ, List.getElem_cons_zero, Act.put, List.setIfInBounds_toArray, List.set_cons_zero, List.set_cons_succ]
      refine wpAnyZ_take [] 4 (.slice (some ⟨gy, 0, none⟩) n d) rfl (by kernel_rfl) (fun _ _ _ h => h) SS rfl (by intro wz hz; go_simp) ?_
      try simp only [List.getElem_toArray, List.getElem_cons_succ, List.getElem_cons_zero, Act.put, List.setIfInBounds_toArray, List.set_cons_zero, List.set_cons_succ]
      refine wpAnyZ_take [] 5 (.int .i64 (j : Int)) rfl (by kernel_rfl) (fun _ _ _ h => h) SS rfl (by intro wz hz; go_simp) ?_
      try simp only [List.getElem_toArray, List.getElem_cons_succ, List.getElem_cons_zero, Act.put, List.setIfInBounds_toArray, List.set_cons_zero, List.set_cons_succ]
      refine wpAnyZ_take [] 6 (.pointer (some ⟨gy, j * 10, none⟩)) rfl (by kernel_rfl) (fun _ _ _ h => h) SS rfl (by intro wz hz; go_simp) ?_
      try simp only [List.getElem_toArray, List.getElem_cons_succ, List.getElem_cons_zero, Act.put, List.setIfInBounds_toArray, List.set_cons_zero, List.set_cons_succ]
      refine wpAnyZ_take [] 7 (.agg #[.int .i64 y.kd, .int .i64 y.id, .string y.nm, .int .i64 y.si, .int .i64 y.su, .int .i64 y.at', .slice y.a y.da.length y.c, .slice y.q y.ga.length y.d, .int .i64 y.o, .int .i64 y.co]) rfl (by kernel_rfl) (fun _ _ _ h => h) SS rfl (by rintro wz ⟨ha, hb⟩; exact ld_ten rfl rfl (hb.cell hyj 0 (by decide)) (hb.cell hyj 1 (by decide)) (hb.cell hyj 2 (by decide)) (hb.cell hyj 3 (by decide)) (hb.cell hyj 4 (by decide)) (hb.cell hyj 5 (by decide)) (hb.cell hyj 6 (by decide)) (hb.cell hyj 7 (by decide)) (hb.cell hyj 8 (by decide)) (hb.cell hyj 9 (by decide))) ?_
      try simp only [List.getElem_toArray, List.getElem_cons_succ, List.getElem_cons_zero, Act.put, List.setIfInBounds_toArray, List.set_cons_zero, List.set_cons_succ]
      generalize wr.drew = w2 at *
      refine wpAnyZ_oneB 8 rfl (by kernel_rfl) (fun KK hKK => ?_)
      go_simp
      go_at_call 15
      refine HSN.mono ?_
      rintro e w3 ⟨rfl, y3⟩
      dsimp only
      have S3 := And.intro (SS.1.keep y3) (SS.2.keep y3)
      refine hKK _ _ (fun _ => S3) ?_
      try simp only [List.getElem_toArray, List.getElem_cons_succ, List.getElem_cons_zero, Act.put, List.setIfInBounds_toArray, List.set_cons_zero, List.set_cons_succ]
      refine wpAnyZ_take [] 9 (.bool false) rfl (by kernel_rfl) (fun _ _ _ h => h) S3 rfl (by intro wz hz; go_simp) ?_
      try simp only [List.getElem_toArray, List.getElem_cons_succ, List.getElem_cons_zero, Act.put, List.setIfInBounds_toArray, List.set_cons_zero, List.set_cons_succ]
      refine wpAnyZ_doneB (by kernel_rfl) ?_ _
      refine HK3.out _ _ ?_
      clear HK3
      go_wp2
      refine HK2.out _ _ ?_
      clear HK2
      go_wp2
      go_roundw
      case rel => exact ⟨j + 1, by omega, by go_num, grown_trans (grown_trans Gr Gd) y3⟩
      case measure => simp [intOf] <;> omega
    · obtain rfl : j = n := by omega
      have lj : ¬ (j : Int) < (j : Int) := by omega
      go_wp2
      go_ret
      exact ⟨rfl, Gr⟩
end

section
theorem four_cells (w : World) : ∀ j u, ([.int .i64 (-7), .int .i64 (-7), .int .i64 (-7), .int .i64 (-7)] : List Value)[j]? = some u → (w.alloc (.cells #[.int .i64 (-7), .int .i64 (-7), .int .i64 (-7), .int .i64 (-7)] 82)).cell? ((⟨w.heap.size, 0, none⟩ : Addr).add j) = some u := by
  have hb := BxS.new w 82 #[.int .i64 (-7), .int .i64 (-7), .int .i64 (-7), .int .i64 (-7)]
  intro j u hu
  rw [addr_add]
  match j with
  | 0 => exact (hb.cell 0 (by show 0 < 4; decide)).trans hu
  | 1 => exact (hb.cell 1 (by show 1 < 4; decide)).trans hu
  | 2 => exact (hb.cell 2 (by show 2 < 4; decide)).trans hu
  | 3 => exact (hb.cell 3 (by show 3 < 4; decide)).trans hu
  | j + 4 => simp at hu
theorem own_bx {w : World} {g m d : Nat} {A : Array Value} (h : BxS w g 82 A) (hs : A.size = d * 2) (hm : m ≤ d) (hd : d ≤ maxLen) : w.ownsRow 0 82 2 (.slice (some ⟨g, 0, none⟩) m d) m (A.toList.take (m * 2)) :=
  ⟨by rw [List.length_take, Array.length_toList]; omega, .inr ⟨g, d, A, rfl, Nat.zero_le _, h, hm, hd, hs, rfl⟩⟩
end

section
set_option maxHeartbeats 8000000 in
theorem overGi_any (w : World) (lo : Nat) (q : Option Addr) (m d : Nat) (G : List (Int × Int)) (h : OwGi w lo q m d G) (hm : m ≤ 8796093021952) :
    Calls Try.prog 23 #[.slice q m d] w fun e w' => e = .returned (.tuple #[]) ∧ w.grownBy w' (Value.slice q m d).ownBlock := by
  obtain ⟨i0, hi, hz0, hz1, hz2⟩ := info_parts Try.info_pr
  rcases h.own.2 with ⟨h1, h0⟩ | ⟨g, cap, cur, h1, _, hh, hle, hmax, hsz, _⟩
  · subst h0
    cases h1
    go_enter Try.func23, Try.ntmps23
    go_wp2
    go_loopw [2] (fun iv wr => iv = .int .i64 0 ∧ Hid (wr = w)) (fun _ _ => 0)
    case atStart => exact ⟨rfl, rfl⟩
    case round =>
      obtain ⟨rfl, hwr⟩ := hrel
      have hwr := hwr.out
      subst hwr
      have s0 : True := trivial
      go_wp2_with (at_builtin; have _t := s0; clear s0; refine wpList_apS (wr.alloc (.cells #[.int .i64 (-7), .int .i64 (-7), .int .i64 (-7), .int .i64 (-7)] 82)) rfl _ _ 24 82 i0 (.agg #[.int .i64 0, .int .i64 0]) 2 16 Try.underlying24 hi hz0 hz1 hz2 rfl (by decide) rfl (.slice none 0 0) 0 _ rfl (World.ownsRow_nil _ _ _ _) ⟨wr.heap.size, 0, none⟩ 2 2 [.int .i64 (-7), .int .i64 (-7), .int .i64 (-7), .int .i64 (-7)] rfl rfl (four_cells wr) (by intro u hu; simp only [List.mem_cons, List.not_mem_nil, or_false] at hu; rcases hu with rfl | rfl | rfl | rfl <;> rfl) (by decide) (by unfold maxLen; omega) (by omega) ?_; intro gx cx w5 hor u5 hO5)
      first | go_end0 | refine bodyPost_ret (results_none rfl _ _ _) rfl ?_
      exact ⟨rfl, grown_trans (World.grownBy_alloc wr _ none) u5⟩
  · cases h1
    go_enter Try.func23, Try.ntmps23
    go_wp2
    go_loopw [2] (fun iv wr => ∃ (i : Nat) (A : Array Value), i ≤ m ∧ iv = .int .i64 i ∧ BxS wr g 82 A ∧ A.size = d * 2 ∧ w.grownBy wr (some g)) (fun iv _ => m - (intOf iv).toNat)
    case atStart => exact ⟨0, cur, Nat.zero_le _, rfl, hh, hsz, World.grownBy.refl _ _⟩
    case round =>
      obtain ⟨i, A, hi9, rfl, hA, hAs, Gr⟩ := hrel
      by_cases hlt : i < m
      · have li : (i : Int) < (m : Int) := by omega
        have c0 : wr.cell? ⟨g, i * 2, none⟩ = some (A[i * 2]'(by omega)) := hA.cell (i * 2) (by omega)
        have f0 := hA.free (i * 2)
        have hA1 := hA.set (i * 2) (.int .i64 (-7))
        have g1 := grown_set wr g (i * 2) (.int .i64 (-7))
        generalize hw1 : wr.setCell ⟨g, i * 2, none⟩ (.int .i64 (-7)) = w1 at hA1 g1
        have c1 : w1.cell? ⟨g, i * 2 + 1, none⟩ = some ((A.set! (i * 2) (.int .i64 (-7)))[i * 2 + 1]'(by simp; omega)) := hA1.cell (i * 2 + 1) (by simp; omega)
        have f1 := hA1.free (i * 2 + 1)
        have hA2 := hA1.set (i * 2 + 1) (.int .i64 (-7))
        have g2 := grown_set w1 g (i * 2 + 1) (.int .i64 (-7))
        generalize hw2 : w1.setCell ⟨g, i * 2 + 1, none⟩ (.int .i64 (-7)) = w2 at hA2 g2
        go_wp2
        go_roundw
        case rel => exact ⟨i + 1, _, by omega, by go_num, hA2, by simp; exact hAs, grown_trans (grown_trans Gr g1) g2⟩
        case measure => simp [intOf] <;> omega
      · obtain rfl : i = m := by omega
        have li : ¬ (i : Int) < (i : Int) := by omega
        have s0 : True := trivial
        go_wp2_with (at_builtin; have _t := s0; clear s0; refine wpList_apS (wr.alloc (.cells #[.int .i64 (-7), .int .i64 (-7), .int .i64 (-7), .int .i64 (-7)] 82)) rfl _ _ 24 82 i0 (.agg #[.int .i64 0, .int .i64 0]) 2 16 Try.underlying24 hi hz0 hz1 hz2 rfl (by decide) rfl (.slice (some ⟨g, 0, none⟩) i d) i _ rfl ((own_bx hA hAs hle hmax).kept (World.grownBy_alloc wr _ none) (.inr (by simp [Value.ownBlock]))) ⟨wr.heap.size, 0, none⟩ 2 2 [.int .i64 (-7), .int .i64 (-7), .int .i64 (-7), .int .i64 (-7)] rfl rfl (four_cells wr) (by intro u hu; simp only [List.mem_cons, List.not_mem_nil, or_false] at hu; rcases hu with rfl | rfl | rfl | rfl <;> rfl) (by decide) (by unfold maxLen; omega) (by omega) ?_; intro gx cx w5 hor u5 hO5)
        first | go_end0 | refine bodyPost_ret (results_none rfl _ _ _) rfl ?_
        exact ⟨rfl, grown_trans (grown_trans Gr (grown_weak (World.grownBy_alloc wr _ none) _)) u5⟩
end
end Go.Proofs.Ytnimehkfnpepfaa
