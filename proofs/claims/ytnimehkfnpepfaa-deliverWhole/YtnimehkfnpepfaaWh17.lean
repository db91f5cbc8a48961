import Derived.Test.YtnimehkfnpepfaaWh14
import Derived.Test.YtnimehkfnpepfaaWh16
import Derived.Test.YtnimehkfnpepfaaWh15
import Derived.Stop.Asserts
import Derived.Lib.IfaceEq
import Derived.Test.YtnimehkfnpepfaaWh13
namespace Go.Proofs.Ytnimehkfnpepfaa
open Go.RowKit
set_option maxRecDepth 100000
set_option linter.unusedVariables false
set_option linter.unusedSimpArgs false

section
set_option maxHeartbeats 16000000 in
theorem nt_k3 {u1 u4 u5 u6 u7 u8 u9 u10 u11 u12 u13 u14 u15 u16 u17 u18 u19 u20 u21 u22 u23 u24 u25 u26 u27 u28 u29 u30 u31 u32 u33 u34 u35 u36 u37 u38 u39 u40 u41 u42 u43 u44 u45 u46 u47 u48 u49 u50 u51 u52 u53 u54 u55 u56 u57 u58 u59 u60 u61 u62 u63 u64 u65 u66 : Value} (w0 w wS : World) (gr g2 g3 id : Nat) (c : List Nat) (hR : Rdr w0 w gr c) (b3 : BxS w g3 27 (ntA (3 : Nat) (id : Int) ByteArray.empty 0 0 0 (.slice none 0 0) (.slice none 0 0) 0 0)) (b2 : BxS w g2 27 ntZ) (h23 : g2 ≠ g3) (h2 : wS.heap.size ≤ g2) (h3 : wS.heap.size ≤ g3) (h02 : w0.heap.size ≤ wS.heap.size) (G : wS.grownBy w (some gr)) (hcl : c.length ≤ 2000) (hl : ¬ c.length < 8) :
    Code.wp Try.prog (tailR 2 (Try.f89.body.getD .skip)) (bodyPost Try.prog Try.f89 (NoteA w0 wS gr (kindR 3 id c))) (Act.mk (List.toArray ((.pointer (some ⟨gr, 0, none⟩)) :: u1 :: (.pointer (some ⟨g2, 0, none⟩)) :: (.pointer (some ⟨g3, 0, none⟩)) :: u4 :: u5 :: u6 :: u7 :: u8 :: u9 :: u10 :: u11 :: u12 :: u13 :: u14 :: u15 :: u16 :: u17 :: u18 :: u19 :: u20 :: u21 :: u22 :: u23 :: u24 :: u25 :: u26 :: u27 :: u28 :: u29 :: u30 :: u31 :: u32 :: u33 :: u34 :: u35 :: u36 :: u37 :: u38 :: u39 :: u40 :: u41 :: u42 :: u43 :: u44 :: u45 :: u46 :: u47 :: u48 :: u49 :: u50 :: u51 :: u52 :: u53 :: u54 :: u55 :: u56 :: u57 :: u58 :: u59 :: u60 :: u61 :: u62 :: u63 :: u64 :: u65 :: u66 :: [])) []) w := by
  conv => enter [2]; whnf
  unfold ntA at b3
  have x0 : w.cell? ⟨g3, 0, none⟩ = some (.int .i64 ((3 : Nat) : Int)) := b3.cell 0 (by show 0 < 10; decide)
  refine wp_seq_k fun K1 hK1 => ?_
  have HK1 : Hid _ := hK1
  clear hK1
  have s0 : True := trivial
  go_wp2_with (first
    | (go_at_call 110; have _t := s0; clear s0; refine (number_ok w0 w gr 4 (c) hR (by omega) (by first | omega | (rw [List.length_drop]; omega))).mono ?_; rintro e w1 ⟨rfl, hR1, yw1⟩; have b31 := b3.keep yw1 (hR.ne b3); have b21 := b2.keep yw1 (hR.ne b2); have G1 := grown_trans G yw1; have xw2 : w1.cell? ⟨g3, 3, none⟩ = some _ := b31.cell 3 (by show 3 < 10; decide); have fw2 := b31.free 3; have b32 := b31.set 3 (.int .i64 ((hdV c 4 : Nat) : Int)); have uw2 := grown_set w1 g3 3 (.int .i64 ((hdV c 4 : Nat) : Int)); generalize hww2 : w1.setCell ⟨g3, 3, none⟩ (.int .i64 ((hdV c 4 : Nat) : Int)) = w2 at b32 uw2; have hR2 := hR1.bx b31 uw2 (by omega); have b22 := b21.keep uw2 (fun e => h23 (Option.some.inj e)); have G2 := grown_mine G1 uw2 (fun q e => .inr (by have e := Option.some.inj e; omega)); have s1 : True := trivial)
    | (go_at_call 110; have _t := s1; clear s1; refine (number_ok w0 w2 gr 4 (c.drop 4) hR2 (by omega) (by first | omega | (rw [List.length_drop]; omega))).mono ?_; rintro e w3 ⟨rfl, hR3, yw3⟩; have b33 := b32.keep yw3 (hR2.ne b32); have b23 := b22.keep yw3 (hR2.ne b22); have G3 := grown_trans G2 yw3; have xw4 : w3.cell? ⟨g3, 4, none⟩ = some _ := b33.cell 4 (by show 4 < 10; decide); have fw4 := b33.free 4; have b34 := b33.set 4 (.int .i64 ((hdV (c.drop 4) 4 : Nat) : Int)); have uw4 := grown_set w3 g3 4 (.int .i64 ((hdV (c.drop 4) 4 : Nat) : Int)); generalize hww4 : w3.setCell ⟨g3, 4, none⟩ (.int .i64 ((hdV (c.drop 4) 4 : Nat) : Int)) = w4 at b34 uw4; have hR4 := hR3.bx b33 uw4 (by omega); have b24 := b23.keep uw4 (fun e => h23 (Option.some.inj e)); have G4 := grown_mine G3 uw4 (fun q e => .inr (by have e := Option.some.inj e; omega))))
  refine HK1.out _ _ ?_
  clear HK1
  rw [List.drop_drop] at hR4
  refine nt_t20 _ w4 g2 g3 3 id ByteArray.empty (hdV c 4 : Nat) (hdV (c.drop 4) 4 : Nat) 0 none 0 0 none 0 0 0 0 b34 b24 ?_
  intro w' u
  show NoteA _ _ _ _ _ _
  rw [show kindR 3 id c = some (⟨3, id, [], hdV c 4, hdV (c.drop 4) 4, 0, [], [], 0, 0⟩, c.drop 8) from by unfold kindR; simp [hl]]
  exact ⟨⟨_, rfl, _, _, _, _, _, _, rfl, Ans.nil _ _, OwGp.nil _ _⟩, hR4.bx b24 u (by omega), grown_mine G4 u (fun q e => .inr (by have e := Option.some.inj e; omega))⟩

set_option maxHeartbeats 16000000 in
theorem nt_n3 {u1 u4 u5 u6 u7 u8 u9 u10 u11 u12 u13 u14 u15 u16 u17 u18 u19 u20 u21 u22 u23 u24 u25 u26 u27 u28 u29 u30 u31 u32 u33 u34 u35 u36 u37 u38 u39 u40 u41 u42 u43 u44 u45 u46 u47 u48 u49 u50 u51 u52 u53 u54 u55 u56 u57 u58 u59 u60 u61 u62 u63 u64 u65 u66 : Value} (w0 w wS : World) (gr g2 g3 id : Nat) (c : List Nat) (hR : Rdr w0 w gr c) (b3 : BxS w g3 27 (ntA (3 : Nat) (id : Int) ByteArray.empty 0 0 0 (.slice none 0 0) (.slice none 0 0) 0 0)) (b2 : BxS w g2 27 ntZ) (h23 : g2 ≠ g3) (h2 : wS.heap.size ≤ g2) (h3 : wS.heap.size ≤ g3) (h02 : w0.heap.size ≤ wS.heap.size) (G : wS.grownBy w (some gr)) (hcl : c.length ≤ 2000) (hl : c.length < 8) :
    Code.wp Try.prog (tailR 2 (Try.f89.body.getD .skip)) (bodyPost Try.prog Try.f89 (NoteA w0 wS gr (kindR 3 id c))) (Act.mk (List.toArray ((.pointer (some ⟨gr, 0, none⟩)) :: u1 :: (.pointer (some ⟨g2, 0, none⟩)) :: (.pointer (some ⟨g3, 0, none⟩)) :: u4 :: u5 :: u6 :: u7 :: u8 :: u9 :: u10 :: u11 :: u12 :: u13 :: u14 :: u15 :: u16 :: u17 :: u18 :: u19 :: u20 :: u21 :: u22 :: u23 :: u24 :: u25 :: u26 :: u27 :: u28 :: u29 :: u30 :: u31 :: u32 :: u33 :: u34 :: u35 :: u36 :: u37 :: u38 :: u39 :: u40 :: u41 :: u42 :: u43 :: u44 :: u45 :: u46 :: u47 :: u48 :: u49 :: u50 :: u51 :: u52 :: u53 :: u54 :: u55 :: u56 :: u57 :: u58 :: u59 :: u60 :: u61 :: u62 :: u63 :: u64 :: u65 :: u66 :: [])) []) w := by
  conv => enter [2]; whnf
  unfold ntA at b3
  have x0 : w.cell? ⟨g3, 0, none⟩ = some (.int .i64 ((3 : Nat) : Int)) := b3.cell 0 (by show 0 < 10; decide)
  by_cases h4 : c.length < 4
  · have s0 : True := trivial
    go_wp2_with (go_at_call 110; have _t := s0; clear s0; refine (number_no w0 w gr 4 (c) hR (by omega) (by first | omega | (rw [List.length_drop]; omega))).mono ?_; rintro e w1 ⟨rfl, hww1⟩; have hww1 := hww1.symm; subst hww1)
    refine ⟨rfl, ?_⟩
    show NoteA _ _ _ _ _ _
    rw [show kindR 3 id c = none from by unfold kindR; simp [hl]]
    exact ⟨⟨_, rfl⟩, G⟩
  · have s0 : True := trivial
    go_wp2_with (first
      | (go_at_call 110; have _t := s0; clear s0; refine (number_ok w0 w gr 4 (c) hR (by omega) (by first | omega | (rw [List.length_drop]; omega))).mono ?_; rintro e w1 ⟨rfl, hR1, yw1⟩; have b31 := b3.keep yw1 (hR.ne b3); have b21 := b2.keep yw1 (hR.ne b2); have G1 := grown_trans G yw1; have xw2 : w1.cell? ⟨g3, 3, none⟩ = some _ := b31.cell 3 (by show 3 < 10; decide); have fw2 := b31.free 3; have b32 := b31.set 3 (.int .i64 ((hdV c 4 : Nat) : Int)); have uw2 := grown_set w1 g3 3 (.int .i64 ((hdV c 4 : Nat) : Int)); generalize hww2 : w1.setCell ⟨g3, 3, none⟩ (.int .i64 ((hdV c 4 : Nat) : Int)) = w2 at b32 uw2; have hR2 := hR1.bx b31 uw2 (by omega); have b22 := b21.keep uw2 (fun e => h23 (Option.some.inj e)); have G2 := grown_mine G1 uw2 (fun q e => .inr (by have e := Option.some.inj e; omega)); have s1 : True := trivial)
      | (go_at_call 110; have _t := s1; clear s1; refine (number_no w0 w2 gr 4 (c.drop 4) hR2 (by omega) (by first | omega | (rw [List.length_drop]; omega))).mono ?_; rintro e w3 ⟨rfl, hww3⟩; have hww3 := hww3.symm; subst hww3))
    refine ⟨rfl, ?_⟩
    show NoteA _ _ _ _ _ _
    rw [show kindR 3 id c = none from by unfold kindR; simp [hl]]
    exact ⟨⟨_, rfl⟩, G2⟩

set_option maxHeartbeats 16000000 in
theorem nt_k5 {u1 u4 u5 u6 u7 u8 u9 u10 u11 u12 u13 u14 u15 u16 u17 u18 u19 u20 u21 u22 u23 u24 u25 u26 u27 u28 u29 u30 u31 u32 u33 u34 u35 u36 u37 u38 u39 u40 u41 u42 u43 u44 u45 u46 u47 u48 u49 u50 u51 u52 u53 u54 u55 u56 u57 u58 u59 u60 u61 u62 u63 u64 u65 u66 : Value} (w0 w wS : World) (gr g2 g3 id : Nat) (c : List Nat) (hR : Rdr w0 w gr c) (b3 : BxS w g3 27 (ntA (5 : Nat) (id : Int) ByteArray.empty 0 0 0 (.slice none 0 0) (.slice none 0 0) 0 0)) (b2 : BxS w g2 27 ntZ) (h23 : g2 ≠ g3) (h2 : wS.heap.size ≤ g2) (h3 : wS.heap.size ≤ g3) (h02 : w0.heap.size ≤ wS.heap.size) (G : wS.grownBy w (some gr)) (hcl : c.length ≤ 2000) (hl : ¬ c.length < 1) :
    Code.wp Try.prog (tailR 2 (Try.f89.body.getD .skip)) (bodyPost Try.prog Try.f89 (NoteA w0 wS gr (kindR 5 id c))) (Act.mk (List.toArray ((.pointer (some ⟨gr, 0, none⟩)) :: u1 :: (.pointer (some ⟨g2, 0, none⟩)) :: (.pointer (some ⟨g3, 0, none⟩)) :: u4 :: u5 :: u6 :: u7 :: u8 :: u9 :: u10 :: u11 :: u12 :: u13 :: u14 :: u15 :: u16 :: u17 :: u18 :: u19 :: u20 :: u21 :: u22 :: u23 :: u24 :: u25 :: u26 :: u27 :: u28 :: u29 :: u30 :: u31 :: u32 :: u33 :: u34 :: u35 :: u36 :: u37 :: u38 :: u39 :: u40 :: u41 :: u42 :: u43 :: u44 :: u45 :: u46 :: u47 :: u48 :: u49 :: u50 :: u51 :: u52 :: u53 :: u54 :: u55 :: u56 :: u57 :: u58 :: u59 :: u60 :: u61 :: u62 :: u63 :: u64 :: u65 :: u66 :: [])) []) w := by
  conv => enter [2]; whnf
  unfold ntA at b3
  have x0 : w.cell? ⟨g3, 0, none⟩ = some (.int .i64 ((5 : Nat) : Int)) := b3.cell 0 (by show 0 < 10; decide)
  refine wp_seq_k fun K1 hK1 => ?_
  have HK1 : Hid _ := hK1
  clear hK1
  have s0 : True := trivial
  go_wp2_with (go_at_call 110; have _t := s0; clear s0; refine (number_ok w0 w gr 1 (c) hR (by omega) (by first | omega | (rw [List.length_drop]; omega))).mono ?_; rintro e w1 ⟨rfl, hR1, yw1⟩; have b31 := b3.keep yw1 (hR.ne b3); have b21 := b2.keep yw1 (hR.ne b2); have G1 := grown_trans G yw1; have xw2 : w1.cell? ⟨g3, 9, none⟩ = some _ := b31.cell 9 (by show 9 < 10; decide); have fw2 := b31.free 9; have b32 := b31.set 9 (.int .i64 ((hdV c 1 : Nat) : Int)); have uw2 := grown_set w1 g3 9 (.int .i64 ((hdV c 1 : Nat) : Int)); generalize hww2 : w1.setCell ⟨g3, 9, none⟩ (.int .i64 ((hdV c 1 : Nat) : Int)) = w2 at b32 uw2; have hR2 := hR1.bx b31 uw2 (by omega); have b22 := b21.keep uw2 (fun e => h23 (Option.some.inj e)); have G2 := grown_mine G1 uw2 (fun q e => .inr (by have e := Option.some.inj e; omega)))
  refine HK1.out _ _ ?_
  clear HK1
  refine nt_t20 _ w2 g2 g3 5 id ByteArray.empty 0 0 0 none 0 0 none 0 0 0 (hdV c 1 : Nat) b32 b22 ?_
  intro w' u
  show NoteA _ _ _ _ _ _
  rw [show kindR 5 id c = some (⟨5, id, [], 0, 0, 0, [], [], 0, hdV c 1⟩, c.drop 1) from by unfold kindR; rw [if_neg (by decide), if_neg (by decide), if_neg (by decide), if_neg (by decide), if_pos rfl, if_neg hl]]
  exact ⟨⟨_, rfl, _, _, _, _, _, _, rfl, Ans.nil _ _, OwGp.nil _ _⟩, hR2.bx b22 u (by omega), grown_mine G2 u (fun q e => .inr (by have e := Option.some.inj e; omega))⟩

set_option maxHeartbeats 16000000 in
theorem nt_n5 {u1 u4 u5 u6 u7 u8 u9 u10 u11 u12 u13 u14 u15 u16 u17 u18 u19 u20 u21 u22 u23 u24 u25 u26 u27 u28 u29 u30 u31 u32 u33 u34 u35 u36 u37 u38 u39 u40 u41 u42 u43 u44 u45 u46 u47 u48 u49 u50 u51 u52 u53 u54 u55 u56 u57 u58 u59 u60 u61 u62 u63 u64 u65 u66 : Value} (w0 w wS : World) (gr g2 g3 id : Nat) (c : List Nat) (hR : Rdr w0 w gr c) (b3 : BxS w g3 27 (ntA (5 : Nat) (id : Int) ByteArray.empty 0 0 0 (.slice none 0 0) (.slice none 0 0) 0 0)) (b2 : BxS w g2 27 ntZ) (h23 : g2 ≠ g3) (h2 : wS.heap.size ≤ g2) (h3 : wS.heap.size ≤ g3) (h02 : w0.heap.size ≤ wS.heap.size) (G : wS.grownBy w (some gr)) (hcl : c.length ≤ 2000) (hl : c.length < 1) :
    Code.wp Try.prog (tailR 2 (Try.f89.body.getD .skip)) (bodyPost Try.prog Try.f89 (NoteA w0 wS gr (kindR 5 id c))) (Act.mk (List.toArray ((.pointer (some ⟨gr, 0, none⟩)) :: u1 :: (.pointer (some ⟨g2, 0, none⟩)) :: (.pointer (some ⟨g3, 0, none⟩)) :: u4 :: u5 :: u6 :: u7 :: u8 :: u9 :: u10 :: u11 :: u12 :: u13 :: u14 :: u15 :: u16 :: u17 :: u18 :: u19 :: u20 :: u21 :: u22 :: u23 :: u24 :: u25 :: u26 :: u27 :: u28 :: u29 :: u30 :: u31 :: u32 :: u33 :: u34 :: u35 :: u36 :: u37 :: u38 :: u39 :: u40 :: u41 :: u42 :: u43 :: u44 :: u45 :: u46 :: u47 :: u48 :: u49 :: u50 :: u51 :: u52 :: u53 :: u54 :: u55 :: u56 :: u57 :: u58 :: u59 :: u60 :: u61 :: u62 :: u63 :: u64 :: u65 :: u66 :: [])) []) w := by
  conv => enter [2]; whnf
  unfold ntA at b3
  have x0 : w.cell? ⟨g3, 0, none⟩ = some (.int .i64 ((5 : Nat) : Int)) := b3.cell 0 (by show 0 < 10; decide)
  have s0 : True := trivial
  go_wp2_with (go_at_call 110; have _t := s0; clear s0; refine (number_no w0 w gr 1 (c) hR (by omega) (by first | omega | (rw [List.length_drop]; omega))).mono ?_; rintro e w1 ⟨rfl, hww1⟩; have hww1 := hww1.symm; subst hww1)
  refine ⟨rfl, ?_⟩
  show NoteA _ _ _ _ _ _
  rw [show kindR 5 id c = none from by unfold kindR; rw [if_neg (by decide), if_neg (by decide), if_neg (by decide), if_neg (by decide), if_pos rfl, if_pos hl]]
  exact ⟨⟨_, rfl⟩, G⟩

set_option maxHeartbeats 16000000 in
theorem nt_k6 {u1 u4 u5 u6 u7 u8 u9 u10 u11 u12 u13 u14 u15 u16 u17 u18 u19 u20 u21 u22 u23 u24 u25 u26 u27 u28 u29 u30 u31 u32 u33 u34 u35 u36 u37 u38 u39 u40 u41 u42 u43 u44 u45 u46 u47 u48 u49 u50 u51 u52 u53 u54 u55 u56 u57 u58 u59 u60 u61 u62 u63 u64 u65 u66 : Value} (w0 w wS : World) (gr g2 g3 id : Nat) (c : List Nat) (hR : Rdr w0 w gr c) (b3 : BxS w g3 27 (ntA (6 : Nat) (id : Int) ByteArray.empty 0 0 0 (.slice none 0 0) (.slice none 0 0) 0 0)) (b2 : BxS w g2 27 ntZ) (h23 : g2 ≠ g3) (h2 : wS.heap.size ≤ g2) (h3 : wS.heap.size ≤ g3) (h02 : w0.heap.size ≤ wS.heap.size) (G : wS.grownBy w (some gr)) (hcl : c.length ≤ 2000) (hl : ¬ c.length < 1) :
    Code.wp Try.prog (tailR 2 (Try.f89.body.getD .skip)) (bodyPost Try.prog Try.f89 (NoteA w0 wS gr (kindR 6 id c))) (Act.mk (List.toArray ((.pointer (some ⟨gr, 0, none⟩)) :: u1 :: (.pointer (some ⟨g2, 0, none⟩)) :: (.pointer (some ⟨g3, 0, none⟩)) :: u4 :: u5 :: u6 :: u7 :: u8 :: u9 :: u10 :: u11 :: u12 :: u13 :: u14 :: u15 :: u16 :: u17 :: u18 :: u19 :: u20 :: u21 :: u22 :: u23 :: u24 :: u25 :: u26 :: u27 :: u28 :: u29 :: u30 :: u31 :: u32 :: u33 :: u34 :: u35 :: u36 :: u37 :: u38 :: u39 :: u40 :: u41 :: u42 :: u43 :: u44 :: u45 :: u46 :: u47 :: u48 :: u49 :: u50 :: u51 :: u52 :: u53 :: u54 :: u55 :: u56 :: u57 :: u58 :: u59 :: u60 :: u61 :: u62 :: u63 :: u64 :: u65 :: u66 :: [])) []) w := by
  conv => enter [2]; whnf
  unfold ntA at b3
  have x0 : w.cell? ⟨g3, 0, none⟩ = some (.int .i64 ((6 : Nat) : Int)) := b3.cell 0 (by show 0 < 10; decide)
  refine wp_seq_k fun K1 hK1 => ?_
  have HK1 : Hid _ := hK1
  clear hK1
  have s0 : True := trivial
  go_wp2_with (go_at_call 110; have _t := s0; clear s0; refine (number_ok w0 w gr 1 (c) hR (by omega) (by first | omega | (rw [List.length_drop]; omega))).mono ?_; rintro e w1 ⟨rfl, hR1, yw1⟩; have b31 := b3.keep yw1 (hR.ne b3); have b21 := b2.keep yw1 (hR.ne b2); have G1 := grown_trans G yw1; have xw2 : w1.cell? ⟨g3, 8, none⟩ = some _ := b31.cell 8 (by show 8 < 10; decide); have fw2 := b31.free 8; have b32 := b31.set 8 (.int .i64 ((hdV c 1 : Nat) : Int)); have uw2 := grown_set w1 g3 8 (.int .i64 ((hdV c 1 : Nat) : Int)); generalize hww2 : w1.setCell ⟨g3, 8, none⟩ (.int .i64 ((hdV c 1 : Nat) : Int)) = w2 at b32 uw2; have hR2 := hR1.bx b31 uw2 (by omega); have b22 := b21.keep uw2 (fun e => h23 (Option.some.inj e)); have G2 := grown_mine G1 uw2 (fun q e => .inr (by have e := Option.some.inj e; omega)))
  refine HK1.out _ _ ?_
  clear HK1
  refine nt_t20 _ w2 g2 g3 6 id ByteArray.empty 0 0 0 none 0 0 none 0 0 (hdV c 1 : Nat) 0 b32 b22 ?_
  intro w' u
  show NoteA _ _ _ _ _ _
  rw [show kindR 6 id c = some (⟨6, id, [], 0, 0, 0, [], [], hdV c 1, 0⟩, c.drop 1) from by unfold kindR; rw [if_neg (by decide), if_neg (by decide), if_neg (by decide), if_neg (by decide), if_neg (by decide), if_pos rfl, if_neg hl]]
  exact ⟨⟨_, rfl, _, _, _, _, _, _, rfl, Ans.nil _ _, OwGp.nil _ _⟩, hR2.bx b22 u (by omega), grown_mine G2 u (fun q e => .inr (by have e := Option.some.inj e; omega))⟩

set_option maxHeartbeats 16000000 in
theorem nt_n6 {u1 u4 u5 u6 u7 u8 u9 u10 u11 u12 u13 u14 u15 u16 u17 u18 u19 u20 u21 u22 u23 u24 u25 u26 u27 u28 u29 u30 u31 u32 u33 u34 u35 u36 u37 u38 u39 u40 u41 u42 u43 u44 u45 u46 u47 u48 u49 u50 u51 u52 u53 u54 u55 u56 u57 u58 u59 u60 u61 u62 u63 u64 u65 u66 : Value} (w0 w wS : World) (gr g2 g3 id : Nat) (c : List Nat) (hR : Rdr w0 w gr c) (b3 : BxS w g3 27 (ntA (6 : Nat) (id : Int) ByteArray.empty 0 0 0 (.slice none 0 0) (.slice none 0 0) 0 0)) (b2 : BxS w g2 27 ntZ) (h23 : g2 ≠ g3) (h2 : wS.heap.size ≤ g2) (h3 : wS.heap.size ≤ g3) (h02 : w0.heap.size ≤ wS.heap.size) (G : wS.grownBy w (some gr)) (hcl : c.length ≤ 2000) (hl : c.length < 1) :
    Code.wp Try.prog (tailR 2 (Try.f89.body.getD .skip)) (bodyPost Try.prog Try.f89 (NoteA w0 wS gr (kindR 6 id c))) (Act.mk (List.toArray ((.pointer (some ⟨gr, 0, none⟩)) :: u1 :: (.pointer (some ⟨g2, 0, none⟩)) :: (.pointer (some ⟨g3, 0, none⟩)) :: u4 :: u5 :: u6 :: u7 :: u8 :: u9 :: u10 :: u11 :: u12 :: u13 :: u14 :: u15 :: u16 :: u17 :: u18 :: u19 :: u20 :: u21 :: u22 :: u23 :: u24 :: u25 :: u26 :: u27 :: u28 :: u29 :: u30 :: u31 :: u32 :: u33 :: u34 :: u35 :: u36 :: u37 :: u38 :: u39 :: u40 :: u41 :: u42 :: u43 :: u44 :: u45 :: u46 :: u47 :: u48 :: u49 :: u50 :: u51 :: u52 :: u53 :: u54 :: u55 :: u56 :: u57 :: u58 :: u59 :: u60 :: u61 :: u62 :: u63 :: u64 :: u65 :: u66 :: [])) []) w := by
  conv => enter [2]; whnf
  unfold ntA at b3
  have x0 : w.cell? ⟨g3, 0, none⟩ = some (.int .i64 ((6 : Nat) : Int)) := b3.cell 0 (by show 0 < 10; decide)
  have s0 : True := trivial
  go_wp2_with (go_at_call 110; have _t := s0; clear s0; refine (number_no w0 w gr 1 (c) hR (by omega) (by first | omega | (rw [List.length_drop]; omega))).mono ?_; rintro e w1 ⟨rfl, hww1⟩; have hww1 := hww1.symm; subst hww1)
  refine ⟨rfl, ?_⟩
  show NoteA _ _ _ _ _ _
  rw [show kindR 6 id c = none from by unfold kindR; rw [if_neg (by decide), if_neg (by decide), if_neg (by decide), if_neg (by decide), if_neg (by decide), if_pos rfl, if_pos hl]]
  exact ⟨⟨_, rfl⟩, G⟩

set_option maxHeartbeats 16000000 in
theorem nt_k0 {u1 u4 u5 u6 u7 u8 u9 u10 u11 u12 u13 u14 u15 u16 u17 u18 u19 u20 u21 u22 u23 u24 u25 u26 u27 u28 u29 u30 u31 u32 u33 u34 u35 u36 u37 u38 u39 u40 u41 u42 u43 u44 u45 u46 u47 u48 u49 u50 u51 u52 u53 u54 u55 u56 u57 u58 u59 u60 u61 u62 u63 u64 u65 u66 : Value} (w0 w wS : World) (gr g2 g3 id : Nat) (k : Nat) (hk : k = 0 ∨ 6 < k) (c : List Nat) (hR : Rdr w0 w gr c) (b3 : BxS w g3 27 (ntA (k : Nat) (id : Int) ByteArray.empty 0 0 0 (.slice none 0 0) (.slice none 0 0) 0 0)) (b2 : BxS w g2 27 ntZ) (h23 : g2 ≠ g3) (h2 : wS.heap.size ≤ g2) (h3 : wS.heap.size ≤ g3) (h02 : w0.heap.size ≤ wS.heap.size) (G : wS.grownBy w (some gr)) (hcl : c.length ≤ 2000)  :
    Code.wp Try.prog (tailR 2 (Try.f89.body.getD .skip)) (bodyPost Try.prog Try.f89 (NoteA w0 wS gr (kindR k id c))) (Act.mk (List.toArray ((.pointer (some ⟨gr, 0, none⟩)) :: u1 :: (.pointer (some ⟨g2, 0, none⟩)) :: (.pointer (some ⟨g3, 0, none⟩)) :: u4 :: u5 :: u6 :: u7 :: u8 :: u9 :: u10 :: u11 :: u12 :: u13 :: u14 :: u15 :: u16 :: u17 :: u18 :: u19 :: u20 :: u21 :: u22 :: u23 :: u24 :: u25 :: u26 :: u27 :: u28 :: u29 :: u30 :: u31 :: u32 :: u33 :: u34 :: u35 :: u36 :: u37 :: u38 :: u39 :: u40 :: u41 :: u42 :: u43 :: u44 :: u45 :: u46 :: u47 :: u48 :: u49 :: u50 :: u51 :: u52 :: u53 :: u54 :: u55 :: u56 :: u57 :: u58 :: u59 :: u60 :: u61 :: u62 :: u63 :: u64 :: u65 :: u66 :: [])) []) w := by
  conv => enter [2]; whnf
  unfold ntA at b3
  have x0 : w.cell? ⟨g3, 0, none⟩ = some (.int .i64 ((k : Nat) : Int)) := b3.cell 0 (by show 0 < 10; decide)
  have n1 : ¬ (k : Int) = 1 := by omega
  have n2 : ¬ (k : Int) = 2 := by omega
  have n3 : ¬ (k : Int) = 3 := by omega
  have n4 : ¬ (k : Int) = 4 := by omega
  have n5 : ¬ (k : Int) = 5 := by omega
  have n6 : ¬ (k : Int) = 6 := by omega
  refine wp_seq_k fun K1 hK1 => ?_
  have HK1 : Hid _ := hK1
  clear hK1
  go_wp2
  refine HK1.out _ _ ?_
  clear HK1
  refine nt_t20 _ w g2 g3 k id ByteArray.empty 0 0 0 none 0 0 none 0 0 0 0 b3 b2 ?_
  intro w' u
  show NoteA _ _ _ _ _ _
  rw [show kindR k id c = some (⟨k, id, [], 0, 0, 0, [], [], 0, 0⟩, c) from by unfold kindR; rw [if_neg (by omega), if_neg (by omega), if_neg (by omega), if_neg (by omega), if_neg (by omega), if_neg (by omega)]]
  exact ⟨⟨_, rfl, _, _, _, _, _, _, rfl, Ans.nil _ _, OwGp.nil _ _⟩, hR.bx b2 u (by omega), grown_mine G u (fun q e => .inr (by have e := Option.some.inj e; omega))⟩
end

section
set_option maxHeartbeats 16000000 in
/-- a note that is read, or bytes that end too early -/
theorem note_any (w0 w : World) (gr : Nat) (D : List Nat) (hR : Rdr w0 w gr D) (hl : D.length ≤ 2000) :
    Calls Try.prog 89 #[.pointer (some ⟨gr, 0, none⟩)] w (NoteA w0 w gr (noteR D)) := by
  have b2 := BxS.new w 27 #[.int .i64 0, .int .i64 0, .string ⟨#[]⟩, .int .i64 0, .int .i64 0, .int .i64 0, .slice none 0 0, .slice none 0 0, .int .i64 0, .int .i64 0]
  have y1 := World.grownBy_alloc w (.cells #[.int .i64 0, .int .i64 0, .string ⟨#[]⟩, .int .i64 0, .int .i64 0, .int .i64 0, .slice none 0 0, .slice none 0 0, .int .i64 0, .int .i64 0] 27) none
  generalize hw1 : w.alloc (.cells #[.int .i64 0, .int .i64 0, .string ⟨#[]⟩, .int .i64 0, .int .i64 0, .int .i64 0, .slice none 0 0, .slice none 0 0, .int .i64 0, .int .i64 0] 27) = w1 at b2 y1
  have hR1 := hR.keep y1
  have G1 : w.grownBy w1 (some gr) := grown_weak y1 _
  have h02 := hR.g.size
  have i10 := Try.info_nt
  have s0 : True := trivial
  go_enter Try.func89, Try.ntmps89
  by_cases h1 : D.length < 1
  · go_wp2_with (go_at_call 110; have _t := s0; clear s0; refine (number_no w0 w1 gr 1 D hR1 (by omega) (by omega)).mono ?_; rintro e w2 ⟨rfl, hw2⟩; have hw2 := hw2.symm; subst hw2)
    refine ⟨rfl, ?_⟩
    show NoteA _ _ _ _ _ _
    rw [show noteR D = none from by unfold noteR; rw [if_pos (by omega)]]
    exact ⟨⟨_, rfl⟩, G1⟩
  · by_cases h3 : D.length < 3
    · go_wp2_with (first
        | (go_at_call 110; have _t := s0; clear s0; refine (number_ok w0 w1 gr 1 D hR1 (by omega) (by omega)).mono ?_; rintro e w2 ⟨rfl, hR2, y2⟩; have b22 := b2.keep y2 (hR1.ne b2); have G2 := grown_trans G1 y2; have s1 : True := trivial)
        | (go_at_call 110; have _t := s1; clear s1; refine (number_no w0 w2 gr 2 (D.drop 1) hR2 (by omega) (by rw [List.length_drop]; omega)).mono ?_; rintro e w3 ⟨rfl, hw3⟩; have hw3 := hw3.symm; subst hw3))
      refine ⟨rfl, ?_⟩
      show NoteA _ _ _ _ _ _
      rw [show noteR D = none from by unfold noteR; rw [if_pos (by omega)]]
      exact ⟨⟨_, rfl⟩, G2⟩
    · have hnr : noteR D = kindR (hdV D 1) (hdV (D.drop 1) 2) (D.drop 3) := by unfold noteR; rw [if_neg h3]
      rw [hnr]
      clear hnr
      obtain ⟨c, hc⟩ : ∃ c, D.drop 3 = c := ⟨_, rfl⟩
      have hcl : c.length ≤ 2000 := by rw [← hc, List.length_drop]; omega
      obtain ⟨id, hid⟩ : ∃ id, hdV (D.drop 1) 2 = id := ⟨_, rfl⟩
      rw [hc, hid]
      have HC : Hid _ := hc
      have HID : Hid _ := hid
      clear hc hid
      refine wp_seq_k fun K1 hK1 => ?_
      have HK1 : Hid _ := hK1
      clear hK1
      go_wp2
      refine HK1.out _ _ ?_
      clear HK1
      refine wp_seq_k fun K2 hK2 => ?_
      have HK2 : Hid _ := hK2
      clear hK2
      go_wp2_with (first
        | (go_at_call 110; have _t := s0; clear s0; refine (number_ok w0 w1 gr 1 D hR1 (by omega) (by omega)).mono ?_; rintro e w2 ⟨rfl, hR2, y2⟩; have b22 := b2.keep y2 (hR1.ne b2); have G2 := grown_trans G1 y2; have s1 : True := trivial)
        | (go_at_call 110; have _t := s1; clear s1; refine (number_ok w0 w2 gr 2 (D.drop 1) hR2 (by omega) (by rw [List.length_drop]; omega)).mono ?_; rintro e w3 ⟨he3, hR3, y3⟩; rw [HID.out] at he3; subst he3; have b23 := b22.keep y3 (hR2.ne b22); have G3 := grown_trans G2 y3; have b33 := BxS.new w3 27 #[.int .i64 0, .int .i64 0, .string ⟨#[]⟩, .int .i64 0, .int .i64 0, .int .i64 0, .slice none 0 0, .slice none 0 0, .int .i64 0, .int .i64 0]; have y4 := World.grownBy_alloc w3 (.cells #[.int .i64 0, .int .i64 0, .string ⟨#[]⟩, .int .i64 0, .int .i64 0, .int .i64 0, .slice none 0 0, .slice none 0 0, .int .i64 0, .int .i64 0] 27) none; generalize hw4 : w3.alloc (.cells #[.int .i64 0, .int .i64 0, .string ⟨#[]⟩, .int .i64 0, .int .i64 0, .int .i64 0, .slice none 0 0, .slice none 0 0, .int .i64 0, .int .i64 0] 27) = w4 at b33 y4; have s2 : True := trivial)
        | (have _t := s2; clear s2; refine wpList_stX _ rfl _ (.tmp 3) (.tmp 9) rfl w3.heap.size _ _ rfl rfl b33 i10 rfl (by simp [Value.oneCell']) ?_; intro w5 b35 u5))
      have hw13 := G3.size
      have l2 := b23.lt
      have hne : w.heap.size ≠ w3.heap.size := by omega
      have b25 := (b23.keep y4 (by simp)).keep u5 (fun e => hne (Option.some.inj e))
      have hR5 := (hR3.keep y4).bx b33 u5 (by omega)
      have G5 := grown_mine (grown_trans G3 (grown_weak y4 _)) u5 (fun q e => .inr (by have e := Option.some.inj e; omega))
      rw [List.drop_drop, show D.drop (1 + 2) = c from HC.out] at hR5
      obtain ⟨g3, hg3⟩ : ∃ g3, w3.heap.size = g3 := ⟨_, rfl⟩
      have h3 : w.heap.size ≤ g3 := by omega
      rw [hg3] at b35 hne ⊢
      refine HK2.out _ _ ?_
      clear HK2
      by_cases e1 : hdV D 1 = 1
      · rw [e1] at b35 ⊢
        by_cases hl : c.length < 4
        · exact nt_n1 w0 w5 w gr w.heap.size g3 id c hR5 b35 b25 hne (Nat.le_refl _) h3 h02 G5 hcl hl
        · exact nt_k1 w0 w5 w gr w.heap.size g3 id c hR5 b35 b25 hne (Nat.le_refl _) h3 h02 G5 hcl hl
      by_cases e2 : hdV D 1 = 2
      · rw [e2] at b35 ⊢
        by_cases hl : c.length < 4
        · exact nt_n2 w0 w5 w gr w.heap.size g3 id c hR5 b35 b25 hne (Nat.le_refl _) h3 h02 G5 hcl hl
        · exact nt_k2 w0 w5 w gr w.heap.size g3 id c hR5 b35 b25 hne (Nat.le_refl _) h3 h02 G5 hcl hl
      by_cases e3 : hdV D 1 = 3
      · rw [e3] at b35 ⊢
        by_cases hl : c.length < 8
        · exact nt_n3 w0 w5 w gr w.heap.size g3 id c hR5 b35 b25 hne (Nat.le_refl _) h3 h02 G5 hcl hl
        · exact nt_k3 w0 w5 w gr w.heap.size g3 id c hR5 b35 b25 hne (Nat.le_refl _) h3 h02 G5 hcl hl
      by_cases e4 : hdV D 1 = 4
      · rw [e4] at b35 ⊢
        exact nt_k4 w0 w5 w gr w.heap.size g3 id c hR5 b35 b25 hne (Nat.le_refl _) h3 h02 G5 hcl
      by_cases e5 : hdV D 1 = 5
      · rw [e5] at b35 ⊢
        by_cases hl : c.length < 1
        · exact nt_n5 w0 w5 w gr w.heap.size g3 id c hR5 b35 b25 hne (Nat.le_refl _) h3 h02 G5 hcl hl
        · exact nt_k5 w0 w5 w gr w.heap.size g3 id c hR5 b35 b25 hne (Nat.le_refl _) h3 h02 G5 hcl hl
      by_cases e6 : hdV D 1 = 6
      · rw [e6] at b35 ⊢
        by_cases hl : c.length < 1
        · exact nt_n6 w0 w5 w gr w.heap.size g3 id c hR5 b35 b25 hne (Nat.le_refl _) h3 h02 G5 hcl hl
        · exact nt_k6 w0 w5 w gr w.heap.size g3 id c hR5 b35 b25 hne (Nat.le_refl _) h3 h02 G5 hcl hl
      exact nt_k0 w0 w5 w gr w.heap.size g3 id (hdV D 1) (by omega) c hR5 b35 b25 hne (Nat.le_refl _) h3 h02 G5 hcl
end

section
theorem ta_early (x : Int) (xT : TypeId) (w : World) : (Instr.typeAssert (.iface 120 (.int .i64 x)) xT 120 true).run Try.prog w = .ok (.tuple #[.int .i64 x, .bool true]) w := by
  simp [Instr.typeAssert, run_underlying Try.underlying120, go_sem, Result.andThen]
theorem early_idle (p q : Addr) (w : World) :
    CallsD Try.prog 88 #[.pointer (some p), .pointer (some q)] .returning w fun e u' w' => e = .returned (.tuple #[]) ∧ u' = .returning ∧ w' = w := by
  refine callsD_of_wpS Try.func88 rfl fun c₀ cs hu => ?_
  apply wpS_seq
  apply wpS_region
  simp [wpOpsS, go_sem, recoverD, hu, Try.ntmps88, Exit.thenS]
  refine wpS_of_wp ?_
  go_wp2
  cases c₀
  simp_all [bodyPostS, results, Try.results88]
set_option maxHeartbeats 4000000 in
theorem early_pan (g2 g3 : Nat) (x : Int) (cs2 : Array Value) (e0 : Value) (w : World) (b2 : BxS w g2 27 cs2) (hs : cs2.size = 10) (b3 : BxS w g3 25 #[e0]) :
    CallsD Try.prog 88 #[.pointer (some ⟨g2, 0, none⟩), .pointer (some ⟨g3, 0, none⟩)] (.panicking [{ v := .iface 120 (.int .i64 x), recovered := false }]) w fun e u' w' =>
      e = .returned (.tuple #[]) ∧ u' = .panicking [{ v := .iface 120 (.int .i64 x), recovered := true }] ∧ BxS w' g2 27 ntZ ∧ BxS w' g3 25 #[.int .i64 8] ∧ ∃ w1, w.grownBy w1 (some g2) ∧ w1.grownBy w' (some g3) := by
  refine callsD_of_wpS Try.func88 rfl fun c₀ cs hu => ?_
  apply wpS_seq
  apply wpS_region
  simp [wpOpsS, go_sem, recoverD, hu, Try.ntmps88, Exit.thenS]
  refine wpS_of_wp ?_
  have i10 := Try.info_nt
  have hta := fun xT wz => ta_early x xT wz
  have c3 : w.cell? ⟨g3, 0, none⟩ = some e0 := b3.cell 0 (by show 0 < 1; decide)
  change Code.wp Try.prog _ _ (Act.mk #[.pointer (some ⟨g2, 0, none⟩), .pointer (some ⟨g3, 0, none⟩), undef, undef, undef, .iface 120 (.int .i64 x), undef, undef, undef, undef, undef, undef] []) w
  have s0 : True := trivial
  go_wp2_with (have _t := s0; clear s0; refine wpList_stX _ rfl _ (.tmp 0) (.tmp 11) rfl g2 _ _ rfl rfl b2 i10 hs (by simp [Value.oneCell']) ?_; intro w3 b23 u3; have b33 := b3.keep u3 (fun e => BxS.apart b3 b2 (by decide) (Option.some.inj e)); have c33 : w3.cell? ⟨g3, 0, none⟩ = some e0 := b33.cell 0 (by show 0 < 1; decide); have f33 := b33.free 0)
  have fin : BxS (w3.setCell ⟨g3, 0, none⟩ (.int .i64 8)) g2 27 ntZ ∧ BxS (w3.setCell ⟨g3, 0, none⟩ (.int .i64 8)) g3 25 #[.int .i64 8] ∧ ∃ w1, w.grownBy w1 (some g2) ∧ w1.grownBy (w3.setCell ⟨g3, 0, none⟩ (.int .i64 8)) (some g3) :=
    ⟨b23.keep (grown_set w3 g3 0 _) (fun e => BxS.apart b23 b33 (by decide) (Option.some.inj e)), b33.set 0 _, w3, u3, grown_set w3 g3 0 _⟩
  simp [bodyPostS, results, Try.results88]
  exact fin
theorem results_cell2 {fn : Func} {p q : Tmp} {ty tz : TypeId} (h : fn.results = #[.cell p ty, .cell q tz]) (tmps : Array Value) (P : Program) (w : World) (a b : Addr) (v y : Value) (ha : tmps.getD p undef = .pointer (some a)) (hl : (loadVar ty a).run P w = .ok v w) (hb : tmps.getD q undef = .pointer (some b)) (hy : (loadVar tz b).run P w = .ok y w) :
    (results fn tmps).run P w = .ok (.tuple #[v, y]) w := by
  simp only [results, h]
  rw [Array.getD_eq_getD_getElem?] at ha hb
  simp [Sem.run_bind, Result.andThen]
  rw [ha, hb]
  simp [asAddr, hl, hy]
theorem load_errno {w : World} {g : Nat} {e : Int} (h : BxS w g 25 #[.int .i64 e]) : (loadVar 25 ⟨g, 0, none⟩).run Try.prog w = .ok (.int .i64 e) w := by
  have hc : w.cell? ⟨g, 0, none⟩ = some (.int .i64 e) := h.cell 0 (by show 0 < 1; decide)
  simp [go_sem, hc]
theorem OwGp.wide {w : World} {lo lo' : Nat} {q : Option Addr} {m d : Nat} {G : List (Nat × Nat)} (h : OwGp w lo q m d G) (hl : lo' ≤ lo) : OwGp w lo' q m d G := ⟨h.own, h.len, fun g e => Nat.le_trans hl (h.new g e)⟩
/-- what is read of bytes -/
def rdN (D : List Nat) : Option Nd := if 1031 < D.length then none else match noteR D with
  | some (N, []) => some N
  | _ => none
def RdNA (w : World) (oN : Option Nd) (e : Ending) (w' : World) : Prop := match oN with
  | some N => ∃ v, e = .returned (.tuple #[v, .int .i64 0]) ∧ NtD w' w.heap.size N v
  | none => e = .returned (.tuple #[.agg ntZ, .int .i64 8])
set_option maxHeartbeats 8000000 in
theorem readNote_any (a : Option Addr) (n c : Nat) (D : List Nat) (w : World) (hD : Rd w a n c D) :
    Calls Try.prog 54 #[.slice a n c] w fun e w' => RdNA w (rdN D) e w' ∧ w.grownBy w' none := by
  have hmf : ∀ (fn : Fn) (first cap : Array Value) (w : World), (Instr.makeFunc fn first cap).run Try.prog w = .ok (.func fn first cap) w := fun _ _ _ _ => rfl
  have hn := hD.len
  have b2 := BxS.new w 27 #[.int .i64 0, .int .i64 0, .string ⟨#[]⟩, .int .i64 0, .int .i64 0, .int .i64 0, .slice none 0 0, .slice none 0 0, .int .i64 0, .int .i64 0]
  have y1 := World.grownBy_alloc w (.cells #[.int .i64 0, .int .i64 0, .string ⟨#[]⟩, .int .i64 0, .int .i64 0, .int .i64 0, .slice none 0 0, .slice none 0 0, .int .i64 0, .int .i64 0] 27) none
  have hsz : (w.alloc (.cells #[.int .i64 0, .int .i64 0, .string ⟨#[]⟩, .int .i64 0, .int .i64 0, .int .i64 0, .slice none 0 0, .slice none 0 0, .int .i64 0, .int .i64 0] 27)).heap.size = w.heap.size + 1 := by simp
  generalize hw1 : w.alloc (.cells #[.int .i64 0, .int .i64 0, .string ⟨#[]⟩, .int .i64 0, .int .i64 0, .int .i64 0, .slice none 0 0, .slice none 0 0, .int .i64 0, .int .i64 0] 27) = w1 at b2 y1 hsz
  have b3 := BxS.new w1 25 #[.int .i64 0]
  rw [hsz] at b3
  have y2 := World.grownBy_alloc w1 (.cells #[.int .i64 0] 25) none
  generalize hw2 : w1.alloc (.cells #[.int .i64 0] 25) = w2 at b3 y2
  have b22 := b2.keep y2 (by simp)
  have i10 := Try.info_nt
  by_cases hbig : 1031 < n
  · have db : (1031 : Int) < (n : Int) := by omega
    have s0 : True := trivial
    go_enter_defers Try.func54, Try.ntmps54
    go_wp2_with (have _t := s0; clear s0; refine wpList_stX _ rfl _ (.tmp 2) (.tmp 8) rfl w.heap.size _ _ rfl rfl b22 i10 rfl (by simp [Value.oneCell']) ?_; intro w3 b23 u3; have b33 := b3.keep u3 (fun e => BxS.apart b3 b22 (by decide) (Option.some.inj e)); have c33 : w3.cell? ⟨w.heap.size + 1, 0, none⟩ = some (.int .i64 0) := b33.cell 0 (by show 0 < 1; decide); have f33 := b33.free 0)
    have u4 := grown_set w3 (w.heap.size + 1) 0 (.int .i64 8)
    have b24 := b23.keep u4 (fun e => BxS.apart b23 b33 (by decide) (Option.some.inj e))
    have b34 := b33.set 0 (.int .i64 8)
    refine ⟨_, results_cell2 rfl _ _ _ ⟨w.heap.size, 0, none⟩ ⟨w.heap.size + 1, 0, none⟩ _ _ rfl (BxS.load (t := 27) b24 Try.underlying27 Try.info_nt) rfl (load_errno b34), ?_, ?_⟩
    · unfold rdN
      rw [if_pos (by omega)]
      rfl
    · exact grown_far (grown_far (grown_trans y1 y2) u3 (fun q e => by have e := Option.some.inj e; omega)) u4 (fun q e => by have e := Option.some.inj e; omega)
  · have db : ¬ (1031 : Int) < (n : Int) := by omega
    have b4 := BxS.new w2 123 #[.slice a n c]
    have y3 := World.grownBy_alloc w2 (.cells #[.slice a n c] 123) none
    have hs2 : w2.heap.size = w.heap.size + 2 := by rw [← hw2]; simp [hsz]
    rw [hs2] at b4
    generalize hw3 : w2.alloc (.cells #[.slice a n c] 123) = w3 at b4 y3
    have b23 := b22.keep y3 (by simp)
    have b33 := b3.keep y3 (by simp)
    have hz3 := b4.lt
    have G3 := grown_trans (grown_trans y1 y2) y3
    have hR3 : Rdr w w3 (w.heap.size + 2) D := ⟨by omega, ⟨a, n, c, b4, hD⟩, G3⟩
    have kN := note_any w w3 (w.heap.size + 2) D hR3 (by omega)
    have hrd : rdN D = match noteR D with | some (N, []) => some N | _ => none := by unfold rdN; rw [if_neg (by omega)]
    have HRD : Hid _ := hrd
    clear hrd
    cases hN : noteR D with
    | none =>
      rw [hN] at kN
      have s0 : True := trivial
      go_enter_defers Try.func54, Try.ntmps54
      go_wp2_with (go_at_call 89; have _t := s0; clear s0; refine kN.mono ?_; rintro e w4 ⟨⟨x, rfl⟩, y4⟩)
      have b24 := b23.keep y4 (fun e => by have e := Option.some.inj e; omega)
      have b34 := b33.keep y4 (fun e => by have e := Option.some.inj e; omega)
      refine leaves_cons (f := 88) (args := #[.pointer (some ⟨w.heap.size, 0, none⟩), .pointer (some ⟨w.heap.size + 1, 0, none⟩)]) (by simp) (by simp [go_sem]) ?_
      refine (early_pan w.heap.size (w.heap.size + 1) x _ _ w4 b24 rfl b34).mono ?_
      rintro e u' w5 ⟨rfl, rfl, c2, c3, w6, v1, v2⟩
      refine ⟨_, results_cell2 rfl _ _ _ ⟨w.heap.size, 0, none⟩ ⟨w.heap.size + 1, 0, none⟩ _ _ rfl (BxS.load (t := 27) c2 Try.underlying27 Try.info_nt) rfl (load_errno c3), ?_, ?_⟩
      · rw [HRD.out, hN]
        rfl
      · exact grown_far (grown_far (grown_far G3 y4 (fun q e => by have e := Option.some.inj e; omega)) v1 (fun q e => by have e := Option.some.inj e; omega)) v2 (fun q e => by have e := Option.some.inj e; omega)
    | some P =>
      obtain ⟨N, R⟩ := P
      rw [hN] at kN
      have s0 : True := trivial
      have ARM : True := trivial
      cases R with
      | nil =>
        go_enter_defers Try.func54, Try.ntmps54
        go_wp2_with (first
          | (go_at_call 89; have _t := s0; clear s0; refine kN.mono ?_; rintro e w4 ⟨⟨v, rfl, a5, n5, c5, q5, m5, d5, rfl, hA5, hO5⟩, hR4, y4⟩; have b24 := b23.keep y4 (fun e => by have e := Option.some.inj e; omega); have b34 := b33.keep y4 (fun e => by have e := Option.some.inj e; omega); have s1 : True := trivial)
          | (have _t := s1; clear s1; refine wpList_stX _ rfl _ (.tmp 2) (.tmp 14) rfl w.heap.size _ _ rfl rfl b24 i10 rfl (by simp [ntA, Value.oneCell']) ?_; intro w5 b25 u5; have hR5 := hR4.bx b24 u5 (Nat.le_refl _); obtain ⟨a6, n6, c6, b6, r6⟩ := hR5.ex; have cr : w5.cell? ⟨w.heap.size + 2, 0, none⟩ = some (.slice a6 n6 c6) := b6.cell 0 (by show 0 < 1; decide); have hn6 : n6 = 0 := r6.len.symm; subst hn6; have b35 := b34.keep u5 (fun e => by have e := Option.some.inj e; omega); have s2 : True := trivial)
          | (have _t := s2; clear s2; refine wpList_ldX _ rfl _ (.tmp 2) rfl w.heap.size _ rfl b25 Try.underlying27 i10 ?_; have s3 : True := trivial)
          | (have _t := s3; clear s3; refine wpList_stX _ rfl _ (.tmp 2) (.tmp 22) rfl w.heap.size _ _ rfl rfl b25 i10 rfl (by simp [ntA, Value.oneCell']) ?_; intro w6 b26 u6; have b36 := b35.keep u6 (fun e => by have e := Option.some.inj e; omega); have c36 : w6.cell? ⟨w.heap.size + 1, 0, none⟩ = some (.int .i64 0) := b36.cell 0 (by show 0 < 1; decide); have f36 := b36.free 0))
        have u7 := grown_set w6 (w.heap.size + 1) 0 (.int .i64 0)
        have b27 := b26.keep u7 (fun e => by have e := Option.some.inj e; omega)
        have b37 := b36.set 0 (.int .i64 0)
        refine leaves_cons (f := 88) (args := #[.pointer (some ⟨w.heap.size, 0, none⟩), .pointer (some ⟨w.heap.size + 1, 0, none⟩)]) (by simp) (by simp [go_sem]) ?_
        refine (early_idle ⟨w.heap.size, 0, none⟩ ⟨w.heap.size + 1, 0, none⟩ _).mono ?_
        rintro e u' w9 ⟨rfl, rfl, rfl⟩
        refine ⟨_, results_cell2 rfl _ _ _ ⟨w.heap.size, 0, none⟩ ⟨w.heap.size + 1, 0, none⟩ _ _ rfl (BxS.load (t := 27) b27 Try.underlying27 Try.info_nt) rfl (load_errno b37), ?_, ?_⟩
        · rw [HRD.out, hN]
          refine ⟨_, rfl, a5, n5, c5, q5, m5, d5, rfl, ?_, ?_⟩
          · exact (((hA5.kept u5 (.inr (fun e => by have := hA5.new _ e; omega))).kept u6 (.inr (fun e => by have := hA5.new _ e; omega))).kept u7 (.inr (fun e => by have := hA5.new _ e; omega))).wide (by omega)
          · exact (((hO5.bx b24 (by decide) u5).bx b25 (by decide) u6).bx b36 (by decide) u7).wide (by omega)
        · exact grown_far (grown_far (grown_far (grown_far G3 y4 (fun q e => by have e := Option.some.inj e; omega)) u5 (fun q e => by have e := Option.some.inj e; omega)) u6 (fun q e => by have e := Option.some.inj e; omega)) u7 (fun q e => by have e := Option.some.inj e; omega)
      | cons r R =>
        go_enter_defers Try.func54, Try.ntmps54
        go_wp2_with (first
          | (go_at_call 89; have _t := s0; clear s0; refine kN.mono ?_; rintro e w4 ⟨⟨v, rfl, a5, n5, c5, q5, m5, d5, rfl, hA5, hO5⟩, hR4, y4⟩; have b24 := b23.keep y4 (fun e => by have e := Option.some.inj e; omega); have b34 := b33.keep y4 (fun e => by have e := Option.some.inj e; omega); have s1 : True := trivial)
          | (have _t := s1; clear s1; refine wpList_stX _ rfl _ (.tmp 2) (.tmp 14) rfl w.heap.size _ _ rfl rfl b24 i10 rfl (by simp [ntA, Value.oneCell']) ?_; intro w5 b25 u5; have hR5 := hR4.bx b24 u5 (Nat.le_refl _); obtain ⟨a6, n6, c6, b6, r6⟩ := hR5.ex; have cr : w5.cell? ⟨w.heap.size + 2, 0, none⟩ = some (.slice a6 n6 c6) := b6.cell 0 (by show 0 < 1; decide); have hn6 : (0 : Int) < (n6 : Int) := (by have h9 := r6.len; rw [List.length_cons] at h9; omega); have b35 := b34.keep u5 (fun e => by have e := Option.some.inj e; omega); have s2 : True := trivial)
          | (have _t := s2; clear s2; refine wpList_stX _ rfl _ (.tmp 2) (.tmp 21) rfl w.heap.size _ _ rfl rfl b25 i10 rfl (by simp [Value.oneCell']) ?_; intro w6 b26 u6; have b36 := b35.keep u6 (fun e => by have e := Option.some.inj e; omega); have c36 : w6.cell? ⟨w.heap.size + 1, 0, none⟩ = some (.int .i64 0) := b36.cell 0 (by show 0 < 1; decide); have f36 := b36.free 0))
        have u7 := grown_set w6 (w.heap.size + 1) 0 (.int .i64 8)
        have b27 := b26.keep u7 (fun e => by have e := Option.some.inj e; omega)
        have b37 := b36.set 0 (.int .i64 8)
        refine leaves_cons (f := 88) (args := #[.pointer (some ⟨w.heap.size, 0, none⟩), .pointer (some ⟨w.heap.size + 1, 0, none⟩)]) (by simp) (by simp [go_sem]) ?_
        refine (early_idle ⟨w.heap.size, 0, none⟩ ⟨w.heap.size + 1, 0, none⟩ _).mono ?_
        rintro e u' w9 ⟨rfl, rfl, rfl⟩
        refine ⟨_, results_cell2 rfl _ _ _ ⟨w.heap.size, 0, none⟩ ⟨w.heap.size + 1, 0, none⟩ _ _ rfl (BxS.load (t := 27) b27 Try.underlying27 Try.info_nt) rfl (load_errno b37), ?_, ?_⟩
        · rw [HRD.out, hN]
          rfl
        · exact grown_far (grown_far (grown_far (grown_far G3 y4 (fun q e => by have e := Option.some.inj e; omega)) u5 (fun q e => by have e := Option.some.inj e; omega)) u6 (fun q e => by have e := Option.some.inj e; omega)) u7 (fun q e => by have e := Option.some.inj e; omega)
end

section
theorem strB_size (L : List Nat) : (strB L).size = L.length := by
  unfold strB strOfNums
  simp [ByteArray.size]
def mayN (N : Nd) : Bool := ntB (N.kd : Int) (N.id : Int) N.nm.length (N.si : Int) (N.su : Int) (N.at' : Int) N.da.length N.ga.length (N.o : Int) (N.co : Int) (alG (gpF N.ga) 65536 N.ga.length)
/-- what Decode answers -/
def decN (D : List Nat) : Option Nd := match rdN D with
  | some N => if mayN N = true then some N else none
  | none => none
theorem OwGp.rd {w : World} {lo : Nat} {q : Option Addr} {m d : Nat} {G : List (Nat × Nat)} (h : OwGp w lo q m d G) : RdG w q m d (gpF G) := by
  obtain ⟨q', c', e, h1, _⟩ := own_rdG h.own
  cases e
  exact h1
theorem ans_lt {w : World} {lo : Nat} {a : Option Addr} {n c : Nat} {L : List Nat} (h : Ans w lo a n c L) {g : Nat} (e : (Value.slice a n c).ownBlock = some g) : g < w.heap.size := by
  rcases h.own.2 with ⟨h1, _⟩ | ⟨g', cap', cur, h1, _, h3, _⟩
  · rw [h1] at e; cases e
  · rw [h1] at e
    have e : g' = g := Option.some.inj e
    subst e
    exact (Array.getElem?_eq_some_iff.1 h3).1
set_option maxHeartbeats 8000000 in
theorem decode_any (a : Option Addr) (n c : Nat) (D : List Nat) (w : World) (hD : Rd w a n c D) :
    Calls Try.prog 18 #[.slice a n c] w fun e w' => RdNA w (decN D) e w' ∧ w.grownBy w' none := by
  have b2 := BxS.new w 27 #[.int .i64 0, .int .i64 0, .string ⟨#[]⟩, .int .i64 0, .int .i64 0, .int .i64 0, .slice none 0 0, .slice none 0 0, .int .i64 0, .int .i64 0]
  have y1 := World.grownBy_alloc w (.cells #[.int .i64 0, .int .i64 0, .string ⟨#[]⟩, .int .i64 0, .int .i64 0, .int .i64 0, .slice none 0 0, .slice none 0 0, .int .i64 0, .int .i64 0] 27) none
  have l2 := b2.lt
  generalize hw1 : w.alloc (.cells #[.int .i64 0, .int .i64 0, .string ⟨#[]⟩, .int .i64 0, .int .i64 0, .int .i64 0, .slice none 0 0, .slice none 0 0, .int .i64 0, .int .i64 0] 27) = w1 at b2 y1 l2
  have i10 := Try.info_nt
  have kR := readNote_any a n c D w1 (hD.keep y1)
  cases hN : rdN D with
  | none =>
    rw [hN] at kR
    have hd : decN D = none := by unfold decN; rw [hN]
    rw [hd]
    have s0 : True := trivial
    go_enter Try.func18, Try.ntmps18
    go_wp2_with (first
      | (go_at_call 54; have _t := s0; clear s0; refine kR.mono ?_; rintro e w2 ⟨he, y2⟩; have he : e = .returned (.tuple #[.agg ntZ, .int .i64 8]) := he; subst he; have b22 := b2.keep y2 (by simp); have b4 := BxS.new w2 27 #[.int .i64 0, .int .i64 0, .string ⟨#[]⟩, .int .i64 0, .int .i64 0, .int .i64 0, .slice none 0 0, .slice none 0 0, .int .i64 0, .int .i64 0]; have y3 := World.grownBy_alloc w2 (.cells #[.int .i64 0, .int .i64 0, .string ⟨#[]⟩, .int .i64 0, .int .i64 0, .int .i64 0, .slice none 0 0, .slice none 0 0, .int .i64 0, .int .i64 0] 27) none; generalize hw3 : w2.alloc (.cells #[.int .i64 0, .int .i64 0, .string ⟨#[]⟩, .int .i64 0, .int .i64 0, .int .i64 0, .slice none 0 0, .slice none 0 0, .int .i64 0, .int .i64 0] 27) = w3 at b4 y3; have b23 := b22.keep y3 (by simp); have s1 : True := trivial)
      | (have _t := s1; clear s1; refine wpList_stX _ rfl _ (.tmp 4) (.tmp 9) rfl w2.heap.size _ _ rfl rfl b4 i10 rfl (by simp [ntZ, ntA, Value.oneCell']) ?_; intro w4 b44 u4; have b24 := b23.keep u4 (fun e => by have e := Option.some.inj e; have := b22.lt; omega); have s2 : True := trivial)
      | (have _t := s2; clear s2; refine wpList_stX _ rfl _ (.tmp 2) (.tmp 18) rfl w.heap.size _ _ rfl rfl b24 i10 rfl (by simp [Value.oneCell']) ?_; intro w5 b25 u5))
    refine bodyPost_ret (results_cell1t rfl _ _ _ ⟨w.heap.size, 0, none⟩ _ (.int .i64 8) rfl (BxS.load (t := 27) b25 Try.underlying27 Try.info_nt) rfl) rfl ?_
    exact ⟨rfl, grown_far (grown_far (grown_trans (grown_trans y1 y2) y3) u4 (fun q e => by have e := Option.some.inj e; have := y2.size; omega)) u5 (fun q e => by have e := Option.some.inj e; omega)⟩
  | some N =>
    rw [hN] at kR
    cases hm : mayN N with
    | true =>
      have hd : decN D = some N := by unfold decN; rw [hN]; simp only [hm]; rfl
      rw [hd]
      have s0 : True := trivial
      go_enter Try.func18, Try.ntmps18
      go_wp2_with (first
        | (go_at_call 54; have _t := s0; clear s0; refine kR.mono ?_; rintro e w2 ⟨⟨v, rfl, a5, n5, c5, q5, m5, d5, rfl, hA5, hO5⟩, y2⟩; have b22 := b2.keep y2 (by simp); have b4 := BxS.new w2 27 #[.int .i64 0, .int .i64 0, .string ⟨#[]⟩, .int .i64 0, .int .i64 0, .int .i64 0, .slice none 0 0, .slice none 0 0, .int .i64 0, .int .i64 0]; have y3 := World.grownBy_alloc w2 (.cells #[.int .i64 0, .int .i64 0, .string ⟨#[]⟩, .int .i64 0, .int .i64 0, .int .i64 0, .slice none 0 0, .slice none 0 0, .int .i64 0, .int .i64 0] 27) none; generalize hw3 : w2.alloc (.cells #[.int .i64 0, .int .i64 0, .string ⟨#[]⟩, .int .i64 0, .int .i64 0, .int .i64 0, .slice none 0 0, .slice none 0 0, .int .i64 0, .int .i64 0] 27) = w3 at b4 y3; have b23 := b22.keep y3 (by simp); have s1 : True := trivial)
        | (have _t := s1; clear s1; refine wpList_stX _ rfl _ (.tmp 4) (.tmp 9) rfl w2.heap.size _ _ rfl rfl b4 i10 rfl (by simp [ntA, Value.oneCell']) ?_; intro w4 b44 u4; unfold ntA at b44; have b24 := b23.keep u4 (fun e => by have e := Option.some.inj e; have := b22.lt; omega); have hA4 := (hA5.keep y3).kept u4 (.inr (fun e => by have := hA5.new _ e; obtain ⟨g9, h9⟩ : ∃ g9, (Value.slice a5 n5 c5).ownBlock = some g9 := ⟨_, e⟩; have hlt9 := ans_lt hA5 h9; rw [h9] at e; have e := Option.some.inj e; omega)); have hO4 := (hO5.keep y3).bx b4 (by decide) u4; obtain ⟨z0, z1, z2, z3, z4, z5, z6, z7, z8, z9⟩ := b44.cell10; have s2 : True := trivial)
        | (go_at_call 49; have _t := s2; clear s2; refine (noteMay_any _ _ _ _ _ _ a5 n5 c5 q5 m5 d5 _ _ (gpF N.ga) w4 hO4.rd).mono ?_; rintro e w5 ⟨he, y5⟩; rw [strB_size, ← hA5.len, ← hO5.len] at he; have he : e = .returned (.bool (mayN N)) := he; rw [hm] at he; subst he; have b45 := b44.keep y5 (by simp); have b25 := b24.keep y5 (by simp); have s3 : True := trivial)
        | (have _t := s3; clear s3; refine wpList_ldX _ rfl _ (.tmp 4) rfl w2.heap.size _ rfl b45 Try.underlying27 i10 ?_; have s4 : True := trivial)
        | (have _t := s4; clear s4; refine wpList_stX _ rfl _ (.tmp 2) (.tmp 19) rfl w.heap.size _ _ rfl rfl b25 i10 rfl (by simp [Value.oneCell']) ?_; intro w6 b26 u6))
      refine bodyPost_ret (results_cell1t rfl _ _ _ ⟨w.heap.size, 0, none⟩ _ (.int .i64 0) rfl (BxS.load (t := 27) b26 Try.underlying27 Try.info_nt) rfl) rfl ?_
      exact ⟨⟨_, rfl, a5, n5, c5, q5, m5, d5, rfl, ((hA4.keep y5).kept u6 (.inr (fun e => by have := hA5.new _ e; omega))).wide (by omega), ((hO4.keep y5).bx b25 (by decide) u6).wide (by omega)⟩, grown_far (grown_trans (grown_far (grown_trans (grown_trans y1 y2) y3) u4 (fun q e => by have e := Option.some.inj e; have := y2.size; omega)) y5) u6 (fun q e => by have e := Option.some.inj e; omega)⟩
    | false =>
      have hd : decN D = none := by unfold decN; rw [hN]; simp only [hm]; rfl
      rw [hd]
      have s0 : True := trivial
      go_enter Try.func18, Try.ntmps18
      go_wp2_with (first
        | (go_at_call 54; have _t := s0; clear s0; refine kR.mono ?_; rintro e w2 ⟨⟨v, rfl, a5, n5, c5, q5, m5, d5, rfl, hA5, hO5⟩, y2⟩; have b22 := b2.keep y2 (by simp); have b4 := BxS.new w2 27 #[.int .i64 0, .int .i64 0, .string ⟨#[]⟩, .int .i64 0, .int .i64 0, .int .i64 0, .slice none 0 0, .slice none 0 0, .int .i64 0, .int .i64 0]; have y3 := World.grownBy_alloc w2 (.cells #[.int .i64 0, .int .i64 0, .string ⟨#[]⟩, .int .i64 0, .int .i64 0, .int .i64 0, .slice none 0 0, .slice none 0 0, .int .i64 0, .int .i64 0] 27) none; generalize hw3 : w2.alloc (.cells #[.int .i64 0, .int .i64 0, .string ⟨#[]⟩, .int .i64 0, .int .i64 0, .int .i64 0, .slice none 0 0, .slice none 0 0, .int .i64 0, .int .i64 0] 27) = w3 at b4 y3; have b23 := b22.keep y3 (by simp); have s1 : True := trivial)
        | (have _t := s1; clear s1; refine wpList_stX _ rfl _ (.tmp 4) (.tmp 9) rfl w2.heap.size _ _ rfl rfl b4 i10 rfl (by simp [ntA, Value.oneCell']) ?_; intro w4 b44 u4; unfold ntA at b44; have b24 := b23.keep u4 (fun e => by have e := Option.some.inj e; have := b22.lt; omega); have hA4 := (hA5.keep y3).kept u4 (.inr (fun e => by have := hA5.new _ e; obtain ⟨g9, h9⟩ : ∃ g9, (Value.slice a5 n5 c5).ownBlock = some g9 := ⟨_, e⟩; have hlt9 := ans_lt hA5 h9; rw [h9] at e; have e := Option.some.inj e; omega)); have hO4 := (hO5.keep y3).bx b4 (by decide) u4; obtain ⟨z0, z1, z2, z3, z4, z5, z6, z7, z8, z9⟩ := b44.cell10; have s2 : True := trivial)
        | (go_at_call 49; have _t := s2; clear s2; refine (noteMay_any _ _ _ _ _ _ a5 n5 c5 q5 m5 d5 _ _ (gpF N.ga) w4 hO4.rd).mono ?_; rintro e w5 ⟨he, y5⟩; rw [strB_size, ← hA5.len, ← hO5.len] at he; have he : e = .returned (.bool (mayN N)) := he; rw [hm] at he; subst he; have b45 := b44.keep y5 (by simp); have b25 := b24.keep y5 (by simp); have s3 : True := trivial)
        | (have _t := s3; clear s3; refine wpList_stX _ rfl _ (.tmp 2) (.tmp 18) rfl w.heap.size _ _ rfl rfl b25 i10 rfl (by simp [Value.oneCell']) ?_; intro w6 b26 u6))
      refine bodyPost_ret (results_cell1t rfl _ _ _ ⟨w.heap.size, 0, none⟩ _ (.int .i64 8) rfl (BxS.load (t := 27) b26 Try.underlying27 Try.info_nt) rfl) rfl ?_
      exact ⟨rfl, grown_far (grown_trans (grown_far (grown_trans (grown_trans y1 y2) y3) u4 (fun q e => by have e := Option.some.inj e; have := y2.size; omega)) y5) u6 (fun q e => by have e := Option.some.inj e; omega)⟩
end
end Go.Proofs.Ytnimehkfnpepfaa
