import Derived.Test.YtnimehkfnpepfaaVDb
namespace Go.Proofs.Ytnimehkfnpepfaa
open Go.RowKit
set_option maxRecDepth 100000
set_option linter.unusedVariables false
set_option linter.unusedSimpArgs false


set_option maxHeartbeats 16000000 in
theorem nt_k3 {u1 u4 u5 u6 u7 u8 u9 u10 u11 u12 u13 u14 u15 u16 u17 u18 u19 u20 u21 u22 u23 u24 u25 u26 u27 u28 u29 u30 u31 u32 u33 u34 u35 u36 u37 u38 u39 u40 u41 u42 u43 u44 u45 u46 u47 u48 u49 u50 u51 u52 u53 u54 u55 u56 u57 u58 u59 u60 u61 u62 u63 u64 u65 u66 : Value} (w0 w wS : World) (gr g2 g3 id : Nat) (c : List Nat) (hR : Rdr w0 w gr c) (b3 : BxS w g3 27 (ntA (3 : Nat) (id : Int) ByteArray.empty 0 0 0 (.slice none 0 0) (.slice none 0 0) 0 0)) (b2 : BxS w g2 27 ntZ) (h23 : g2 ≠ g3) (h2 : wS.heap.size ≤ g2) (h3 : wS.heap.size ≤ g3) (h02 : w0.heap.size ≤ wS.heap.size) (G : wS.grownBy w (some gr)) (hcl : c.length ≤ 2000) (hl : ¬ c.length < 8) :
    Code.wp Try.prog (tailR 2 (Try.f89.body.getD .skip)) (bodyPost Try.prog Try.f89 (NoteA w0 wS gr (kindR 3 id c))) (Act.mk (List.toArray ((.pointer (some ⟨gr, 0, none⟩)) :: u1 :: (.pointer (some ⟨g2, 0, none⟩)) :: (.pointer (some ⟨g3, 0, none⟩)) :: u4 :: u5 :: u6 :: u7 :: u8 :: u9 :: u10 :: u11 :: u12 :: u13 :: u14 :: u15 :: u16 :: u17 :: u18 :: u19 :: u20 :: u21 :: u22 :: u23 :: u24 :: u25 :: u26 :: u27 :: u28 :: u29 :: u30 :: u31 :: u32 :: u33 :: u34 :: u35 :: u36 :: u37 :: u38 :: u39 :: u40 :: u41 :: u42 :: u43 :: u44 :: u45 :: u46 :: u47 :: u48 :: u49 :: u50 :: u51 :: u52 :: u53 :: u54 :: u55 :: u56 :: u57 :: u58 :: u59 :: u60 :: u61 :: u62 :: u63 :: u64 :: u65 :: u66 :: [])) []) w := by
  conv => enter [2]; whnf
  unfold ntA at b3
  have x0 : w.cell? ⟨g3, 0, none⟩ = some (.int .i64 ((3 : Nat) : Int)) := b3.cell 0 (by show 0 < 10; decide)
  refine wp_seq_k fun K1 hK1 => ?_
  have HK1 : Hid _ := hK1
  clear hK1
  have s0 : True := trivial
  go_wp2_with (first
    | (go_at_call 110; have _t := s0; clear s0; refine (number_ok w0 w gr 4 (c) hR (by omega) (by first | omega | (rw [List.length_drop]; omega))).mono ?_; rintro e w1 ⟨rfl, hR1, yw1⟩; have b31 := b3.keep yw1 (hR.ne b3); have b21 := b2.keep yw1 (hR.ne b2); have G1 := grown_trans G yw1; have xw2 : w1.cell? ⟨g3, 3, none⟩ = some _ := b31.cell 3 (by show 3 < 10; decide); have fw2 := b31.free 3; have b32 := b31.set 3 (.int .i64 ((hdV c 4 : Nat) : Int)); have uw2 := grown_set w1 g3 3 (.int .i64 ((hdV c 4 : Nat) : Int)); generalize hww2 : w1.setCell ⟨g3, 3, none⟩ (.int .i64 ((hdV c 4 : Nat) : Int)) = w2 at b32 uw2; have hR2 := hR1.bx b31 uw2 (by omega); have b22 := b21.keep uw2 (fun e => h23 (Option.some.inj e)); have G2 := grown_mine G1 uw2 (fun q e => .inr (by have e := Option.some.inj e; omega)); have s1 : True := trivial)
    | (go_at_call 110; have _t := s1; clear s1; refine (number_ok w0 w2 gr 4 (c.drop 4) hR2 (by omega) (by first | omega | (rw [List.length_drop]; omega))).mono ?_; rintro e w3 ⟨rfl, hR3, yw3⟩; have b33 := b32.keep yw3 (hR2.ne b32); have b23 := b22.keep yw3 (hR2.ne b22); have G3 := grown_trans G2 yw3; have xw4 : w3.cell? ⟨g3, 4, none⟩ = some _ := b33.cell 4 (by show 4 < 10; decide); have fw4 := b33.free 4; have b34 := b33.set 4 (.int .i64 ((hdV (c.drop 4) 4 : Nat) : Int)); have uw4 := grown_set w3 g3 4 (.int .i64 ((hdV (c.drop 4) 4 : Nat) : Int)); generalize hww4 : w3.setCell ⟨g3, 4, none⟩ (.int .i64 ((hdV (c.drop 4) 4 : Nat) : Int)) = w4 at b34 uw4; have hR4 := hR3.bx b33 uw4 (by omega); have b24 := b23.keep uw4 (fun e => h23 (Option.some.inj e)); have G4 := grown_mine G3 uw4 (fun q e => .inr (by have e := Option.some.inj e; omega))))
  refine HK1.out _ _ ?_
  clear HK1
  rw [List.drop_drop] at hR4
  refine nt_t20 _ w4 g2 g3 3 id ByteArray.empty (hdV c 4 : Nat) (hdV (c.drop 4) 4 : Nat) 0 none 0 0 none 0 0 0 0 b34 b24 ?_
  intro w' u
  show NoteA _ _ _ _ _ _
  rw [show kindR 3 id c = some (⟨3, id, [], hdV c 4, hdV (c.drop 4) 4, 0, [], [], 0, 0⟩, c.drop 8) from by unfold kindR; simp [hl]]
  exact ⟨⟨_, rfl, _, _, _, _, _, _, rfl, Ans.nil _ _, OwGp.nil _ _⟩, hR4.bx b24 u (by omega), grown_mine G4 u (fun q e => .inr (by have e := Option.some.inj e; omega))⟩

set_option maxHeartbeats 16000000 in
theorem nt_n3 {u1 u4 u5 u6 u7 u8 u9 u10 u11 u12 u13 u14 u15 u16 u17 u18 u19 u20 u21 u22 u23 u24 u25 u26 u27 u28 u29 u30 u31 u32 u33 u34 u35 u36 u37 u38 u39 u40 u41 u42 u43 u44 u45 u46 u47 u48 u49 u50 u51 u52 u53 u54 u55 u56 u57 u58 u59 u60 u61 u62 u63 u64 u65 u66 : Value} (w0 w wS : World) (gr g2 g3 id : Nat) (c : List Nat) (hR : Rdr w0 w gr c) (b3 : BxS w g3 27 (ntA (3 : Nat) (id : Int) ByteArray.empty 0 0 0 (.slice none 0 0) (.slice none 0 0) 0 0)) (b2 : BxS w g2 27 ntZ) (h23 : g2 ≠ g3) (h2 : wS.heap.size ≤ g2) (h3 : wS.heap.size ≤ g3) (h02 : w0.heap.size ≤ wS.heap.size) (G : wS.grownBy w (some gr)) (hcl : c.length ≤ 2000) (hl : c.length < 8) :
    Code.wp Try.prog (tailR 2 (Try.f89.body.getD .skip)) (bodyPost Try.prog Try.f89 (NoteA w0 wS gr (kindR 3 id c))) (Act.mk (List.toArray ((.pointer (some ⟨gr, 0, none⟩)) :: u1 :: (.pointer (some ⟨g2, 0, none⟩)) :: (.pointer (some ⟨g3, 0, none⟩)) :: u4 :: u5 :: u6 :: u7 :: u8 :: u9 :: u10 :: u11 :: u12 :: u13 :: u14 :: u15 :: u16 :: u17 :: u18 :: u19 :: u20 :: u21 :: u22 :: u23 :: u24 :: u25 :: u26 :: u27 :: u28 :: u29 :: u30 :: u31 :: u32 :: u33 :: u34 :: u35 :: u36 :: u37 :: u38 :: u39 :: u40 :: u41 :: u42 :: u43 :: u44 :: u45 :: u46 :: u47 :: u48 :: u49 :: u50 :: u51 :: u52 :: u53 :: u54 :: u55 :: u56 :: u57 :: u58 :: u59 :: u60 :: u61 :: u62 :: u63 :: u64 :: u65 :: u66 :: [])) []) w := by
  conv => enter [2]; whnf
  unfold ntA at b3
  have x0 : w.cell? ⟨g3, 0, none⟩ = some (.int .i64 ((3 : Nat) : Int)) := b3.cell 0 (by show 0 < 10; decide)
  by_cases h4 : c.length < 4
  · have s0 : True := trivial
    go_wp2_with (go_at_call 110; have _t := s0; clear s0; refine (number_no w0 w gr 4 (c) hR (by omega) (by first | omega | (rw [List.length_drop]; omega))).mono ?_; rintro e w1 ⟨rfl, hww1⟩; have hww1 := hww1.symm; subst hww1)
    refine ⟨rfl, ?_⟩
    show NoteA _ _ _ _ _ _
    rw [show kindR 3 id c = none from by unfold kindR; simp [hl]]
    exact ⟨⟨_, rfl⟩, G⟩
  · have s0 : True := trivial
    go_wp2_with (first
      | (go_at_call 110; have _t := s0; clear s0; refine (number_ok w0 w gr 4 (c) hR (by omega) (by first | omega | (rw [List.length_drop]; omega))).mono ?_; rintro e w1 ⟨rfl, hR1, yw1⟩; have b31 := b3.keep yw1 (hR.ne b3); have b21 := b2.keep yw1 (hR.ne b2); have G1 := grown_trans G yw1; have xw2 : w1.cell? ⟨g3, 3, none⟩ = some _ := b31.cell 3 (by show 3 < 10; decide); have fw2 := b31.free 3; have b32 := b31.set 3 (.int .i64 ((hdV c 4 : Nat) : Int)); have uw2 := grown_set w1 g3 3 (.int .i64 ((hdV c 4 : Nat) : Int)); generalize hww2 : w1.setCell ⟨g3, 3, none⟩ (.int .i64 ((hdV c 4 : Nat) : Int)) = w2 at b32 uw2; have hR2 := hR1.bx b31 uw2 (by omega); have b22 := b21.keep uw2 (fun e => h23 (Option.some.inj e)); have G2 := grown_mine G1 uw2 (fun q e => .inr (by have e := Option.some.inj e; omega)); have s1 : True := trivial)
      | (go_at_call 110; have _t := s1; clear s1; refine (number_no w0 w2 gr 4 (c.drop 4) hR2 (by omega) (by first | omega | (rw [List.length_drop]; omega))).mono ?_; rintro e w3 ⟨rfl, hww3⟩; have hww3 := hww3.symm; subst hww3))
    refine ⟨rfl, ?_⟩
    show NoteA _ _ _ _ _ _
    rw [show kindR 3 id c = none from by unfold kindR; simp [hl]]
    exact ⟨⟨_, rfl⟩, G2⟩

set_option maxHeartbeats 16000000 in
theorem nt_k5 {u1 u4 u5 u6 u7 u8 u9 u10 u11 u12 u13 u14 u15 u16 u17 u18 u19 u20 u21 u22 u23 u24 u25 u26 u27 u28 u29 u30 u31 u32 u33 u34 u35 u36 u37 u38 u39 u40 u41 u42 u43 u44 u45 u46 u47 u48 u49 u50 u51 u52 u53 u54 u55 u56 u57 u58 u59 u60 u61 u62 u63 u64 u65 u66 : Value} (w0 w wS : World) (gr g2 g3 id : Nat) (c : List Nat) (hR : Rdr w0 w gr c) (b3 : BxS w g3 27 (ntA (5 : Nat) (id : Int) ByteArray.empty 0 0 0 (.slice none 0 0) (.slice none 0 0) 0 0)) (b2 : BxS w g2 27 ntZ) (h23 : g2 ≠ g3) (h2 : wS.heap.size ≤ g2) (h3 : wS.heap.size ≤ g3) (h02 : w0.heap.size ≤ wS.heap.size) (G : wS.grownBy w (some gr)) (hcl : c.length ≤ 2000) (hl : ¬ c.length < 1) :
    Code.wp Try.prog (tailR 2 (Try.f89.body.getD .skip)) (bodyPost Try.prog Try.f89 (NoteA w0 wS gr (kindR 5 id c))) (Act.mk (List.toArray ((.pointer (some ⟨gr, 0, none⟩)) :: u1 :: (.pointer (some ⟨g2, 0, none⟩)) :: (.pointer (some ⟨g3, 0, none⟩)) :: u4 :: u5 :: u6 :: u7 :: u8 :: u9 :: u10 :: u11 :: u12 :: u13 :: u14 :: u15 :: u16 :: u17 :: u18 :: u19 :: u20 :: u21 :: u22 :: u23 :: u24 :: u25 :: u26 :: u27 :: u28 :: u29 :: u30 :: u31 :: u32 :: u33 :: u34 :: u35 :: u36 :: u37 :: u38 :: u39 :: u40 :: u41 :: u42 :: u43 :: u44 :: u45 :: u46 :: u47 :: u48 :: u49 :: u50 :: u51 :: u52 :: u53 :: u54 :: u55 :: u56 :: u57 :: u58 :: u59 :: u60 :: u61 :: u62 :: u63 :: u64 :: u65 :: u66 :: [])) []) w := by
  conv => enter [2]; whnf
  unfold ntA at b3
  have x0 : w.cell? ⟨g3, 0, none⟩ = some (.int .i64 ((5 : Nat) : Int)) := b3.cell 0 (by show 0 < 10; decide)
  refine wp_seq_k fun K1 hK1 => ?_
  have HK1 : Hid _ := hK1
  clear hK1
  have s0 : True := trivial
  go_wp2_with (go_at_call 110; have _t := s0; clear s0; refine (number_ok w0 w gr 1 (c) hR (by omega) (by first | omega | (rw [List.length_drop]; omega))).mono ?_; rintro e w1 ⟨rfl, hR1, yw1⟩; have b31 := b3.keep yw1 (hR.ne b3); have b21 := b2.keep yw1 (hR.ne b2); have G1 := grown_trans G yw1; have xw2 : w1.cell? ⟨g3, 9, none⟩ = some _ := b31.cell 9 (by show 9 < 10; decide); have fw2 := b31.free 9; have b32 := b31.set 9 (.int .i64 ((hdV c 1 : Nat) : Int)); have uw2 := grown_set w1 g3 9 (.int .i64 ((hdV c 1 : Nat) : Int)); generalize hww2 : w1.setCell ⟨g3, 9, none⟩ (.int .i64 ((hdV c 1 : Nat) : Int)) = w2 at b32 uw2; have hR2 := hR1.bx b31 uw2 (by omega); have b22 := b21.keep uw2 (fun e => h23 (Option.some.inj e)); have G2 := grown_mine G1 uw2 (fun q e => .inr (by have e := Option.some.inj e; omega)))
  refine HK1.out _ _ ?_
  clear HK1
  refine nt_t20 _ w2 g2 g3 5 id ByteArray.empty 0 0 0 none 0 0 none 0 0 0 (hdV c 1 : Nat) b32 b22 ?_
  intro w' u
  show NoteA _ _ _ _ _ _
  rw [show kindR 5 id c = some (⟨5, id, [], 0, 0, 0, [], [], 0, hdV c 1⟩, c.drop 1) from by unfold kindR; rw [if_neg (by decide), if_neg (by decide), if_neg (by decide), if_neg (by decide), if_pos rfl, if_neg hl]]
  exact ⟨⟨_, rfl, _, _, _, _, _, _, rfl, Ans.nil _ _, OwGp.nil _ _⟩, hR2.bx b22 u (by omega), grown_mine G2 u (fun q e => .inr (by have e := Option.some.inj e; omega))⟩

set_option maxHeartbeats 16000000 in
theorem nt_n5 {u1 u4 u5 u6 u7 u8 u9 u10 u11 u12 u13 u14 u15 u16 u17 u18 u19 u20 u21 u22 u23 u24 u25 u26 u27 u28 u29 u30 u31 u32 u33 u34 u35 u36 u37 u38 u39 u40 u41 u42 u43 u44 u45 u46 u47 u48 u49 u50 u51 u52 u53 u54 u55 u56 u57 u58 u59 u60 u61 u62 u63 u64 u65 u66 : Value} (w0 w wS : World) (gr g2 g3 id : Nat) (c : List Nat) (hR : Rdr w0 w gr c) (b3 : BxS w g3 27 (ntA (5 : Nat) (id : Int) ByteArray.empty 0 0 0 (.slice none 0 0) (.slice none 0 0) 0 0)) (b2 : BxS w g2 27 ntZ) (h23 : g2 ≠ g3) (h2 : wS.heap.size ≤ g2) (h3 : wS.heap.size ≤ g3) (h02 : w0.heap.size ≤ wS.heap.size) (G : wS.grownBy w (some gr)) (hcl : c.length ≤ 2000) (hl : c.length < 1) :
    Code.wp Try.prog (tailR 2 (Try.f89.body.getD .skip)) (bodyPost Try.prog Try.f89 (NoteA w0 wS gr (kindR 5 id c))) (Act.mk (List.toArray ((.pointer (some ⟨gr, 0, none⟩)) :: u1 :: (.pointer (some ⟨g2, 0, none⟩)) :: (.pointer (some ⟨g3, 0, none⟩)) :: u4 :: u5 :: u6 :: u7 :: u8 :: u9 :: u10 :: u11 :: u12 :: u13 :: u14 :: u15 :: u16 :: u17 :: u18 :: u19 :: u20 :: u21 :: u22 :: u23 :: u24 :: u25 :: u26 :: u27 :: u28 :: u29 :: u30 :: u31 :: u32 :: u33 :: u34 :: u35 :: u36 :: u37 :: u38 :: u39 :: u40 :: u41 :: u42 :: u43 :: u44 :: u45 :: u46 :: u47 :: u48 :: u49 :: u50 :: u51 :: u52 :: u53 :: u54 :: u55 :: u56 :: u57 :: u58 :: u59 :: u60 :: u61 :: u62 :: u63 :: u64 :: u65 :: u66 :: [])) []) w := by
  conv => enter [2]; whnf
  unfold ntA at b3
  have x0 : w.cell? ⟨g3, 0, none⟩ = some (.int .i64 ((5 : Nat) : Int)) := b3.cell 0 (by show 0 < 10; decide)
  have s0 : True := trivial
  go_wp2_with (go_at_call 110; have _t := s0; clear s0; refine (number_no w0 w gr 1 (c) hR (by omega) (by first | omega | (rw [List.length_drop]; omega))).mono ?_; rintro e w1 ⟨rfl, hww1⟩; have hww1 := hww1.symm; subst hww1)
  refine ⟨rfl, ?_⟩
  show NoteA _ _ _ _ _ _
  rw [show kindR 5 id c = none from by unfold kindR; rw [if_neg (by decide), if_neg (by decide), if_neg (by decide), if_neg (by decide), if_pos rfl, if_pos hl]]
  exact ⟨⟨_, rfl⟩, G⟩

set_option maxHeartbeats 16000000 in
theorem nt_k6 {u1 u4 u5 u6 u7 u8 u9 u10 u11 u12 u13 u14 u15 u16 u17 u18 u19 u20 u21 u22 u23 u24 u25 u26 u27 u28 u29 u30 u31 u32 u33 u34 u35 u36 u37 u38 u39 u40 u41 u42 u43 u44 u45 u46 u47 u48 u49 u50 u51 u52 u53 u54 u55 u56 u57 u58 u59 u60 u61 u62 u63 u64 u65 u66 : Value} (w0 w wS : World) (gr g2 g3 id : Nat) (c : List Nat) (hR : Rdr w0 w gr c) (b3 : BxS w g3 27 (ntA (6 : Nat) (id : Int) ByteArray.empty 0 0 0 (.slice none 0 0) (.slice none 0 0) 0 0)) (b2 : BxS w g2 27 ntZ) (h23 : g2 ≠ g3) (h2 : wS.heap.size ≤ g2) (h3 : wS.heap.size ≤ g3) (h02 : w0.heap.size ≤ wS.heap.size) (G : wS.grownBy w (some gr)) (hcl : c.length ≤ 2000) (hl : ¬ c.length < 1) :
    Code.wp Try.prog (tailR 2 (Try.f89.body.getD .skip)) (bodyPost Try.prog Try.f89 (NoteA w0 wS gr (kindR 6 id c))) (Act.mk (List.toArray ((.pointer (some ⟨gr, 0, none⟩)) :: u1 :: (.pointer (some ⟨g2, 0, none⟩)) :: (.pointer (some ⟨g3, 0, none⟩)) :: u4 :: u5 :: u6 :: u7 :: u8 :: u9 :: u10 :: u11 :: u12 :: u13 :: u14 :: u15 :: u16 :: u17 :: u18 :: u19 :: u20 :: u21 :: u22 :: u23 :: u24 :: u25 :: u26 :: u27 :: u28 :: u29 :: u30 :: u31 :: u32 :: u33 :: u34 :: u35 :: u36 :: u37 :: u38 :: u39 :: u40 :: u41 :: u42 :: u43 :: u44 :: u45 :: u46 :: u47 :: u48 :: u49 :: u50 :: u51 :: u52 :: u53 :: u54 :: u55 :: u56 :: u57 :: u58 :: u59 :: u60 :: u61 :: u62 :: u63 :: u64 :: u65 :: u66 :: [])) []) w := by
  conv => enter [2]; whnf
  unfold ntA at b3
  have x0 : w.cell? ⟨g3, 0, none⟩ = some (.int .i64 ((6 : Nat) : Int)) := b3.cell 0 (by show 0 < 10; decide)
  refine wp_seq_k fun K1 hK1 => ?_
  have HK1 : Hid _ := hK1
  clear hK1
  have s0 : True := trivial
  go_wp2_with (go_at_call 110; have _t := s0; clear s0; refine (number_ok w0 w gr 1 (c) hR (by omega) (by first | omega | (rw [List.length_drop]; omega))).mono ?_; rintro e w1 ⟨rfl, hR1, yw1⟩; have b31 := b3.keep yw1 (hR.ne b3); have b21 := b2.keep yw1 (hR.ne b2); have G1 := grown_trans G yw1; have xw2 : w1.cell? ⟨g3, 8, none⟩ = some _ := b31.cell 8 (by show 8 < 10; decide); have fw2 := b31.free 8; have b32 := b31.set 8 (.int .i64 ((hdV c 1 : Nat) : Int)); have uw2 := grown_set w1 g3 8 (.int .i64 ((hdV c 1 : Nat) : Int)); generalize hww2 : w1.setCell ⟨g3, 8, none⟩ (.int .i64 ((hdV c 1 : Nat) : Int)) = w2 at b32 uw2; have hR2 := hR1.bx b31 uw2 (by omega); have b22 := b21.keep uw2 (fun e => h23 (Option.some.inj e)); have G2 := grown_mine G1 uw2 (fun q e => .inr (by have e := Option.some.inj e; omega)))
  refine HK1.out _ _ ?_
  clear HK1
  refine nt_t20 _ w2 g2 g3 6 id ByteArray.empty 0 0 0 none 0 0 none 0 0 (hdV c 1 : Nat) 0 b32 b22 ?_
  intro w' u
  show NoteA _ _ _ _ _ _
  rw [show kindR 6 id c = some (⟨6, id, [], 0, 0, 0, [], [], hdV c 1, 0⟩, c.drop 1) from by unfold kindR; rw [if_neg (by decide), if_neg (by decide), if_neg (by decide), if_neg (by decide), if_neg (by decide), if_pos rfl, if_neg hl]]
  exact ⟨⟨_, rfl, _, _, _, _, _, _, rfl, Ans.nil _ _, OwGp.nil _ _⟩, hR2.bx b22 u (by omega), grown_mine G2 u (fun q e => .inr (by have e := Option.some.inj e; omega))⟩

set_option maxHeartbeats 16000000 in
theorem nt_n6 {u1 u4 u5 u6 u7 u8 u9 u10 u11 u12 u13 u14 u15 u16 u17 u18 u19 u20 u21 u22 u23 u24 u25 u26 u27 u28 u29 u30 u31 u32 u33 u34 u35 u36 u37 u38 u39 u40 u41 u42 u43 u44 u45 u46 u47 u48 u49 u50 u51 u52 u53 u54 u55 u56 u57 u58 u59 u60 u61 u62 u63 u64 u65 u66 : Value} (w0 w wS : World) (gr g2 g3 id : Nat) (c : List Nat) (hR : Rdr w0 w gr c) (b3 : BxS w g3 27 (ntA (6 : Nat) (id : Int) ByteArray.empty 0 0 0 (.slice none 0 0) (.slice none 0 0) 0 0)) (b2 : BxS w g2 27 ntZ) (h23 : g2 ≠ g3) (h2 : wS.heap.size ≤ g2) (h3 : wS.heap.size ≤ g3) (h02 : w0.heap.size ≤ wS.heap.size) (G : wS.grownBy w (some gr)) (hcl : c.length ≤ 2000) (hl : c.length < 1) :
    Code.wp Try.prog (tailR 2 (Try.f89.body.getD .skip)) (bodyPost Try.prog Try.f89 (NoteA w0 wS gr (kindR 6 id c))) (Act.mk (List.toArray ((.pointer (some ⟨gr, 0, none⟩)) :: u1 :: (.pointer (some ⟨g2, 0, none⟩)) :: (.pointer (some ⟨g3, 0, none⟩)) :: u4 :: u5 :: u6 :: u7 :: u8 :: u9 :: u10 :: u11 :: u12 :: u13 :: u14 :: u15 :: u16 :: u17 :: u18 :: u19 :: u20 :: u21 :: u22 :: u23 :: u24 :: u25 :: u26 :: u27 :: u28 :: u29 :: u30 :: u31 :: u32 :: u33 :: u34 :: u35 :: u36 :: u37 :: u38 :: u39 :: u40 :: u41 :: u42 :: u43 :: u44 :: u45 :: u46 :: u47 :: u48 :: u49 :: u50 :: u51 :: u52 :: u53 :: u54 :: u55 :: u56 :: u57 :: u58 :: u59 :: u60 :: u61 :: u62 :: u63 :: u64 :: u65 :: u66 :: [])) []) w := by
  conv => enter [2]; whnf
  unfold ntA at b3
  have x0 : w.cell? ⟨g3, 0, none⟩ = some (.int .i64 ((6 : Nat) : Int)) := b3.cell 0 (by show 0 < 10; decide)
  have s0 : True := trivial
  go_wp2_with (go_at_call 110; have _t := s0; clear s0; refine (number_no w0 w gr 1 (c) hR (by omega) (by first | omega | (rw [List.length_drop]; omega))).mono ?_; rintro e w1 ⟨rfl, hww1⟩; have hww1 := hww1.symm; subst hww1)
  refine ⟨rfl, ?_⟩
  show NoteA _ _ _ _ _ _
  rw [show kindR 6 id c = none from by unfold kindR; rw [if_neg (by decide), if_neg (by decide), if_neg (by decide), if_neg (by decide), if_neg (by decide), if_pos rfl, if_pos hl]]
  exact ⟨⟨_, rfl⟩, G⟩

set_option maxHeartbeats 16000000 in
theorem nt_k0 {u1 u4 u5 u6 u7 u8 u9 u10 u11 u12 u13 u14 u15 u16 u17 u18 u19 u20 u21 u22 u23 u24 u25 u26 u27 u28 u29 u30 u31 u32 u33 u34 u35 u36 u37 u38 u39 u40 u41 u42 u43 u44 u45 u46 u47 u48 u49 u50 u51 u52 u53 u54 u55 u56 u57 u58 u59 u60 u61 u62 u63 u64 u65 u66 : Value} (w0 w wS : World) (gr g2 g3 id : Nat) (k : Nat) (hk : k = 0 ∨ 6 < k) (c : List Nat) (hR : Rdr w0 w gr c) (b3 : BxS w g3 27 (ntA (k : Nat) (id : Int) ByteArray.empty 0 0 0 (.slice none 0 0) (.slice none 0 0) 0 0)) (b2 : BxS w g2 27 ntZ) (h23 : g2 ≠ g3) (h2 : wS.heap.size ≤ g2) (h3 : wS.heap.size ≤ g3) (h02 : w0.heap.size ≤ wS.heap.size) (G : wS.grownBy w (some gr)) (hcl : c.length ≤ 2000)  :
    Code.wp Try.prog (tailR 2 (Try.f89.body.getD .skip)) (bodyPost Try.prog Try.f89 (NoteA w0 wS gr (kindR k id c))) (Act.mk (List.toArray ((.pointer (some ⟨gr, 0, none⟩)) :: u1 :: (.pointer (some ⟨g2, 0, none⟩)) :: (.pointer (some ⟨g3, 0, none⟩)) :: u4 :: u5 :: u6 :: u7 :: u8 :: u9 :: u10 :: u11 :: u12 :: u13 :: u14 :: u15 :: u16 :: u17 :: u18 :: u19 :: u20 :: u21 :: u22 :: u23 :: u24 :: u25 :: u26 :: u27 :: u28 :: u29 :: u30 :: u31 :: u32 :: u33 :: u34 :: u35 :: u36 :: u37 :: u38 :: u39 :: u40 :: u41 :: u42 :: u43 :: u44 :: u45 :: u46 :: u47 :: u48 :: u49 :: u50 :: u51 :: u52 :: u53 :: u54 :: u55 :: u56 :: u57 :: u58 :: u59 :: u60 :: u61 :: u62 :: u63 :: u64 :: u65 :: u66 :: [])) []) w := by
  conv => enter [2]; whnf
  unfold ntA at b3
  have x0 : w.cell? ⟨g3, 0, none⟩ = some (.int .i64 ((k : Nat) : Int)) := b3.cell 0 (by show 0 < 10; decide)
  have n1 : ¬ (k : Int) = 1 := by omega
  have n2 : ¬ (k : Int) = 2 := by omega
  have n3 : ¬ (k : Int) = 3 := by omega
  have n4 : ¬ (k : Int) = 4 := by omega
  have n5 : ¬ (k : Int) = 5 := by omega
  have n6 : ¬ (k : Int) = 6 := by omega
  refine wp_seq_k fun K1 hK1 => ?_
  have HK1 : Hid _ := hK1
  clear hK1
  go_wp2
  refine HK1.out _ _ ?_
  clear HK1
  refine nt_t20 _ w g2 g3 k id ByteArray.empty 0 0 0 none 0 0 none 0 0 0 0 b3 b2 ?_
  intro w' u
  show NoteA _ _ _ _ _ _
  rw [show kindR k id c = some (⟨k, id, [], 0, 0, 0, [], [], 0, 0⟩, c) from by unfold kindR; rw [if_neg (by omega), if_neg (by omega), if_neg (by omega), if_neg (by omega), if_neg (by omega), if_neg (by omega)]]
  exact ⟨⟨_, rfl, _, _, _, _, _, _, rfl, Ans.nil _ _, OwGp.nil _ _⟩, hR.bx b2 u (by omega), grown_mine G u (fun q e => .inr (by have e := Option.some.inj e; omega))⟩
end Go.Proofs.Ytnimehkfnpepfaa
