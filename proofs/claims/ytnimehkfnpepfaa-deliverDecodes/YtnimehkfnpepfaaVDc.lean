import Derived.Test.YtnimehkfnpepfaaVDb
namespace Go.Proofs.Ytnimehkfnpepfaa
open Go.RowKit
set_option maxRecDepth 100000
set_option linter.unusedVariables false
set_option linter.unusedSimpArgs false


set_option maxHeartbeats 16000000 in
theorem nt_k1 {u1 u4 u5 u6 u7 u8 u9 u10 u11 u12 u13 u14 u15 u16 u17 u18 u19 u20 u21 u22 u23 u24 u25 u26 u27 u28 u29 u30 u31 u32 u33 u34 u35 u36 u37 u38 u39 u40 u41 u42 u43 u44 u45 u46 u47 u48 u49 u50 u51 u52 u53 u54 u55 u56 u57 u58 u59 u60 u61 u62 u63 u64 u65 u66 : Value} (w0 w wS : World) (gr g2 g3 id : Nat) (c : List Nat) (hR : Rdr w0 w gr c) (b3 : BxS w g3 27 (ntA (1 : Nat) (id : Int) ByteArray.empty 0 0 0 (.slice none 0 0) (.slice none 0 0) 0 0)) (b2 : BxS w g2 27 ntZ) (h23 : g2 ≠ g3) (h2 : wS.heap.size ≤ g2) (h3 : wS.heap.size ≤ g3) (h02 : w0.heap.size ≤ wS.heap.size) (G : wS.grownBy w (some gr)) (hcl : c.length ≤ 2000) (hl : ¬ c.length < 4) :
    Code.wp Try.prog (tailR 2 (Try.f89.body.getD .skip)) (bodyPost Try.prog Try.f89 (NoteA w0 wS gr (kindR 1 id c))) (Act.mk (List.toArray ((.pointer (some ⟨gr, 0, none⟩)) :: u1 :: (.pointer (some ⟨g2, 0, none⟩)) :: (.pointer (some ⟨g3, 0, none⟩)) :: u4 :: u5 :: u6 :: u7 :: u8 :: u9 :: u10 :: u11 :: u12 :: u13 :: u14 :: u15 :: u16 :: u17 :: u18 :: u19 :: u20 :: u21 :: u22 :: u23 :: u24 :: u25 :: u26 :: u27 :: u28 :: u29 :: u30 :: u31 :: u32 :: u33 :: u34 :: u35 :: u36 :: u37 :: u38 :: u39 :: u40 :: u41 :: u42 :: u43 :: u44 :: u45 :: u46 :: u47 :: u48 :: u49 :: u50 :: u51 :: u52 :: u53 :: u54 :: u55 :: u56 :: u57 :: u58 :: u59 :: u60 :: u61 :: u62 :: u63 :: u64 :: u65 :: u66 :: [])) []) w := by
  conv => enter [2]; whnf
  unfold ntA at b3
  have x0 : w.cell? ⟨g3, 0, none⟩ = some (.int .i64 ((1 : Nat) : Int)) := b3.cell 0 (by show 0 < 10; decide)
  refine wp_seq_k fun K1 hK1 => ?_
  have HK1 : Hid _ := hK1
  clear hK1
  have s0 : True := trivial
  go_wp2_with (first
    | (go_at_call 110; have _t := s0; clear s0; refine (number_ok w0 w gr 4 (c) hR (by omega) (by first | omega | (rw [List.length_drop]; omega))).mono ?_; rintro e w1 ⟨rfl, hR1, yw1⟩; have b31 := b3.keep yw1 (hR.ne b3); have b21 := b2.keep yw1 (hR.ne b2); have G1 := grown_trans G yw1; have xw2 : w1.cell? ⟨g3, 3, none⟩ = some _ := b31.cell 3 (by show 3 < 10; decide); have fw2 := b31.free 3; have b32 := b31.set 3 (.int .i64 ((hdV c 4 : Nat) : Int)); have uw2 := grown_set w1 g3 3 (.int .i64 ((hdV c 4 : Nat) : Int)); generalize hww2 : w1.setCell ⟨g3, 3, none⟩ (.int .i64 ((hdV c 4 : Nat) : Int)) = w2 at b32 uw2; have hR2 := hR1.bx b31 uw2 (by omega); have b22 := b21.keep uw2 (fun e => h23 (Option.some.inj e)); have G2 := grown_mine G1 uw2 (fun q e => .inr (by have e := Option.some.inj e; omega)); have s1 : True := trivial)
    | (go_at_call 111; have _t := s1; clear s1; refine (rest_any w0 w2 gr (c.drop 4) hR2 (by rw [List.length_drop]; omega)).mono ?_; rintro e w3 ⟨a5, c5, rfl, hA5, hR3, yw3⟩; rw [List.length_drop] at hA5; have b33 := b32.keep yw3 (hR2.ne b32); have b23 := b22.keep yw3 (hR2.ne b22); have G3 := grown_trans G2 yw3; have hcv := str_any w3 a5 _ c5 (c.drop 4) hA5.rd; have xw4 : w3.cell? ⟨g3, 2, none⟩ = some _ := b33.cell 2 (by show 2 < 10; decide); have fw4 := b33.free 2; have b34 := b33.set 2 (.string (strB (c.drop 4))); have uw4 := grown_set w3 g3 2 (.string (strB (c.drop 4))); generalize hww4 : w3.setCell ⟨g3, 2, none⟩ (.string (strB (c.drop 4))) = w4 at b34 uw4; have hR4 := hR3.bx b33 uw4 (by omega); have b24 := b23.keep uw4 (fun e => h23 (Option.some.inj e)); have G4 := grown_mine G3 uw4 (fun q e => .inr (by have e := Option.some.inj e; omega))))
  refine HK1.out _ _ ?_
  clear HK1
  refine nt_t20 _ w4 g2 g3 1 id (strB (c.drop 4)) (hdV c 4 : Nat) 0 0 none 0 0 none 0 0 0 0 b34 b24 ?_
  intro w' u
  show NoteA _ _ _ _ _ _
  rw [show kindR 1 id c = some (⟨1, id, c.drop 4, hdV c 4, 0, 0, [], [], 0, 0⟩, []) from by unfold kindR; simp [hl]]
  exact ⟨⟨_, rfl, _, _, _, _, _, _, rfl, Ans.nil _ _, OwGp.nil _ _⟩, hR4.bx b24 u (by omega), grown_mine G4 u (fun q e => .inr (by have e := Option.some.inj e; omega))⟩

set_option maxHeartbeats 16000000 in
theorem nt_n1 {u1 u4 u5 u6 u7 u8 u9 u10 u11 u12 u13 u14 u15 u16 u17 u18 u19 u20 u21 u22 u23 u24 u25 u26 u27 u28 u29 u30 u31 u32 u33 u34 u35 u36 u37 u38 u39 u40 u41 u42 u43 u44 u45 u46 u47 u48 u49 u50 u51 u52 u53 u54 u55 u56 u57 u58 u59 u60 u61 u62 u63 u64 u65 u66 : Value} (w0 w wS : World) (gr g2 g3 id : Nat) (c : List Nat) (hR : Rdr w0 w gr c) (b3 : BxS w g3 27 (ntA (1 : Nat) (id : Int) ByteArray.empty 0 0 0 (.slice none 0 0) (.slice none 0 0) 0 0)) (b2 : BxS w g2 27 ntZ) (h23 : g2 ≠ g3) (h2 : wS.heap.size ≤ g2) (h3 : wS.heap.size ≤ g3) (h02 : w0.heap.size ≤ wS.heap.size) (G : wS.grownBy w (some gr)) (hcl : c.length ≤ 2000) (hl : c.length < 4) :
    Code.wp Try.prog (tailR 2 (Try.f89.body.getD .skip)) (bodyPost Try.prog Try.f89 (NoteA w0 wS gr (kindR 1 id c))) (Act.mk (List.toArray ((.pointer (some ⟨gr, 0, none⟩)) :: u1 :: (.pointer (some ⟨g2, 0, none⟩)) :: (.pointer (some ⟨g3, 0, none⟩)) :: u4 :: u5 :: u6 :: u7 :: u8 :: u9 :: u10 :: u11 :: u12 :: u13 :: u14 :: u15 :: u16 :: u17 :: u18 :: u19 :: u20 :: u21 :: u22 :: u23 :: u24 :: u25 :: u26 :: u27 :: u28 :: u29 :: u30 :: u31 :: u32 :: u33 :: u34 :: u35 :: u36 :: u37 :: u38 :: u39 :: u40 :: u41 :: u42 :: u43 :: u44 :: u45 :: u46 :: u47 :: u48 :: u49 :: u50 :: u51 :: u52 :: u53 :: u54 :: u55 :: u56 :: u57 :: u58 :: u59 :: u60 :: u61 :: u62 :: u63 :: u64 :: u65 :: u66 :: [])) []) w := by
  conv => enter [2]; whnf
  unfold ntA at b3
  have x0 : w.cell? ⟨g3, 0, none⟩ = some (.int .i64 ((1 : Nat) : Int)) := b3.cell 0 (by show 0 < 10; decide)
  have s0 : True := trivial
  go_wp2_with (go_at_call 110; have _t := s0; clear s0; refine (number_no w0 w gr 4 (c) hR (by omega) (by first | omega | (rw [List.length_drop]; omega))).mono ?_; rintro e w1 ⟨rfl, hww1⟩; have hww1 := hww1.symm; subst hww1)
  refine ⟨rfl, ?_⟩
  show NoteA _ _ _ _ _ _
  rw [show kindR 1 id c = none from by unfold kindR; simp [hl]]
  exact ⟨⟨_, rfl⟩, G⟩

set_option maxHeartbeats 16000000 in
theorem nt_k2 {u1 u4 u5 u6 u7 u8 u9 u10 u11 u12 u13 u14 u15 u16 u17 u18 u19 u20 u21 u22 u23 u24 u25 u26 u27 u28 u29 u30 u31 u32 u33 u34 u35 u36 u37 u38 u39 u40 u41 u42 u43 u44 u45 u46 u47 u48 u49 u50 u51 u52 u53 u54 u55 u56 u57 u58 u59 u60 u61 u62 u63 u64 u65 u66 : Value} (w0 w wS : World) (gr g2 g3 id : Nat) (c : List Nat) (hR : Rdr w0 w gr c) (b3 : BxS w g3 27 (ntA (2 : Nat) (id : Int) ByteArray.empty 0 0 0 (.slice none 0 0) (.slice none 0 0) 0 0)) (b2 : BxS w g2 27 ntZ) (h23 : g2 ≠ g3) (h2 : wS.heap.size ≤ g2) (h3 : wS.heap.size ≤ g3) (h02 : w0.heap.size ≤ wS.heap.size) (G : wS.grownBy w (some gr)) (hcl : c.length ≤ 2000) (hl : ¬ c.length < 4) :
    Code.wp Try.prog (tailR 2 (Try.f89.body.getD .skip)) (bodyPost Try.prog Try.f89 (NoteA w0 wS gr (kindR 2 id c))) (Act.mk (List.toArray ((.pointer (some ⟨gr, 0, none⟩)) :: u1 :: (.pointer (some ⟨g2, 0, none⟩)) :: (.pointer (some ⟨g3, 0, none⟩)) :: u4 :: u5 :: u6 :: u7 :: u8 :: u9 :: u10 :: u11 :: u12 :: u13 :: u14 :: u15 :: u16 :: u17 :: u18 :: u19 :: u20 :: u21 :: u22 :: u23 :: u24 :: u25 :: u26 :: u27 :: u28 :: u29 :: u30 :: u31 :: u32 :: u33 :: u34 :: u35 :: u36 :: u37 :: u38 :: u39 :: u40 :: u41 :: u42 :: u43 :: u44 :: u45 :: u46 :: u47 :: u48 :: u49 :: u50 :: u51 :: u52 :: u53 :: u54 :: u55 :: u56 :: u57 :: u58 :: u59 :: u60 :: u61 :: u62 :: u63 :: u64 :: u65 :: u66 :: [])) []) w := by
  conv => enter [2]; whnf
  unfold ntA at b3
  have x0 : w.cell? ⟨g3, 0, none⟩ = some (.int .i64 ((2 : Nat) : Int)) := b3.cell 0 (by show 0 < 10; decide)
  refine wp_seq_k fun K1 hK1 => ?_
  have HK1 : Hid _ := hK1
  clear hK1
  have s0 : True := trivial
  go_wp2_with (first
    | (go_at_call 110; have _t := s0; clear s0; refine (number_ok w0 w gr 4 (c) hR (by omega) (by first | omega | (rw [List.length_drop]; omega))).mono ?_; rintro e w1 ⟨rfl, hR1, yw1⟩; have b31 := b3.keep yw1 (hR.ne b3); have b21 := b2.keep yw1 (hR.ne b2); have G1 := grown_trans G yw1; have xw2 : w1.cell? ⟨g3, 5, none⟩ = some _ := b31.cell 5 (by show 5 < 10; decide); have fw2 := b31.free 5; have b32 := b31.set 5 (.int .i64 ((hdV c 4 : Nat) : Int)); have uw2 := grown_set w1 g3 5 (.int .i64 ((hdV c 4 : Nat) : Int)); generalize hww2 : w1.setCell ⟨g3, 5, none⟩ (.int .i64 ((hdV c 4 : Nat) : Int)) = w2 at b32 uw2; have hR2 := hR1.bx b31 uw2 (by omega); have b22 := b21.keep uw2 (fun e => h23 (Option.some.inj e)); have G2 := grown_mine G1 uw2 (fun q e => .inr (by have e := Option.some.inj e; omega)); have s1 : True := trivial)
    | (go_at_call 111; have _t := s1; clear s1; refine (rest_any w0 w2 gr (c.drop 4) hR2 (by rw [List.length_drop]; omega)).mono ?_; rintro e w3 ⟨a5, c5, rfl, hA5, hR3, yw3⟩; rw [List.length_drop] at hA5; have b33 := b32.keep yw3 (hR2.ne b32); have b23 := b22.keep yw3 (hR2.ne b22); have G3 := grown_trans G2 yw3; have xw4 : w3.cell? ⟨g3, 6, none⟩ = some _ := b33.cell 6 (by show 6 < 10; decide); have fw4 := b33.free 6; have b34 := b33.set 6 (.slice a5 (c.length - 4) c5); have uw4 := grown_set w3 g3 6 (.slice a5 (c.length - 4) c5); generalize hww4 : w3.setCell ⟨g3, 6, none⟩ (.slice a5 (c.length - 4) c5) = w4 at b34 uw4; have hR4 := hR3.bx b33 uw4 (by omega); have b24 := b23.keep uw4 (fun e => h23 (Option.some.inj e)); have G4 := grown_mine G3 uw4 (fun q e => .inr (by have e := Option.some.inj e; omega))))
  refine HK1.out _ _ ?_
  clear HK1
  have z2 := G2.size
  have hA4 : Ans w4 wS.heap.size a5 (c.length - 4) c5 (c.drop 4) := (hA5.kept uw4 (.inr (fun e => by have h1 := hA5.new g3 e; have h2 := b32.lt; omega))).wide z2
  refine nt_t20 _ w4 g2 g3 2 id ByteArray.empty 0 0 (hdV c 4 : Nat) a5 (c.length - 4) c5 none 0 0 0 0 b34 b24 ?_
  intro w' u
  show NoteA _ _ _ _ _ _
  rw [show kindR 2 id c = some (⟨2, id, [], 0, 0, hdV c 4, c.drop 4, [], 0, 0⟩, []) from by unfold kindR; simp [hl]]
  exact ⟨⟨_, rfl, _, _, _, _, _, _, rfl, hA4.kept u (.inr (fun e => by have h1 := hA5.new g2 e; have h2 := b22.lt; omega)), OwGp.nil _ _⟩, hR4.bx b24 u (by omega), grown_mine G4 u (fun q e => .inr (by have e := Option.some.inj e; omega))⟩

set_option maxHeartbeats 16000000 in
theorem nt_n2 {u1 u4 u5 u6 u7 u8 u9 u10 u11 u12 u13 u14 u15 u16 u17 u18 u19 u20 u21 u22 u23 u24 u25 u26 u27 u28 u29 u30 u31 u32 u33 u34 u35 u36 u37 u38 u39 u40 u41 u42 u43 u44 u45 u46 u47 u48 u49 u50 u51 u52 u53 u54 u55 u56 u57 u58 u59 u60 u61 u62 u63 u64 u65 u66 : Value} (w0 w wS : World) (gr g2 g3 id : Nat) (c : List Nat) (hR : Rdr w0 w gr c) (b3 : BxS w g3 27 (ntA (2 : Nat) (id : Int) ByteArray.empty 0 0 0 (.slice none 0 0) (.slice none 0 0) 0 0)) (b2 : BxS w g2 27 ntZ) (h23 : g2 ≠ g3) (h2 : wS.heap.size ≤ g2) (h3 : wS.heap.size ≤ g3) (h02 : w0.heap.size ≤ wS.heap.size) (G : wS.grownBy w (some gr)) (hcl : c.length ≤ 2000) (hl : c.length < 4) :
    Code.wp Try.prog (tailR 2 (Try.f89.body.getD .skip)) (bodyPost Try.prog Try.f89 (NoteA w0 wS gr (kindR 2 id c))) (Act.mk (List.toArray ((.pointer (some ⟨gr, 0, none⟩)) :: u1 :: (.pointer (some ⟨g2, 0, none⟩)) :: (.pointer (some ⟨g3, 0, none⟩)) :: u4 :: u5 :: u6 :: u7 :: u8 :: u9 :: u10 :: u11 :: u12 :: u13 :: u14 :: u15 :: u16 :: u17 :: u18 :: u19 :: u20 :: u21 :: u22 :: u23 :: u24 :: u25 :: u26 :: u27 :: u28 :: u29 :: u30 :: u31 :: u32 :: u33 :: u34 :: u35 :: u36 :: u37 :: u38 :: u39 :: u40 :: u41 :: u42 :: u43 :: u44 :: u45 :: u46 :: u47 :: u48 :: u49 :: u50 :: u51 :: u52 :: u53 :: u54 :: u55 :: u56 :: u57 :: u58 :: u59 :: u60 :: u61 :: u62 :: u63 :: u64 :: u65 :: u66 :: [])) []) w := by
  conv => enter [2]; whnf
  unfold ntA at b3
  have x0 : w.cell? ⟨g3, 0, none⟩ = some (.int .i64 ((2 : Nat) : Int)) := b3.cell 0 (by show 0 < 10; decide)
  have s0 : True := trivial
  go_wp2_with (go_at_call 110; have _t := s0; clear s0; refine (number_no w0 w gr 4 (c) hR (by omega) (by first | omega | (rw [List.length_drop]; omega))).mono ?_; rintro e w1 ⟨rfl, hww1⟩; have hww1 := hww1.symm; subst hww1)
  refine ⟨rfl, ?_⟩
  show NoteA _ _ _ _ _ _
  rw [show kindR 2 id c = none from by unfold kindR; simp [hl]]
  exact ⟨⟨_, rfl⟩, G⟩
end Go.Proofs.Ytnimehkfnpepfaa
