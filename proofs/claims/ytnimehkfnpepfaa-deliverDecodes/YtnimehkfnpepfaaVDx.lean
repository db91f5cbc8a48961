import Derived.Test.YtnimehkfnpepfaaVDu
import Derived.Test.YtnimehkfnpepfaaVDt
import Derived.Test.YtnimehkfnpepfaaVNm
import Derived.Test.YtnimehkfnpepfaaZSub
namespace Go.Proofs.Ytnimehkfnpepfaa
open Go.RowKit
set_option maxRecDepth 100000
set_option linter.unusedVariables false
set_option linter.unusedSimpArgs false


set_option maxHeartbeats 16000000 in
theorem no_k3 {u0 u1 u3 u6 u7 u8 u9 u10 u11 u12 u13 u14 u15 u16 u17 u18 u19 u20 u21 u22 u23 u24 u25 u26 u27 u28 u29 u30 u31 u32 u33 u34 u35 u36 u37 u38 u39 u40 u41 u42 u43 u44 u45 u46 u47 u48 u49 u50 u51 u52 u53 u54 u55 u56 u57 u58 u59 u60 u61 u62 u63 u64 u65 u66 u67 u68 u69 u70 u71 u72 u73 u74 u75 u76 u77 u78 u79 u80 u81 u82 u83 u84 u85 u86 u87 u88 u89 u90 u91 u92 u93 u94 u95 u96 u97 u98 u99 u100 u101 u102 u103 u104 u105 u106 u107 u108 u109 u110 u111 u112 u113 u114 u115 u116 u117 u118 u119 u120 u121 u122 u123 u124 u125 u126 : Value} (w wS : World) (g2 g4 id b off cn cc : Nat) (c : List Nat) (hC : Rd wS (some ⟨b, off, none⟩) cn cc c) (b4 : BxS w g4 27 (ntA (3 : Nat) (id : Int) ByteArray.empty 0 0 0 (.slice none 0 0) (.slice none 0 0) 0 0)) (b2 : BxS w g2 27 ntZ) (h24 : g2 ≠ g4) (h2 : wS.heap.size ≤ g2) (h4 : wS.heap.size ≤ g4) (G : wS.grownBy w none) (hcl : cn ≤ 140737488351232) (hc1 : 1 ≤ cn) (hl : cn = 8) :
    Code.wp Try.prog (tailR 5 (Try.f17.body.getD .skip)) (bodyPost Try.prog Try.f17 (DocP wS (docK 3 id c))) (Act.mk (List.toArray (u0 :: u1 :: (.pointer (some ⟨g2, 0, none⟩)) :: u3 :: (.pointer (some ⟨g4, 0, none⟩)) :: (.slice (some ⟨b, off, none⟩) cn cc) :: u6 :: u7 :: u8 :: u9 :: u10 :: u11 :: u12 :: u13 :: u14 :: u15 :: u16 :: u17 :: u18 :: u19 :: u20 :: u21 :: u22 :: u23 :: u24 :: u25 :: u26 :: u27 :: u28 :: u29 :: u30 :: u31 :: u32 :: u33 :: u34 :: u35 :: u36 :: u37 :: u38 :: u39 :: u40 :: u41 :: u42 :: u43 :: u44 :: u45 :: u46 :: u47 :: u48 :: u49 :: u50 :: u51 :: u52 :: u53 :: u54 :: u55 :: u56 :: u57 :: u58 :: u59 :: u60 :: u61 :: u62 :: u63 :: u64 :: u65 :: u66 :: u67 :: u68 :: u69 :: u70 :: u71 :: u72 :: u73 :: u74 :: u75 :: u76 :: u77 :: u78 :: u79 :: u80 :: u81 :: u82 :: u83 :: u84 :: u85 :: u86 :: u87 :: u88 :: u89 :: u90 :: u91 :: u92 :: u93 :: u94 :: u95 :: u96 :: u97 :: u98 :: u99 :: u100 :: u101 :: u102 :: u103 :: u104 :: u105 :: u106 :: u107 :: u108 :: u109 :: u110 :: u111 :: u112 :: u113 :: u114 :: u115 :: u116 :: u117 :: u118 :: u119 :: u120 :: u121 :: u122 :: u123 :: u124 :: u125 :: u126 :: [])) []) w := by
  conv => enter [2]; whnf
  have hlen := hC.len
  have hle := hC.le
  have hmx := hC.max
  unfold maxLen at hmx
  unfold ntA at b4
  have i10 := Try.info_nt
  have x0 : w.cell? ⟨g4, 0, none⟩ = some (.int .i64 ((3 : Nat) : Int)) := b4.cell 0 (by show 0 < 10; decide)
  rw [show docK 3 id c = some ⟨3, id, [], hdV c 4, hdV (c.drop 4) 4, 0, [], [], 0, 0⟩ from by unfold docK; rw [if_neg (by decide), if_neg (by decide), if_pos rfl, if_pos (by omega)]]
  subst hl
  have hbe : Rd wS (some ⟨b, off + 4, none⟩) 4 (cc - 4) (c.drop 4) := by have h := hC.beh (k := 4) (by omega); rw [if_neg (by omega)] at h; exact h
  have d5 : (4 : Int) ≤ (cc : Int) := by omega
  have d6 : ¬ cc = 4 := by omega
  have d7 : ¬ (cc : Int) = 4 := by omega
  have d8 : (8 : Int) ≤ (cc : Int) := by omega
  refine wp_seq_k fun K1 hK1 => ?_
  have HK1 : Hid _ := hK1
  clear hK1
  refine wp_seq_k fun K2 hK2 => ?_
  have HK2 : Hid _ := hK2
  clear hK2
  go_wp2
  refine HK2.out _ _ ?_
  clear HK2
  go_wp2
  refine wp_regionL (fun _ => True) [] #[false, false, false, false, false, false, false, false, false] rfl (by kernel_rfl) ?_
  refine wpAnyZ_take [] 0 (.slice (some ⟨b, off, none⟩) 8 cc) rfl (by kernel_rfl) (fun _ _ _ h => h) trivial rfl (by intro wz hz; go_simp) ?_
  try simp only [List.getElem_toArray, List.getElem_cons_succ, List.getElem_cons_zero, Act.put, List.setIfInBounds_toArray, List.set_cons_zero, List.set_cons_succ]
  refine wpAnyZ_take [] 2 (.slice (some ⟨b, off, none⟩) 8 cc) rfl (by kernel_rfl) (fun _ _ _ h => h) trivial rfl (by intro wz hz; go_simp) ?_
  try simp only [List.getElem_toArray, List.getElem_cons_succ, List.getElem_cons_zero, Act.put, List.setIfInBounds_toArray, List.set_cons_zero, List.set_cons_succ]
  refine wpAnyZ_take [] 3 (.slice (some ⟨b, off + 4, none⟩) 4 (cc - 4)) rfl (by kernel_rfl) (fun _ _ _ h => h) trivial rfl (by intro wz hz; go_simp) ?_
  try simp only [List.getElem_toArray, List.getElem_cons_succ, List.getElem_cons_zero, Act.put, List.setIfInBounds_toArray, List.set_cons_zero, List.set_cons_succ]
  have Gd := grown_drew w none
  have G0 := grown_trans G Gd
  have b40 := b4.keep Gd (by simp)
  have b20 := b2.keep Gd (by simp)
  generalize w.drew = w0 at *
  refine wpAnyZ_oneB 1 rfl (by kernel_rfl) (fun KK hKK => ?_)
  go_simp
  go_at_call 53
  refine (four4_any _ _ _ c w0 (hC.keep G0) (by omega)).mono ?_
  rintro e w1 ⟨rfl, y1⟩
  dsimp only
  refine hKK _ _ (fun _ => trivial) ?_
  try simp only [List.getElem_toArray, List.getElem_cons_succ, List.getElem_cons_zero, Act.put, List.setIfInBounds_toArray, List.set_cons_zero, List.set_cons_succ]
  refine wpAnyZ_take [] 5 (.pointer (some ⟨g4, 3, none⟩)) rfl (by kernel_rfl) (fun _ _ _ h => h) trivial rfl (by intro wz hz; go_simp) ?_
  try simp only [List.getElem_toArray, List.getElem_cons_succ, List.getElem_cons_zero, Act.put, List.setIfInBounds_toArray, List.set_cons_zero, List.set_cons_succ]
  refine wpAnyZ_oneB 4 rfl (by kernel_rfl) (fun KK hKK => ?_)
  go_simp
  go_at_call 53
  refine (four4_any _ _ _ (c.drop 4) w1 (hbe.keep (grown_trans G0 y1)) (by omega)).mono ?_
  rintro e w2 ⟨rfl, y2⟩
  dsimp only
  refine hKK _ _ (fun _ => trivial) ?_
  try simp only [List.getElem_toArray, List.getElem_cons_succ, List.getElem_cons_zero, Act.put, List.setIfInBounds_toArray, List.set_cons_zero, List.set_cons_succ]
  have y02 := grown_trans y1 y2
  have b42 := b40.keep y02 (by simp)
  have b22 := b20.keep y02 (by simp)
  have G2 := grown_trans G0 y02
  refine wpAnyZ_oneB 6 rfl (by kernel_rfl) (fun KK hKK => ?_)
  refine step_stCd _ rfl _ _ _ rfl g4 3 27 _ #[.int .i64 ((3 : Nat) : Int), .int .i64 (id : Int), .string ByteArray.empty, .int .i64 ((hdV c 4 : Nat) : Int), .int .i64 0, .int .i64 0, .slice none 0 0, .slice none 0 0, .int .i64 0, .int .i64 0] (.int .i64 ((hdV c 4 : Nat) : Int)) rfl rfl b42 (fun w' h1 h2 => stc_int _ _ _ _ h1 h2) (by show 3 < 10; decide) rfl ?_
  intro w3 b43 u3
  refine hKK _ _ (fun _ => trivial) ?_
  try simp only [List.getElem_toArray, List.getElem_cons_succ, List.getElem_cons_zero, Act.put, List.setIfInBounds_toArray, List.set_cons_zero, List.set_cons_succ]
  refine wpAnyZ_take [] 7 (.pointer (some ⟨g4, 4, none⟩)) rfl (by kernel_rfl) (fun _ _ _ h => h) trivial rfl (by intro wz hz; go_simp) ?_
  try simp only [List.getElem_toArray, List.getElem_cons_succ, List.getElem_cons_zero, Act.put, List.setIfInBounds_toArray, List.set_cons_zero, List.set_cons_succ]
  refine wpAnyZ_oneB 8 rfl (by kernel_rfl) (fun KK hKK => ?_)
  refine step_stCd _ rfl _ _ _ rfl g4 4 27 _ #[.int .i64 ((3 : Nat) : Int), .int .i64 (id : Int), .string ByteArray.empty, .int .i64 ((hdV c 4 : Nat) : Int), .int .i64 ((hdV (c.drop 4) 4 : Nat) : Int), .int .i64 0, .slice none 0 0, .slice none 0 0, .int .i64 0, .int .i64 0] (.int .i64 ((hdV (c.drop 4) 4 : Nat) : Int)) rfl rfl b43 (fun w' h1 h2 => stc_int _ _ _ _ h1 h2) (by show 4 < 10; decide) rfl ?_
  intro w4 b44 u4
  refine hKK _ _ (fun _ => trivial) ?_
  try simp only [List.getElem_toArray, List.getElem_cons_succ, List.getElem_cons_zero, Act.put, List.setIfInBounds_toArray, List.set_cons_zero, List.set_cons_succ]
  refine wpAnyZ_doneB (by kernel_rfl) ?_ _
  have b24 := (b22.keep u3 (fun e => h24 (Option.some.inj e))).keep u4 (fun e => h24 (Option.some.inj e))
  have G4 := grown_far (grown_far G2 u3 (fun q e => by have e := Option.some.inj e; omega)) u4 (fun q e => by have e := Option.some.inj e; omega)
  simp only [Exit.inBlock, Exit.then]
  refine HK1.out _ _ ?_
  clear HK1
  exact no_t33 w4 wS g2 g4 ⟨3, id, [], hdV c 4, hdV (c.drop 4) 4, 0, [], [], 0, 0⟩ none 0 0 none 0 0 b44 b24 h2 (Ans.nil _ _) (OwGp.nil _ _) (fun e => by cases e) (by omega) G4

set_option maxHeartbeats 16000000 in
theorem no_n4a {u0 u1 u3 u6 u7 u8 u9 u10 u11 u12 u13 u14 u15 u16 u17 u18 u19 u20 u21 u22 u23 u24 u25 u26 u27 u28 u29 u30 u31 u32 u33 u34 u35 u36 u37 u38 u39 u40 u41 u42 u43 u44 u45 u46 u47 u48 u49 u50 u51 u52 u53 u54 u55 u56 u57 u58 u59 u60 u61 u62 u63 u64 u65 u66 u67 u68 u69 u70 u71 u72 u73 u74 u75 u76 u77 u78 u79 u80 u81 u82 u83 u84 u85 u86 u87 u88 u89 u90 u91 u92 u93 u94 u95 u96 u97 u98 u99 u100 u101 u102 u103 u104 u105 u106 u107 u108 u109 u110 u111 u112 u113 u114 u115 u116 u117 u118 u119 u120 u121 u122 u123 u124 u125 u126 : Value} (w wS : World) (g2 g4 id b off cn cc : Nat) (c : List Nat) (hC : Rd wS (some ⟨b, off, none⟩) cn cc c) (b4 : BxS w g4 27 (ntA (4 : Nat) (id : Int) ByteArray.empty 0 0 0 (.slice none 0 0) (.slice none 0 0) 0 0)) (b2 : BxS w g2 27 ntZ) (h24 : g2 ≠ g4) (h2 : wS.heap.size ≤ g2) (h4 : wS.heap.size ≤ g4) (G : wS.grownBy w none) (hcl : cn ≤ 140737488351232) (hc1 : 1 ≤ cn) (hl : ¬ cn % 8 = 0) :
    Code.wp Try.prog (tailR 5 (Try.f17.body.getD .skip)) (bodyPost Try.prog Try.f17 (DocP wS (docK 4 id c))) (Act.mk (List.toArray (u0 :: u1 :: (.pointer (some ⟨g2, 0, none⟩)) :: u3 :: (.pointer (some ⟨g4, 0, none⟩)) :: (.slice (some ⟨b, off, none⟩) cn cc) :: u6 :: u7 :: u8 :: u9 :: u10 :: u11 :: u12 :: u13 :: u14 :: u15 :: u16 :: u17 :: u18 :: u19 :: u20 :: u21 :: u22 :: u23 :: u24 :: u25 :: u26 :: u27 :: u28 :: u29 :: u30 :: u31 :: u32 :: u33 :: u34 :: u35 :: u36 :: u37 :: u38 :: u39 :: u40 :: u41 :: u42 :: u43 :: u44 :: u45 :: u46 :: u47 :: u48 :: u49 :: u50 :: u51 :: u52 :: u53 :: u54 :: u55 :: u56 :: u57 :: u58 :: u59 :: u60 :: u61 :: u62 :: u63 :: u64 :: u65 :: u66 :: u67 :: u68 :: u69 :: u70 :: u71 :: u72 :: u73 :: u74 :: u75 :: u76 :: u77 :: u78 :: u79 :: u80 :: u81 :: u82 :: u83 :: u84 :: u85 :: u86 :: u87 :: u88 :: u89 :: u90 :: u91 :: u92 :: u93 :: u94 :: u95 :: u96 :: u97 :: u98 :: u99 :: u100 :: u101 :: u102 :: u103 :: u104 :: u105 :: u106 :: u107 :: u108 :: u109 :: u110 :: u111 :: u112 :: u113 :: u114 :: u115 :: u116 :: u117 :: u118 :: u119 :: u120 :: u121 :: u122 :: u123 :: u124 :: u125 :: u126 :: [])) []) w := by
  conv => enter [2]; whnf
  have hlen := hC.len
  have hle := hC.le
  have hmx := hC.max
  unfold maxLen at hmx
  unfold ntA at b4
  have i10 := Try.info_nt
  have x0 : w.cell? ⟨g4, 0, none⟩ = some (.int .i64 ((4 : Nat) : Int)) := b4.cell 0 (by show 0 < 10; decide)
  rw [show docK 4 id c = none from by unfold docK; rw [if_neg (by decide), if_neg (by decide), if_neg (by decide), if_pos rfl, if_neg (by omega)]]
  have d8 : ¬ (cn : Int) % 8 = 0 := by omega
  have d9 : ¬ (cn : Int).tmod 8 = 0 := by rw [Int.tmod_eq_emod_of_nonneg (by omega)]; omega
  have s0 : True := trivial
  go_wp2_with (have _t := s0; clear s0; refine wpList_stX _ rfl _ (.tmp 2) (.tmp 78) rfl g2 _ _ rfl rfl b2 i10 rfl (by simp [Value.oneCell']) ?_; intro w6 b26 u6)
  refine bodyPost_ret (results_cell1t rfl _ _ _ ⟨g2, 0, none⟩ _ (.int .i64 8) rfl (BxS.load (t := 27) b26 Try.underlying27 Try.info_nt) rfl) rfl ?_
  exact ⟨rfl, grown_far G u6 (fun q e => by have e := Option.some.inj e; omega)⟩

set_option maxHeartbeats 16000000 in
theorem no_n4b {u0 u1 u3 u6 u7 u8 u9 u10 u11 u12 u13 u14 u15 u16 u17 u18 u19 u20 u21 u22 u23 u24 u25 u26 u27 u28 u29 u30 u31 u32 u33 u34 u35 u36 u37 u38 u39 u40 u41 u42 u43 u44 u45 u46 u47 u48 u49 u50 u51 u52 u53 u54 u55 u56 u57 u58 u59 u60 u61 u62 u63 u64 u65 u66 u67 u68 u69 u70 u71 u72 u73 u74 u75 u76 u77 u78 u79 u80 u81 u82 u83 u84 u85 u86 u87 u88 u89 u90 u91 u92 u93 u94 u95 u96 u97 u98 u99 u100 u101 u102 u103 u104 u105 u106 u107 u108 u109 u110 u111 u112 u113 u114 u115 u116 u117 u118 u119 u120 u121 u122 u123 u124 u125 u126 : Value} (w wS : World) (g2 g4 id b off cn cc : Nat) (c : List Nat) (hC : Rd wS (some ⟨b, off, none⟩) cn cc c) (b4 : BxS w g4 27 (ntA (4 : Nat) (id : Int) ByteArray.empty 0 0 0 (.slice none 0 0) (.slice none 0 0) 0 0)) (b2 : BxS w g2 27 ntZ) (h24 : g2 ≠ g4) (h2 : wS.heap.size ≤ g2) (h4 : wS.heap.size ≤ g4) (G : wS.grownBy w none) (hcl : cn ≤ 140737488351232) (hc1 : 1 ≤ cn) (hl : cn % 8 = 0) (hl2 : 160 < cn) :
    Code.wp Try.prog (tailR 5 (Try.f17.body.getD .skip)) (bodyPost Try.prog Try.f17 (DocP wS (docK 4 id c))) (Act.mk (List.toArray (u0 :: u1 :: (.pointer (some ⟨g2, 0, none⟩)) :: u3 :: (.pointer (some ⟨g4, 0, none⟩)) :: (.slice (some ⟨b, off, none⟩) cn cc) :: u6 :: u7 :: u8 :: u9 :: u10 :: u11 :: u12 :: u13 :: u14 :: u15 :: u16 :: u17 :: u18 :: u19 :: u20 :: u21 :: u22 :: u23 :: u24 :: u25 :: u26 :: u27 :: u28 :: u29 :: u30 :: u31 :: u32 :: u33 :: u34 :: u35 :: u36 :: u37 :: u38 :: u39 :: u40 :: u41 :: u42 :: u43 :: u44 :: u45 :: u46 :: u47 :: u48 :: u49 :: u50 :: u51 :: u52 :: u53 :: u54 :: u55 :: u56 :: u57 :: u58 :: u59 :: u60 :: u61 :: u62 :: u63 :: u64 :: u65 :: u66 :: u67 :: u68 :: u69 :: u70 :: u71 :: u72 :: u73 :: u74 :: u75 :: u76 :: u77 :: u78 :: u79 :: u80 :: u81 :: u82 :: u83 :: u84 :: u85 :: u86 :: u87 :: u88 :: u89 :: u90 :: u91 :: u92 :: u93 :: u94 :: u95 :: u96 :: u97 :: u98 :: u99 :: u100 :: u101 :: u102 :: u103 :: u104 :: u105 :: u106 :: u107 :: u108 :: u109 :: u110 :: u111 :: u112 :: u113 :: u114 :: u115 :: u116 :: u117 :: u118 :: u119 :: u120 :: u121 :: u122 :: u123 :: u124 :: u125 :: u126 :: [])) []) w := by
  conv => enter [2]; whnf
  have hlen := hC.len
  have hle := hC.le
  have hmx := hC.max
  unfold maxLen at hmx
  unfold ntA at b4
  have i10 := Try.info_nt
  have x0 : w.cell? ⟨g4, 0, none⟩ = some (.int .i64 ((4 : Nat) : Int)) := b4.cell 0 (by show 0 < 10; decide)
  rw [show docK 4 id c = none from by unfold docK; rw [if_neg (by decide), if_neg (by decide), if_neg (by decide), if_pos rfl, if_neg (by omega)]]
  have d8 : (cn : Int) % 8 = 0 := by omega
  have d9 : (cn : Int).tmod 8 = 0 := by rw [Int.tmod_eq_emod_of_nonneg (by omega)]; omega
  have d7 : (160 : Int) < (cn : Int) := by omega
  have s0 : True := trivial
  go_wp2_with (have _t := s0; clear s0; refine wpList_stX _ rfl _ (.tmp 2) (.tmp 78) rfl g2 _ _ rfl rfl b2 i10 rfl (by simp [Value.oneCell']) ?_; intro w6 b26 u6)
  refine bodyPost_ret (results_cell1t rfl _ _ _ ⟨g2, 0, none⟩ _ (.int .i64 8) rfl (BxS.load (t := 27) b26 Try.underlying27 Try.info_nt) rfl) rfl ?_
  exact ⟨rfl, grown_far G u6 (fun q e => by have e := Option.some.inj e; omega)⟩
end Go.Proofs.Ytnimehkfnpepfaa
