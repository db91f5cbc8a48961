import Derived.Test.YtnimehkfnpepfaaVDu
import Derived.Test.YtnimehkfnpepfaaVDt
import Derived.Test.YtnimehkfnpepfaaVNm
import Derived.Test.YtnimehkfnpepfaaZSub
namespace Go.Proofs.Ytnimehkfnpepfaa
open Go.RowKit
set_option maxRecDepth 100000
set_option linter.unusedVariables false
set_option linter.unusedSimpArgs false


set_option maxHeartbeats 16000000 in
theorem no_s1 {u0 u1 u3 u6 u7 u8 u9 u10 u11 u12 u13 u14 u15 u16 u17 u18 u19 u20 u21 u22 u23 u24 u25 u26 u27 u28 u29 u30 u31 u32 u33 u34 u35 u36 u37 u38 u39 u40 u41 u42 u43 u44 u45 u46 u47 u48 u49 u50 u51 u52 u53 u54 u55 u56 u57 u58 u59 u60 u61 u62 u63 u64 u65 u66 u67 u68 u69 u70 u71 u72 u73 u74 u75 u76 u77 u78 u79 u80 u81 u82 u83 u84 u85 u86 u87 u88 u89 u90 u91 u92 u93 u94 u95 u96 u97 u98 u99 u100 u101 u102 u103 u104 u105 u106 u107 u108 u109 u110 u111 u112 u113 u114 u115 u116 u117 u118 u119 u120 u121 u122 u123 u124 u125 u126 : Value} (w wS : World) (g2 g4 id b off cn cc : Nat) (c : List Nat) (hC : Rd wS (some ⟨b, off, none⟩) cn cc c) (b4 : BxS w g4 27 (ntA (1 : Nat) (id : Int) ByteArray.empty 0 0 0 (.slice none 0 0) (.slice none 0 0) 0 0)) (b2 : BxS w g2 27 ntZ) (h24 : g2 ≠ g4) (h2 : wS.heap.size ≤ g2) (h4 : wS.heap.size ≤ g4) (G : wS.grownBy w none) (hcl : cn ≤ 140737488351232) (hc1 : 1 ≤ cn) (hl : cn < 4) :
    Code.wp Try.prog (tailR 5 (Try.f17.body.getD .skip)) (bodyPost Try.prog Try.f17 (DocP wS (docK 1 id c))) (Act.mk (List.toArray (u0 :: u1 :: (.pointer (some ⟨g2, 0, none⟩)) :: u3 :: (.pointer (some ⟨g4, 0, none⟩)) :: (.slice (some ⟨b, off, none⟩) cn cc) :: u6 :: u7 :: u8 :: u9 :: u10 :: u11 :: u12 :: u13 :: u14 :: u15 :: u16 :: u17 :: u18 :: u19 :: u20 :: u21 :: u22 :: u23 :: u24 :: u25 :: u26 :: u27 :: u28 :: u29 :: u30 :: u31 :: u32 :: u33 :: u34 :: u35 :: u36 :: u37 :: u38 :: u39 :: u40 :: u41 :: u42 :: u43 :: u44 :: u45 :: u46 :: u47 :: u48 :: u49 :: u50 :: u51 :: u52 :: u53 :: u54 :: u55 :: u56 :: u57 :: u58 :: u59 :: u60 :: u61 :: u62 :: u63 :: u64 :: u65 :: u66 :: u67 :: u68 :: u69 :: u70 :: u71 :: u72 :: u73 :: u74 :: u75 :: u76 :: u77 :: u78 :: u79 :: u80 :: u81 :: u82 :: u83 :: u84 :: u85 :: u86 :: u87 :: u88 :: u89 :: u90 :: u91 :: u92 :: u93 :: u94 :: u95 :: u96 :: u97 :: u98 :: u99 :: u100 :: u101 :: u102 :: u103 :: u104 :: u105 :: u106 :: u107 :: u108 :: u109 :: u110 :: u111 :: u112 :: u113 :: u114 :: u115 :: u116 :: u117 :: u118 :: u119 :: u120 :: u121 :: u122 :: u123 :: u124 :: u125 :: u126 :: [])) []) w := by
  conv => enter [2]; whnf
  have hlen := hC.len
  have hle := hC.le
  have hmx := hC.max
  unfold maxLen at hmx
  unfold ntA at b4
  have i10 := Try.info_nt
  have x0 : w.cell? ⟨g4, 0, none⟩ = some (.int .i64 ((1 : Nat) : Int)) := b4.cell 0 (by show 0 < 10; decide)
  rw [show docK 1 id c = some ⟨1, id, [], 0, 0, 0, [], [], 0, 0⟩ from by unfold docK; simp [hl, hlen]]
  have d4 : ¬ (4 : Int) ≤ (cn : Int) := by omega
  refine wp_seq_k fun K1 hK1 => ?_
  have HK1 : Hid _ := hK1
  clear hK1
  go_wp2
  refine HK1.out _ _ ?_
  clear HK1
  exact no_t33 w wS g2 g4 ⟨1, id, [], 0, 0, 0, [], [], 0, 0⟩ none 0 0 none 0 0 b4 b2 h2 (Ans.nil _ _) (OwGp.nil _ _) (fun e => by cases e) (by omega) G

set_option maxHeartbeats 16000000 in
theorem no_k1 {u0 u1 u3 u6 u7 u8 u9 u10 u11 u12 u13 u14 u15 u16 u17 u18 u19 u20 u21 u22 u23 u24 u25 u26 u27 u28 u29 u30 u31 u32 u33 u34 u35 u36 u37 u38 u39 u40 u41 u42 u43 u44 u45 u46 u47 u48 u49 u50 u51 u52 u53 u54 u55 u56 u57 u58 u59 u60 u61 u62 u63 u64 u65 u66 u67 u68 u69 u70 u71 u72 u73 u74 u75 u76 u77 u78 u79 u80 u81 u82 u83 u84 u85 u86 u87 u88 u89 u90 u91 u92 u93 u94 u95 u96 u97 u98 u99 u100 u101 u102 u103 u104 u105 u106 u107 u108 u109 u110 u111 u112 u113 u114 u115 u116 u117 u118 u119 u120 u121 u122 u123 u124 u125 u126 : Value} (w wS : World) (g2 g4 id b off cn cc : Nat) (c : List Nat) (hC : Rd wS (some ⟨b, off, none⟩) cn cc c) (b4 : BxS w g4 27 (ntA (1 : Nat) (id : Int) ByteArray.empty 0 0 0 (.slice none 0 0) (.slice none 0 0) 0 0)) (b2 : BxS w g2 27 ntZ) (h24 : g2 ≠ g4) (h2 : wS.heap.size ≤ g2) (h4 : wS.heap.size ≤ g4) (G : wS.grownBy w none) (hcl : cn ≤ 140737488351232) (hc1 : 1 ≤ cn) (hl : ¬ cn < 4) :
    Code.wp Try.prog (tailR 5 (Try.f17.body.getD .skip)) (bodyPost Try.prog Try.f17 (DocP wS (docK 1 id c))) (Act.mk (List.toArray (u0 :: u1 :: (.pointer (some ⟨g2, 0, none⟩)) :: u3 :: (.pointer (some ⟨g4, 0, none⟩)) :: (.slice (some ⟨b, off, none⟩) cn cc) :: u6 :: u7 :: u8 :: u9 :: u10 :: u11 :: u12 :: u13 :: u14 :: u15 :: u16 :: u17 :: u18 :: u19 :: u20 :: u21 :: u22 :: u23 :: u24 :: u25 :: u26 :: u27 :: u28 :: u29 :: u30 :: u31 :: u32 :: u33 :: u34 :: u35 :: u36 :: u37 :: u38 :: u39 :: u40 :: u41 :: u42 :: u43 :: u44 :: u45 :: u46 :: u47 :: u48 :: u49 :: u50 :: u51 :: u52 :: u53 :: u54 :: u55 :: u56 :: u57 :: u58 :: u59 :: u60 :: u61 :: u62 :: u63 :: u64 :: u65 :: u66 :: u67 :: u68 :: u69 :: u70 :: u71 :: u72 :: u73 :: u74 :: u75 :: u76 :: u77 :: u78 :: u79 :: u80 :: u81 :: u82 :: u83 :: u84 :: u85 :: u86 :: u87 :: u88 :: u89 :: u90 :: u91 :: u92 :: u93 :: u94 :: u95 :: u96 :: u97 :: u98 :: u99 :: u100 :: u101 :: u102 :: u103 :: u104 :: u105 :: u106 :: u107 :: u108 :: u109 :: u110 :: u111 :: u112 :: u113 :: u114 :: u115 :: u116 :: u117 :: u118 :: u119 :: u120 :: u121 :: u122 :: u123 :: u124 :: u125 :: u126 :: [])) []) w := by
  conv => enter [2]; whnf
  have hlen := hC.len
  have hle := hC.le
  have hmx := hC.max
  unfold maxLen at hmx
  unfold ntA at b4
  have i10 := Try.info_nt
  have x0 : w.cell? ⟨g4, 0, none⟩ = some (.int .i64 ((1 : Nat) : Int)) := b4.cell 0 (by show 0 < 10; decide)
  rw [show docK 1 id c = some ⟨1, id, c.drop 4, hdV c 4, 0, 0, [], [], 0, 0⟩ from by unfold docK; simp [hl, hlen]]
  have d4 : (4 : Int) ≤ (cn : Int) := by omega
  have d5 : (4 : Int) ≤ (cc : Int) := by omega
  refine wp_seq_k fun K1 hK1 => ?_
  have HK1 : Hid _ := hK1
  clear hK1
  by_cases e4 : cc = 4
  · have s0 : True := trivial
    have hbe : Rd wS (some ⟨b, off, none⟩) 0 0 (c.drop 4) := by have h := hC.beh (k := 4) (by omega); rw [if_pos e4, show cc - 4 = 0 by omega, show cn - 4 = 0 by omega] at h; exact h
    subst e4
    obtain rfl : cn = 4 := by omega
    go_wp2_with (go_at_call 53; have _t := s0; clear s0; refine (four4_any _ _ _ (c) w (hC.keep G) (by omega)).mono ?_; rintro e w1 ⟨rfl, yw1⟩; have b41 := b4.keep yw1 (by simp); have b21 := b2.keep yw1 (by simp); have G1 := grown_trans G yw1; have xw2 : w1.cell? ⟨g4, 3, none⟩ = some _ := b41.cell 3 (by show 3 < 10; decide); have fw2 := b41.free 3; have b42 := b41.set 3 (.int .i64 ((hdV c 4 : Nat) : Int)); have uw2 := grown_set w1 g4 3 (.int .i64 ((hdV c 4 : Nat) : Int)); generalize hww2 : w1.setCell ⟨g4, 3, none⟩ (.int .i64 ((hdV c 4 : Nat) : Int)) = w2 at b42 uw2; have b22 := b21.keep uw2 (fun e => h24 (Option.some.inj e)); have G2 := grown_far G1 uw2 (fun q e => by have e := Option.some.inj e; omega); have hcv := str_any w2 _ _ _ _ (hbe.keep G2); have xw3 : w2.cell? ⟨g4, 2, none⟩ = some _ := b42.cell 2 (by show 2 < 10; decide); have fw3 := b42.free 2; have b43 := b42.set 2 (.string (strB (c.drop 4))); have uw3 := grown_set w2 g4 2 (.string (strB (c.drop 4))); generalize hww3 : w2.setCell ⟨g4, 2, none⟩ (.string (strB (c.drop 4))) = w3 at b43 uw3; have b23 := b22.keep uw3 (fun e => h24 (Option.some.inj e)); have G3 := grown_far G2 uw3 (fun q e => by have e := Option.some.inj e; omega))
    refine HK1.out _ _ ?_
    clear HK1
    exact no_t33 w3 wS g2 g4 ⟨1, id, c.drop 4, hdV c 4, 0, 0, [], [], 0, 0⟩ none 0 0 none 0 0 b43 b23 h2 (Ans.nil _ _) (OwGp.nil _ _) (fun e => by cases e) (by omega) G3
  · have s0 : True := trivial
    have hbe : Rd wS (some ⟨b, off + 4, none⟩) (cn - 4) (cc - 4) (c.drop 4) := by have h := hC.beh (k := 4) (by omega); rw [if_neg e4] at h; exact h
    go_wp2_with (go_at_call 53; have _t := s0; clear s0; refine (four4_any _ _ _ (c) w (hC.keep G) (by omega)).mono ?_; rintro e w1 ⟨rfl, yw1⟩; have b41 := b4.keep yw1 (by simp); have b21 := b2.keep yw1 (by simp); have G1 := grown_trans G yw1; have xw2 : w1.cell? ⟨g4, 3, none⟩ = some _ := b41.cell 3 (by show 3 < 10; decide); have fw2 := b41.free 3; have b42 := b41.set 3 (.int .i64 ((hdV c 4 : Nat) : Int)); have uw2 := grown_set w1 g4 3 (.int .i64 ((hdV c 4 : Nat) : Int)); generalize hww2 : w1.setCell ⟨g4, 3, none⟩ (.int .i64 ((hdV c 4 : Nat) : Int)) = w2 at b42 uw2; have b22 := b21.keep uw2 (fun e => h24 (Option.some.inj e)); have G2 := grown_far G1 uw2 (fun q e => by have e := Option.some.inj e; omega); have hcv := str_any w2 _ _ _ _ (hbe.keep G2); have xw3 : w2.cell? ⟨g4, 2, none⟩ = some _ := b42.cell 2 (by show 2 < 10; decide); have fw3 := b42.free 2; have b43 := b42.set 2 (.string (strB (c.drop 4))); have uw3 := grown_set w2 g4 2 (.string (strB (c.drop 4))); generalize hww3 : w2.setCell ⟨g4, 2, none⟩ (.string (strB (c.drop 4))) = w3 at b43 uw3; have b23 := b22.keep uw3 (fun e => h24 (Option.some.inj e)); have G3 := grown_far G2 uw3 (fun q e => by have e := Option.some.inj e; omega))
    refine HK1.out _ _ ?_
    clear HK1
    exact no_t33 w3 wS g2 g4 ⟨1, id, c.drop 4, hdV c 4, 0, 0, [], [], 0, 0⟩ none 0 0 none 0 0 b43 b23 h2 (Ans.nil _ _) (OwGp.nil _ _) (fun e => by cases e) (by omega) G3

set_option maxHeartbeats 16000000 in
theorem no_s2 {u0 u1 u3 u6 u7 u8 u9 u10 u11 u12 u13 u14 u15 u16 u17 u18 u19 u20 u21 u22 u23 u24 u25 u26 u27 u28 u29 u30 u31 u32 u33 u34 u35 u36 u37 u38 u39 u40 u41 u42 u43 u44 u45 u46 u47 u48 u49 u50 u51 u52 u53 u54 u55 u56 u57 u58 u59 u60 u61 u62 u63 u64 u65 u66 u67 u68 u69 u70 u71 u72 u73 u74 u75 u76 u77 u78 u79 u80 u81 u82 u83 u84 u85 u86 u87 u88 u89 u90 u91 u92 u93 u94 u95 u96 u97 u98 u99 u100 u101 u102 u103 u104 u105 u106 u107 u108 u109 u110 u111 u112 u113 u114 u115 u116 u117 u118 u119 u120 u121 u122 u123 u124 u125 u126 : Value} (w wS : World) (g2 g4 id b off cn cc : Nat) (c : List Nat) (hC : Rd wS (some ⟨b, off, none⟩) cn cc c) (b4 : BxS w g4 27 (ntA (2 : Nat) (id : Int) ByteArray.empty 0 0 0 (.slice none 0 0) (.slice none 0 0) 0 0)) (b2 : BxS w g2 27 ntZ) (h24 : g2 ≠ g4) (h2 : wS.heap.size ≤ g2) (h4 : wS.heap.size ≤ g4) (G : wS.grownBy w none) (hcl : cn ≤ 140737488351232) (hc1 : 1 ≤ cn) (hl : cn < 4) :
    Code.wp Try.prog (tailR 5 (Try.f17.body.getD .skip)) (bodyPost Try.prog Try.f17 (DocP wS (docK 2 id c))) (Act.mk (List.toArray (u0 :: u1 :: (.pointer (some ⟨g2, 0, none⟩)) :: u3 :: (.pointer (some ⟨g4, 0, none⟩)) :: (.slice (some ⟨b, off, none⟩) cn cc) :: u6 :: u7 :: u8 :: u9 :: u10 :: u11 :: u12 :: u13 :: u14 :: u15 :: u16 :: u17 :: u18 :: u19 :: u20 :: u21 :: u22 :: u23 :: u24 :: u25 :: u26 :: u27 :: u28 :: u29 :: u30 :: u31 :: u32 :: u33 :: u34 :: u35 :: u36 :: u37 :: u38 :: u39 :: u40 :: u41 :: u42 :: u43 :: u44 :: u45 :: u46 :: u47 :: u48 :: u49 :: u50 :: u51 :: u52 :: u53 :: u54 :: u55 :: u56 :: u57 :: u58 :: u59 :: u60 :: u61 :: u62 :: u63 :: u64 :: u65 :: u66 :: u67 :: u68 :: u69 :: u70 :: u71 :: u72 :: u73 :: u74 :: u75 :: u76 :: u77 :: u78 :: u79 :: u80 :: u81 :: u82 :: u83 :: u84 :: u85 :: u86 :: u87 :: u88 :: u89 :: u90 :: u91 :: u92 :: u93 :: u94 :: u95 :: u96 :: u97 :: u98 :: u99 :: u100 :: u101 :: u102 :: u103 :: u104 :: u105 :: u106 :: u107 :: u108 :: u109 :: u110 :: u111 :: u112 :: u113 :: u114 :: u115 :: u116 :: u117 :: u118 :: u119 :: u120 :: u121 :: u122 :: u123 :: u124 :: u125 :: u126 :: [])) []) w := by
  conv => enter [2]; whnf
  have hlen := hC.len
  have hle := hC.le
  have hmx := hC.max
  unfold maxLen at hmx
  unfold ntA at b4
  have i10 := Try.info_nt
  have x0 : w.cell? ⟨g4, 0, none⟩ = some (.int .i64 ((2 : Nat) : Int)) := b4.cell 0 (by show 0 < 10; decide)
  rw [show docK 2 id c = some ⟨2, id, [], 0, 0, 0, [], [], 0, 0⟩ from by unfold docK; simp [hl, hlen]]
  have d4 : ¬ (4 : Int) ≤ (cn : Int) := by omega
  refine wp_seq_k fun K1 hK1 => ?_
  have HK1 : Hid _ := hK1
  clear hK1
  go_wp2
  refine HK1.out _ _ ?_
  clear HK1
  exact no_t33 w wS g2 g4 ⟨2, id, [], 0, 0, 0, [], [], 0, 0⟩ none 0 0 none 0 0 b4 b2 h2 (Ans.nil _ _) (OwGp.nil _ _) (fun e => by cases e) (by omega) G

set_option maxHeartbeats 16000000 in
theorem no_k2 {u0 u1 u3 u6 u7 u8 u9 u10 u11 u12 u13 u14 u15 u16 u17 u18 u19 u20 u21 u22 u23 u24 u25 u26 u27 u28 u29 u30 u31 u32 u33 u34 u35 u36 u37 u38 u39 u40 u41 u42 u43 u44 u45 u46 u47 u48 u49 u50 u51 u52 u53 u54 u55 u56 u57 u58 u59 u60 u61 u62 u63 u64 u65 u66 u67 u68 u69 u70 u71 u72 u73 u74 u75 u76 u77 u78 u79 u80 u81 u82 u83 u84 u85 u86 u87 u88 u89 u90 u91 u92 u93 u94 u95 u96 u97 u98 u99 u100 u101 u102 u103 u104 u105 u106 u107 u108 u109 u110 u111 u112 u113 u114 u115 u116 u117 u118 u119 u120 u121 u122 u123 u124 u125 u126 : Value} (w wS : World) (g2 g4 id b off cn cc : Nat) (c : List Nat) (hC : Rd wS (some ⟨b, off, none⟩) cn cc c) (b4 : BxS w g4 27 (ntA (2 : Nat) (id : Int) ByteArray.empty 0 0 0 (.slice none 0 0) (.slice none 0 0) 0 0)) (b2 : BxS w g2 27 ntZ) (h24 : g2 ≠ g4) (h2 : wS.heap.size ≤ g2) (h4 : wS.heap.size ≤ g4) (G : wS.grownBy w none) (hcl : cn ≤ 140737488351232) (hc1 : 1 ≤ cn) (hl : ¬ cn < 4) :
    Code.wp Try.prog (tailR 5 (Try.f17.body.getD .skip)) (bodyPost Try.prog Try.f17 (DocP wS (docK 2 id c))) (Act.mk (List.toArray (u0 :: u1 :: (.pointer (some ⟨g2, 0, none⟩)) :: u3 :: (.pointer (some ⟨g4, 0, none⟩)) :: (.slice (some ⟨b, off, none⟩) cn cc) :: u6 :: u7 :: u8 :: u9 :: u10 :: u11 :: u12 :: u13 :: u14 :: u15 :: u16 :: u17 :: u18 :: u19 :: u20 :: u21 :: u22 :: u23 :: u24 :: u25 :: u26 :: u27 :: u28 :: u29 :: u30 :: u31 :: u32 :: u33 :: u34 :: u35 :: u36 :: u37 :: u38 :: u39 :: u40 :: u41 :: u42 :: u43 :: u44 :: u45 :: u46 :: u47 :: u48 :: u49 :: u50 :: u51 :: u52 :: u53 :: u54 :: u55 :: u56 :: u57 :: u58 :: u59 :: u60 :: u61 :: u62 :: u63 :: u64 :: u65 :: u66 :: u67 :: u68 :: u69 :: u70 :: u71 :: u72 :: u73 :: u74 :: u75 :: u76 :: u77 :: u78 :: u79 :: u80 :: u81 :: u82 :: u83 :: u84 :: u85 :: u86 :: u87 :: u88 :: u89 :: u90 :: u91 :: u92 :: u93 :: u94 :: u95 :: u96 :: u97 :: u98 :: u99 :: u100 :: u101 :: u102 :: u103 :: u104 :: u105 :: u106 :: u107 :: u108 :: u109 :: u110 :: u111 :: u112 :: u113 :: u114 :: u115 :: u116 :: u117 :: u118 :: u119 :: u120 :: u121 :: u122 :: u123 :: u124 :: u125 :: u126 :: [])) []) w := by
  conv => enter [2]; whnf
  have hlen := hC.len
  have hle := hC.le
  have hmx := hC.max
  unfold maxLen at hmx
  unfold ntA at b4
  have i10 := Try.info_nt
  have x0 : w.cell? ⟨g4, 0, none⟩ = some (.int .i64 ((2 : Nat) : Int)) := b4.cell 0 (by show 0 < 10; decide)
  rw [show docK 2 id c = some ⟨2, id, [], 0, 0, hdV c 4, c.drop 4, [], 0, 0⟩ from by unfold docK; simp [hl, hlen]]
  have d4 : (4 : Int) ≤ (cn : Int) := by omega
  have d5 : (4 : Int) ≤ (cc : Int) := by omega
  refine wp_seq_k fun K1 hK1 => ?_
  have HK1 : Hid _ := hK1
  clear hK1
  by_cases e4 : cc = 4
  · have s0 : True := trivial
    have hbe : Rd wS (some ⟨b, off, none⟩) 0 0 (c.drop 4) := by have h := hC.beh (k := 4) (by omega); rw [if_pos e4, show cc - 4 = 0 by omega, show cn - 4 = 0 by omega] at h; exact h
    subst e4
    obtain rfl : cn = 4 := by omega
    go_wp2_with (first
      | (go_at_call 53; have _t := s0; clear s0; refine (four4_any _ _ _ (c) w (hC.keep G) (by omega)).mono ?_; rintro e w1 ⟨rfl, yw1⟩; have b41 := b4.keep yw1 (by simp); have b21 := b2.keep yw1 (by simp); have G1 := grown_trans G yw1; have xw2 : w1.cell? ⟨g4, 5, none⟩ = some _ := b41.cell 5 (by show 5 < 10; decide); have fw2 := b41.free 5; have b42 := b41.set 5 (.int .i64 ((hdV c 4 : Nat) : Int)); have uw2 := grown_set w1 g4 5 (.int .i64 ((hdV c 4 : Nat) : Int)); generalize hww2 : w1.setCell ⟨g4, 5, none⟩ (.int .i64 ((hdV c 4 : Nat) : Int)) = w2 at b42 uw2; have b22 := b21.keep uw2 (fun e => h24 (Option.some.inj e)); have G2 := grown_far G1 uw2 (fun q e => by have e := Option.some.inj e; omega); have s1 : True := trivial)
      | (at_builtin; have _t := s1; clear s1; refine wpList_joinZ rfl _ _ rfl none 0 0 w2.heap.size [] rfl (Ans.nil _ _) (Nat.le_refl _) _ 0 _ (c.drop 4) rfl (hbe.keep G2) (by omega) ?_; intro a5 c5 w3 hA5 y3; rw [Nat.zero_add, List.nil_append] at hA5; have y3 : w2.grownBy w3 none := y3; have b43 := b42.keep y3 (by simp); have b23 := b22.keep y3 (by simp); have G3 := grown_trans G2 y3; have xw4 : w3.cell? ⟨g4, 6, none⟩ = some _ := b43.cell 6 (by show 6 < 10; decide); have fw4 := b43.free 6; have b44 := b43.set 6 (.slice a5 0 c5); have uw4 := grown_set w3 g4 6 (.slice a5 0 c5); generalize hww4 : w3.setCell ⟨g4, 6, none⟩ (.slice a5 0 c5) = w4 at b44 uw4; have b24 := b23.keep uw4 (fun e => h24 (Option.some.inj e)); have G4 := grown_far G3 uw4 (fun q e => by have e := Option.some.inj e; omega)))
    have z2 := G2.size
    have l4 := b42.lt
    have l2 := b22.lt
    refine HK1.out _ _ ?_
    clear HK1
    exact no_t33 w4 wS g2 g4 ⟨2, id, [], 0, 0, hdV c 4, c.drop 4, [], 0, 0⟩ a5 0 c5 none 0 0 b44 b24 h2 ((hA5.kept uw4 (.inr (fun e => by have := hA5.new _ e; omega))).wide z2) (OwGp.nil _ _) (fun e => by have := hA5.new _ e; omega) (by omega) G4
  · have s0 : True := trivial
    have hbe : Rd wS (some ⟨b, off + 4, none⟩) (cn - 4) (cc - 4) (c.drop 4) := by have h := hC.beh (k := 4) (by omega); rw [if_neg e4] at h; exact h
    go_wp2_with (first
      | (go_at_call 53; have _t := s0; clear s0; refine (four4_any _ _ _ (c) w (hC.keep G) (by omega)).mono ?_; rintro e w1 ⟨rfl, yw1⟩; have b41 := b4.keep yw1 (by simp); have b21 := b2.keep yw1 (by simp); have G1 := grown_trans G yw1; have xw2 : w1.cell? ⟨g4, 5, none⟩ = some _ := b41.cell 5 (by show 5 < 10; decide); have fw2 := b41.free 5; have b42 := b41.set 5 (.int .i64 ((hdV c 4 : Nat) : Int)); have uw2 := grown_set w1 g4 5 (.int .i64 ((hdV c 4 : Nat) : Int)); generalize hww2 : w1.setCell ⟨g4, 5, none⟩ (.int .i64 ((hdV c 4 : Nat) : Int)) = w2 at b42 uw2; have b22 := b21.keep uw2 (fun e => h24 (Option.some.inj e)); have G2 := grown_far G1 uw2 (fun q e => by have e := Option.some.inj e; omega); have s1 : True := trivial)
      | (at_builtin; have _t := s1; clear s1; refine wpList_joinZ rfl _ _ rfl none 0 0 w2.heap.size [] rfl (Ans.nil _ _) (Nat.le_refl _) _ (cn - 4) _ (c.drop 4) rfl (hbe.keep G2) (by omega) ?_; intro a5 c5 w3 hA5 y3; rw [Nat.zero_add, List.nil_append] at hA5; have y3 : w2.grownBy w3 none := y3; have b43 := b42.keep y3 (by simp); have b23 := b22.keep y3 (by simp); have G3 := grown_trans G2 y3; have xw4 : w3.cell? ⟨g4, 6, none⟩ = some _ := b43.cell 6 (by show 6 < 10; decide); have fw4 := b43.free 6; have b44 := b43.set 6 (.slice a5 (cn - 4) c5); have uw4 := grown_set w3 g4 6 (.slice a5 (cn - 4) c5); generalize hww4 : w3.setCell ⟨g4, 6, none⟩ (.slice a5 (cn - 4) c5) = w4 at b44 uw4; have b24 := b23.keep uw4 (fun e => h24 (Option.some.inj e)); have G4 := grown_far G3 uw4 (fun q e => by have e := Option.some.inj e; omega)))
    have z2 := G2.size
    have l4 := b42.lt
    have l2 := b22.lt
    refine HK1.out _ _ ?_
    clear HK1
    exact no_t33 w4 wS g2 g4 ⟨2, id, [], 0, 0, hdV c 4, c.drop 4, [], 0, 0⟩ a5 (cn - 4) c5 none 0 0 b44 b24 h2 ((hA5.kept uw4 (.inr (fun e => by have := hA5.new _ e; omega))).wide z2) (OwGp.nil _ _) (fun e => by have := hA5.new _ e; omega) (by omega) G4
end Go.Proofs.Ytnimehkfnpepfaa
