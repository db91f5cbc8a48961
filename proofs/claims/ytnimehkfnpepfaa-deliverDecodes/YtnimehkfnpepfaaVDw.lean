import Derived.Test.YtnimehkfnpepfaaVDu
import Derived.Test.YtnimehkfnpepfaaVDt
import Derived.Test.YtnimehkfnpepfaaVNm
import Derived.Test.YtnimehkfnpepfaaZSub
namespace Go.Proofs.Ytnimehkfnpepfaa
open Go.RowKit
set_option maxRecDepth 100000
set_option linter.unusedVariables false
set_option linter.unusedSimpArgs false


set_option maxHeartbeats 16000000 in
theorem no_n3 {u0 u1 u3 u6 u7 u8 u9 u10 u11 u12 u13 u14 u15 u16 u17 u18 u19 u20 u21 u22 u23 u24 u25 u26 u27 u28 u29 u30 u31 u32 u33 u34 u35 u36 u37 u38 u39 u40 u41 u42 u43 u44 u45 u46 u47 u48 u49 u50 u51 u52 u53 u54 u55 u56 u57 u58 u59 u60 u61 u62 u63 u64 u65 u66 u67 u68 u69 u70 u71 u72 u73 u74 u75 u76 u77 u78 u79 u80 u81 u82 u83 u84 u85 u86 u87 u88 u89 u90 u91 u92 u93 u94 u95 u96 u97 u98 u99 u100 u101 u102 u103 u104 u105 u106 u107 u108 u109 u110 u111 u112 u113 u114 u115 u116 u117 u118 u119 u120 u121 u122 u123 u124 u125 u126 : Value} (w wS : World) (g2 g4 id b off cn cc : Nat) (c : List Nat) (hC : Rd wS (some ⟨b, off, none⟩) cn cc c) (b4 : BxS w g4 27 (ntA (3 : Nat) (id : Int) ByteArray.empty 0 0 0 (.slice none 0 0) (.slice none 0 0) 0 0)) (b2 : BxS w g2 27 ntZ) (h24 : g2 ≠ g4) (h2 : wS.heap.size ≤ g2) (h4 : wS.heap.size ≤ g4) (G : wS.grownBy w none) (hcl : cn ≤ 140737488351232) (hc1 : 1 ≤ cn) (hl : ¬ cn = 8) :
    Code.wp Try.prog (tailR 5 (Try.f17.body.getD .skip)) (bodyPost Try.prog Try.f17 (DocP wS (docK 3 id c))) (Act.mk (List.toArray (u0 :: u1 :: (.pointer (some ⟨g2, 0, none⟩)) :: u3 :: (.pointer (some ⟨g4, 0, none⟩)) :: (.slice (some ⟨b, off, none⟩) cn cc) :: u6 :: u7 :: u8 :: u9 :: u10 :: u11 :: u12 :: u13 :: u14 :: u15 :: u16 :: u17 :: u18 :: u19 :: u20 :: u21 :: u22 :: u23 :: u24 :: u25 :: u26 :: u27 :: u28 :: u29 :: u30 :: u31 :: u32 :: u33 :: u34 :: u35 :: u36 :: u37 :: u38 :: u39 :: u40 :: u41 :: u42 :: u43 :: u44 :: u45 :: u46 :: u47 :: u48 :: u49 :: u50 :: u51 :: u52 :: u53 :: u54 :: u55 :: u56 :: u57 :: u58 :: u59 :: u60 :: u61 :: u62 :: u63 :: u64 :: u65 :: u66 :: u67 :: u68 :: u69 :: u70 :: u71 :: u72 :: u73 :: u74 :: u75 :: u76 :: u77 :: u78 :: u79 :: u80 :: u81 :: u82 :: u83 :: u84 :: u85 :: u86 :: u87 :: u88 :: u89 :: u90 :: u91 :: u92 :: u93 :: u94 :: u95 :: u96 :: u97 :: u98 :: u99 :: u100 :: u101 :: u102 :: u103 :: u104 :: u105 :: u106 :: u107 :: u108 :: u109 :: u110 :: u111 :: u112 :: u113 :: u114 :: u115 :: u116 :: u117 :: u118 :: u119 :: u120 :: u121 :: u122 :: u123 :: u124 :: u125 :: u126 :: [])) []) w := by
  conv => enter [2]; whnf
  have hlen := hC.len
  have hle := hC.le
  have hmx := hC.max
  unfold maxLen at hmx
  unfold ntA at b4
  have i10 := Try.info_nt
  have x0 : w.cell? ⟨g4, 0, none⟩ = some (.int .i64 ((3 : Nat) : Int)) := b4.cell 0 (by show 0 < 10; decide)
  rw [show docK 3 id c = none from by unfold docK; rw [if_neg (by decide), if_neg (by decide), if_pos rfl, if_neg (by omega)]]
  have d8 : ¬ (cn : Int) = 8 := by omega
  have s0 : True := trivial
  go_wp2_with (have _t := s0; clear s0; refine wpList_stX _ rfl _ (.tmp 2) (.tmp 59) rfl g2 _ _ rfl rfl b2 i10 rfl (by simp [Value.oneCell']) ?_; intro w6 b26 u6)
  refine bodyPost_ret (results_cell1t rfl _ _ _ ⟨g2, 0, none⟩ _ (.int .i64 8) rfl (BxS.load (t := 27) b26 Try.underlying27 Try.info_nt) rfl) rfl ?_
  exact ⟨rfl, grown_far G u6 (fun q e => by have e := Option.some.inj e; omega)⟩

set_option maxHeartbeats 16000000 in
theorem no_n5 {u0 u1 u3 u6 u7 u8 u9 u10 u11 u12 u13 u14 u15 u16 u17 u18 u19 u20 u21 u22 u23 u24 u25 u26 u27 u28 u29 u30 u31 u32 u33 u34 u35 u36 u37 u38 u39 u40 u41 u42 u43 u44 u45 u46 u47 u48 u49 u50 u51 u52 u53 u54 u55 u56 u57 u58 u59 u60 u61 u62 u63 u64 u65 u66 u67 u68 u69 u70 u71 u72 u73 u74 u75 u76 u77 u78 u79 u80 u81 u82 u83 u84 u85 u86 u87 u88 u89 u90 u91 u92 u93 u94 u95 u96 u97 u98 u99 u100 u101 u102 u103 u104 u105 u106 u107 u108 u109 u110 u111 u112 u113 u114 u115 u116 u117 u118 u119 u120 u121 u122 u123 u124 u125 u126 : Value} (w wS : World) (g2 g4 id b off cn cc : Nat) (c : List Nat) (hC : Rd wS (some ⟨b, off, none⟩) cn cc c) (b4 : BxS w g4 27 (ntA (5 : Nat) (id : Int) ByteArray.empty 0 0 0 (.slice none 0 0) (.slice none 0 0) 0 0)) (b2 : BxS w g2 27 ntZ) (h24 : g2 ≠ g4) (h2 : wS.heap.size ≤ g2) (h4 : wS.heap.size ≤ g4) (G : wS.grownBy w none) (hcl : cn ≤ 140737488351232) (hc1 : 1 ≤ cn) (hl : ¬ cn = 1) :
    Code.wp Try.prog (tailR 5 (Try.f17.body.getD .skip)) (bodyPost Try.prog Try.f17 (DocP wS (docK 5 id c))) (Act.mk (List.toArray (u0 :: u1 :: (.pointer (some ⟨g2, 0, none⟩)) :: u3 :: (.pointer (some ⟨g4, 0, none⟩)) :: (.slice (some ⟨b, off, none⟩) cn cc) :: u6 :: u7 :: u8 :: u9 :: u10 :: u11 :: u12 :: u13 :: u14 :: u15 :: u16 :: u17 :: u18 :: u19 :: u20 :: u21 :: u22 :: u23 :: u24 :: u25 :: u26 :: u27 :: u28 :: u29 :: u30 :: u31 :: u32 :: u33 :: u34 :: u35 :: u36 :: u37 :: u38 :: u39 :: u40 :: u41 :: u42 :: u43 :: u44 :: u45 :: u46 :: u47 :: u48 :: u49 :: u50 :: u51 :: u52 :: u53 :: u54 :: u55 :: u56 :: u57 :: u58 :: u59 :: u60 :: u61 :: u62 :: u63 :: u64 :: u65 :: u66 :: u67 :: u68 :: u69 :: u70 :: u71 :: u72 :: u73 :: u74 :: u75 :: u76 :: u77 :: u78 :: u79 :: u80 :: u81 :: u82 :: u83 :: u84 :: u85 :: u86 :: u87 :: u88 :: u89 :: u90 :: u91 :: u92 :: u93 :: u94 :: u95 :: u96 :: u97 :: u98 :: u99 :: u100 :: u101 :: u102 :: u103 :: u104 :: u105 :: u106 :: u107 :: u108 :: u109 :: u110 :: u111 :: u112 :: u113 :: u114 :: u115 :: u116 :: u117 :: u118 :: u119 :: u120 :: u121 :: u122 :: u123 :: u124 :: u125 :: u126 :: [])) []) w := by
  conv => enter [2]; whnf
  have hlen := hC.len
  have hle := hC.le
  have hmx := hC.max
  unfold maxLen at hmx
  unfold ntA at b4
  have i10 := Try.info_nt
  have x0 : w.cell? ⟨g4, 0, none⟩ = some (.int .i64 ((5 : Nat) : Int)) := b4.cell 0 (by show 0 < 10; decide)
  rw [show docK 5 id c = none from by unfold docK; rw [if_neg (by decide), if_neg (by decide), if_neg (by decide), if_neg (by decide), if_pos rfl, if_neg (by omega)]]
  have d8 : ¬ (cn : Int) = 1 := by omega
  have s0 : True := trivial
  go_wp2_with (have _t := s0; clear s0; refine wpList_stX _ rfl _ (.tmp 2) (.tmp 105) rfl g2 _ _ rfl rfl b2 i10 rfl (by simp [Value.oneCell']) ?_; intro w6 b26 u6)
  refine bodyPost_ret (results_cell1t rfl _ _ _ ⟨g2, 0, none⟩ _ (.int .i64 8) rfl (BxS.load (t := 27) b26 Try.underlying27 Try.info_nt) rfl) rfl ?_
  exact ⟨rfl, grown_far G u6 (fun q e => by have e := Option.some.inj e; omega)⟩

set_option maxHeartbeats 16000000 in
theorem no_n6 {u0 u1 u3 u6 u7 u8 u9 u10 u11 u12 u13 u14 u15 u16 u17 u18 u19 u20 u21 u22 u23 u24 u25 u26 u27 u28 u29 u30 u31 u32 u33 u34 u35 u36 u37 u38 u39 u40 u41 u42 u43 u44 u45 u46 u47 u48 u49 u50 u51 u52 u53 u54 u55 u56 u57 u58 u59 u60 u61 u62 u63 u64 u65 u66 u67 u68 u69 u70 u71 u72 u73 u74 u75 u76 u77 u78 u79 u80 u81 u82 u83 u84 u85 u86 u87 u88 u89 u90 u91 u92 u93 u94 u95 u96 u97 u98 u99 u100 u101 u102 u103 u104 u105 u106 u107 u108 u109 u110 u111 u112 u113 u114 u115 u116 u117 u118 u119 u120 u121 u122 u123 u124 u125 u126 : Value} (w wS : World) (g2 g4 id b off cn cc : Nat) (c : List Nat) (hC : Rd wS (some ⟨b, off, none⟩) cn cc c) (b4 : BxS w g4 27 (ntA (6 : Nat) (id : Int) ByteArray.empty 0 0 0 (.slice none 0 0) (.slice none 0 0) 0 0)) (b2 : BxS w g2 27 ntZ) (h24 : g2 ≠ g4) (h2 : wS.heap.size ≤ g2) (h4 : wS.heap.size ≤ g4) (G : wS.grownBy w none) (hcl : cn ≤ 140737488351232) (hc1 : 1 ≤ cn) (hl : ¬ cn = 1) :
    Code.wp Try.prog (tailR 5 (Try.f17.body.getD .skip)) (bodyPost Try.prog Try.f17 (DocP wS (docK 6 id c))) (Act.mk (List.toArray (u0 :: u1 :: (.pointer (some ⟨g2, 0, none⟩)) :: u3 :: (.pointer (some ⟨g4, 0, none⟩)) :: (.slice (some ⟨b, off, none⟩) cn cc) :: u6 :: u7 :: u8 :: u9 :: u10 :: u11 :: u12 :: u13 :: u14 :: u15 :: u16 :: u17 :: u18 :: u19 :: u20 :: u21 :: u22 :: u23 :: u24 :: u25 :: u26 :: u27 :: u28 :: u29 :: u30 :: u31 :: u32 :: u33 :: u34 :: u35 :: u36 :: u37 :: u38 :: u39 :: u40 :: u41 :: u42 :: u43 :: u44 :: u45 :: u46 :: u47 :: u48 :: u49 :: u50 :: u51 :: u52 :: u53 :: u54 :: u55 :: u56 :: u57 :: u58 :: u59 :: u60 :: u61 :: u62 :: u63 :: u64 :: u65 :: u66 :: u67 :: u68 :: u69 :: u70 :: u71 :: u72 :: u73 :: u74 :: u75 :: u76 :: u77 :: u78 :: u79 :: u80 :: u81 :: u82 :: u83 :: u84 :: u85 :: u86 :: u87 :: u88 :: u89 :: u90 :: u91 :: u92 :: u93 :: u94 :: u95 :: u96 :: u97 :: u98 :: u99 :: u100 :: u101 :: u102 :: u103 :: u104 :: u105 :: u106 :: u107 :: u108 :: u109 :: u110 :: u111 :: u112 :: u113 :: u114 :: u115 :: u116 :: u117 :: u118 :: u119 :: u120 :: u121 :: u122 :: u123 :: u124 :: u125 :: u126 :: [])) []) w := by
  conv => enter [2]; whnf
  have hlen := hC.len
  have hle := hC.le
  have hmx := hC.max
  unfold maxLen at hmx
  unfold ntA at b4
  have i10 := Try.info_nt
  have x0 : w.cell? ⟨g4, 0, none⟩ = some (.int .i64 ((6 : Nat) : Int)) := b4.cell 0 (by show 0 < 10; decide)
  rw [show docK 6 id c = none from by unfold docK; rw [if_neg (by decide), if_neg (by decide), if_neg (by decide), if_neg (by decide), if_neg (by decide), if_pos rfl, if_neg (by omega)]]
  have d8 : ¬ (cn : Int) = 1 := by omega
  have s0 : True := trivial
  go_wp2_with (have _t := s0; clear s0; refine wpList_stX _ rfl _ (.tmp 2) (.tmp 116) rfl g2 _ _ rfl rfl b2 i10 rfl (by simp [Value.oneCell']) ?_; intro w6 b26 u6)
  refine bodyPost_ret (results_cell1t rfl _ _ _ ⟨g2, 0, none⟩ _ (.int .i64 8) rfl (BxS.load (t := 27) b26 Try.underlying27 Try.info_nt) rfl) rfl ?_
  exact ⟨rfl, grown_far G u6 (fun q e => by have e := Option.some.inj e; omega)⟩

set_option maxHeartbeats 16000000 in
theorem no_k5 {u0 u1 u3 u6 u7 u8 u9 u10 u11 u12 u13 u14 u15 u16 u17 u18 u19 u20 u21 u22 u23 u24 u25 u26 u27 u28 u29 u30 u31 u32 u33 u34 u35 u36 u37 u38 u39 u40 u41 u42 u43 u44 u45 u46 u47 u48 u49 u50 u51 u52 u53 u54 u55 u56 u57 u58 u59 u60 u61 u62 u63 u64 u65 u66 u67 u68 u69 u70 u71 u72 u73 u74 u75 u76 u77 u78 u79 u80 u81 u82 u83 u84 u85 u86 u87 u88 u89 u90 u91 u92 u93 u94 u95 u96 u97 u98 u99 u100 u101 u102 u103 u104 u105 u106 u107 u108 u109 u110 u111 u112 u113 u114 u115 u116 u117 u118 u119 u120 u121 u122 u123 u124 u125 u126 : Value} (w wS : World) (g2 g4 id b off cn cc : Nat) (c : List Nat) (hC : Rd wS (some ⟨b, off, none⟩) cn cc c) (b4 : BxS w g4 27 (ntA (5 : Nat) (id : Int) ByteArray.empty 0 0 0 (.slice none 0 0) (.slice none 0 0) 0 0)) (b2 : BxS w g2 27 ntZ) (h24 : g2 ≠ g4) (h2 : wS.heap.size ≤ g2) (h4 : wS.heap.size ≤ g4) (G : wS.grownBy w none) (hcl : cn ≤ 140737488351232) (hc1 : 1 ≤ cn) (hl : cn = 1) :
    Code.wp Try.prog (tailR 5 (Try.f17.body.getD .skip)) (bodyPost Try.prog Try.f17 (DocP wS (docK 5 id c))) (Act.mk (List.toArray (u0 :: u1 :: (.pointer (some ⟨g2, 0, none⟩)) :: u3 :: (.pointer (some ⟨g4, 0, none⟩)) :: (.slice (some ⟨b, off, none⟩) cn cc) :: u6 :: u7 :: u8 :: u9 :: u10 :: u11 :: u12 :: u13 :: u14 :: u15 :: u16 :: u17 :: u18 :: u19 :: u20 :: u21 :: u22 :: u23 :: u24 :: u25 :: u26 :: u27 :: u28 :: u29 :: u30 :: u31 :: u32 :: u33 :: u34 :: u35 :: u36 :: u37 :: u38 :: u39 :: u40 :: u41 :: u42 :: u43 :: u44 :: u45 :: u46 :: u47 :: u48 :: u49 :: u50 :: u51 :: u52 :: u53 :: u54 :: u55 :: u56 :: u57 :: u58 :: u59 :: u60 :: u61 :: u62 :: u63 :: u64 :: u65 :: u66 :: u67 :: u68 :: u69 :: u70 :: u71 :: u72 :: u73 :: u74 :: u75 :: u76 :: u77 :: u78 :: u79 :: u80 :: u81 :: u82 :: u83 :: u84 :: u85 :: u86 :: u87 :: u88 :: u89 :: u90 :: u91 :: u92 :: u93 :: u94 :: u95 :: u96 :: u97 :: u98 :: u99 :: u100 :: u101 :: u102 :: u103 :: u104 :: u105 :: u106 :: u107 :: u108 :: u109 :: u110 :: u111 :: u112 :: u113 :: u114 :: u115 :: u116 :: u117 :: u118 :: u119 :: u120 :: u121 :: u122 :: u123 :: u124 :: u125 :: u126 :: [])) []) w := by
  conv => enter [2]; whnf
  have hlen := hC.len
  have hle := hC.le
  have hmx := hC.max
  unfold maxLen at hmx
  unfold ntA at b4
  have i10 := Try.info_nt
  have x0 : w.cell? ⟨g4, 0, none⟩ = some (.int .i64 ((5 : Nat) : Int)) := b4.cell 0 (by show 0 < 10; decide)
  rw [show docK 5 id c = some ⟨5, id, [], 0, 0, 0, [], [], 0, hdV c 1⟩ from by unfold docK; rw [if_neg (by decide), if_neg (by decide), if_neg (by decide), if_neg (by decide), if_pos rfl, if_pos (by omega)]]
  obtain ⟨b', off', e', hb', hc'⟩ := (hC.keep G).at' (by omega)
  cases e'
  have q0 := hc' 0 (by omega)
  rw [Nat.add_zero] at q0
  have v0 := hC.byte.nth 0
  have hV : hdV c 1 = nth c 0 := by show 0 * 256 + nth c 0 = _; omega
  rw [hV]
  clear hV hc'
  generalize nth c 0 = v at *
  have hv : IntKind.i64.wrap (v : Int) = (v : Int) := wrap_i64_in _ (by omega) (by omega)
  subst hl
  have xw1 : w.cell? ⟨g4, 9, none⟩ = some _ := b4.cell 9 (by show 9 < 10; decide); have fw1 := b4.free 9; have b41 := b4.set 9 (.int .i64 (v : Int)); have uw1 := grown_set w g4 9 (.int .i64 (v : Int)); generalize hww1 : w.setCell ⟨g4, 9, none⟩ (.int .i64 (v : Int)) = w1 at b41 uw1; have b21 := b2.keep uw1 (fun e => h24 (Option.some.inj e)); have G1 := grown_far G uw1 (fun q e => by have e := Option.some.inj e; omega)
  refine wp_seq_k fun K1 hK1 => ?_
  have HK1 : Hid _ := hK1
  clear hK1
  go_wp2
  refine HK1.out _ _ ?_
  clear HK1
  exact no_t33 w1 wS g2 g4 ⟨5, id, [], 0, 0, 0, [], [], 0, v⟩ none 0 0 none 0 0 b41 b21 h2 (Ans.nil _ _) (OwGp.nil _ _) (fun e => by cases e) (by omega) G1

set_option maxHeartbeats 16000000 in
theorem no_k6 {u0 u1 u3 u6 u7 u8 u9 u10 u11 u12 u13 u14 u15 u16 u17 u18 u19 u20 u21 u22 u23 u24 u25 u26 u27 u28 u29 u30 u31 u32 u33 u34 u35 u36 u37 u38 u39 u40 u41 u42 u43 u44 u45 u46 u47 u48 u49 u50 u51 u52 u53 u54 u55 u56 u57 u58 u59 u60 u61 u62 u63 u64 u65 u66 u67 u68 u69 u70 u71 u72 u73 u74 u75 u76 u77 u78 u79 u80 u81 u82 u83 u84 u85 u86 u87 u88 u89 u90 u91 u92 u93 u94 u95 u96 u97 u98 u99 u100 u101 u102 u103 u104 u105 u106 u107 u108 u109 u110 u111 u112 u113 u114 u115 u116 u117 u118 u119 u120 u121 u122 u123 u124 u125 u126 : Value} (w wS : World) (g2 g4 id b off cn cc : Nat) (c : List Nat) (hC : Rd wS (some ⟨b, off, none⟩) cn cc c) (b4 : BxS w g4 27 (ntA (6 : Nat) (id : Int) ByteArray.empty 0 0 0 (.slice none 0 0) (.slice none 0 0) 0 0)) (b2 : BxS w g2 27 ntZ) (h24 : g2 ≠ g4) (h2 : wS.heap.size ≤ g2) (h4 : wS.heap.size ≤ g4) (G : wS.grownBy w none) (hcl : cn ≤ 140737488351232) (hc1 : 1 ≤ cn) (hl : cn = 1) :
    Code.wp Try.prog (tailR 5 (Try.f17.body.getD .skip)) (bodyPost Try.prog Try.f17 (DocP wS (docK 6 id c))) (Act.mk (List.toArray (u0 :: u1 :: (.pointer (some ⟨g2, 0, none⟩)) :: u3 :: (.pointer (some ⟨g4, 0, none⟩)) :: (.slice (some ⟨b, off, none⟩) cn cc) :: u6 :: u7 :: u8 :: u9 :: u10 :: u11 :: u12 :: u13 :: u14 :: u15 :: u16 :: u17 :: u18 :: u19 :: u20 :: u21 :: u22 :: u23 :: u24 :: u25 :: u26 :: u27 :: u28 :: u29 :: u30 :: u31 :: u32 :: u33 :: u34 :: u35 :: u36 :: u37 :: u38 :: u39 :: u40 :: u41 :: u42 :: u43 :: u44 :: u45 :: u46 :: u47 :: u48 :: u49 :: u50 :: u51 :: u52 :: u53 :: u54 :: u55 :: u56 :: u57 :: u58 :: u59 :: u60 :: u61 :: u62 :: u63 :: u64 :: u65 :: u66 :: u67 :: u68 :: u69 :: u70 :: u71 :: u72 :: u73 :: u74 :: u75 :: u76 :: u77 :: u78 :: u79 :: u80 :: u81 :: u82 :: u83 :: u84 :: u85 :: u86 :: u87 :: u88 :: u89 :: u90 :: u91 :: u92 :: u93 :: u94 :: u95 :: u96 :: u97 :: u98 :: u99 :: u100 :: u101 :: u102 :: u103 :: u104 :: u105 :: u106 :: u107 :: u108 :: u109 :: u110 :: u111 :: u112 :: u113 :: u114 :: u115 :: u116 :: u117 :: u118 :: u119 :: u120 :: u121 :: u122 :: u123 :: u124 :: u125 :: u126 :: [])) []) w := by
  conv => enter [2]; whnf
  have hlen := hC.len
  have hle := hC.le
  have hmx := hC.max
  unfold maxLen at hmx
  unfold ntA at b4
  have i10 := Try.info_nt
  have x0 : w.cell? ⟨g4, 0, none⟩ = some (.int .i64 ((6 : Nat) : Int)) := b4.cell 0 (by show 0 < 10; decide)
  rw [show docK 6 id c = some ⟨6, id, [], 0, 0, 0, [], [], hdV c 1, 0⟩ from by unfold docK; rw [if_neg (by decide), if_neg (by decide), if_neg (by decide), if_neg (by decide), if_neg (by decide), if_pos rfl, if_pos (by omega)]]
  obtain ⟨b', off', e', hb', hc'⟩ := (hC.keep G).at' (by omega)
  cases e'
  have q0 := hc' 0 (by omega)
  rw [Nat.add_zero] at q0
  have v0 := hC.byte.nth 0
  have hV : hdV c 1 = nth c 0 := by show 0 * 256 + nth c 0 = _; omega
  rw [hV]
  clear hV hc'
  generalize nth c 0 = v at *
  have hv : IntKind.i64.wrap (v : Int) = (v : Int) := wrap_i64_in _ (by omega) (by omega)
  subst hl
  have xw1 : w.cell? ⟨g4, 8, none⟩ = some _ := b4.cell 8 (by show 8 < 10; decide); have fw1 := b4.free 8; have b41 := b4.set 8 (.int .i64 (v : Int)); have uw1 := grown_set w g4 8 (.int .i64 (v : Int)); generalize hww1 : w.setCell ⟨g4, 8, none⟩ (.int .i64 (v : Int)) = w1 at b41 uw1; have b21 := b2.keep uw1 (fun e => h24 (Option.some.inj e)); have G1 := grown_far G uw1 (fun q e => by have e := Option.some.inj e; omega)
  refine wp_seq_k fun K1 hK1 => ?_
  have HK1 : Hid _ := hK1
  clear hK1
  go_wp2
  refine HK1.out _ _ ?_
  clear HK1
  exact no_t33 w1 wS g2 g4 ⟨6, id, [], 0, 0, 0, [], [], v, 0⟩ none 0 0 none 0 0 b41 b21 h2 (Ans.nil _ _) (OwGp.nil _ _) (fun e => by cases e) (by omega) G1

set_option maxHeartbeats 16000000 in
theorem no_k0 {u0 u1 u3 u6 u7 u8 u9 u10 u11 u12 u13 u14 u15 u16 u17 u18 u19 u20 u21 u22 u23 u24 u25 u26 u27 u28 u29 u30 u31 u32 u33 u34 u35 u36 u37 u38 u39 u40 u41 u42 u43 u44 u45 u46 u47 u48 u49 u50 u51 u52 u53 u54 u55 u56 u57 u58 u59 u60 u61 u62 u63 u64 u65 u66 u67 u68 u69 u70 u71 u72 u73 u74 u75 u76 u77 u78 u79 u80 u81 u82 u83 u84 u85 u86 u87 u88 u89 u90 u91 u92 u93 u94 u95 u96 u97 u98 u99 u100 u101 u102 u103 u104 u105 u106 u107 u108 u109 u110 u111 u112 u113 u114 u115 u116 u117 u118 u119 u120 u121 u122 u123 u124 u125 u126 : Value} (w wS : World) (g2 g4 id b off cn cc : Nat) (k : Nat) (hk : k = 0 ∨ 6 < k) (c : List Nat) (hC : Rd wS (some ⟨b, off, none⟩) cn cc c) (b4 : BxS w g4 27 (ntA (k : Nat) (id : Int) ByteArray.empty 0 0 0 (.slice none 0 0) (.slice none 0 0) 0 0)) (b2 : BxS w g2 27 ntZ) (h24 : g2 ≠ g4) (h2 : wS.heap.size ≤ g2) (h4 : wS.heap.size ≤ g4) (G : wS.grownBy w none) (hcl : cn ≤ 140737488351232) (hc1 : 1 ≤ cn)  :
    Code.wp Try.prog (tailR 5 (Try.f17.body.getD .skip)) (bodyPost Try.prog Try.f17 (DocP wS (docK k id c))) (Act.mk (List.toArray (u0 :: u1 :: (.pointer (some ⟨g2, 0, none⟩)) :: u3 :: (.pointer (some ⟨g4, 0, none⟩)) :: (.slice (some ⟨b, off, none⟩) cn cc) :: u6 :: u7 :: u8 :: u9 :: u10 :: u11 :: u12 :: u13 :: u14 :: u15 :: u16 :: u17 :: u18 :: u19 :: u20 :: u21 :: u22 :: u23 :: u24 :: u25 :: u26 :: u27 :: u28 :: u29 :: u30 :: u31 :: u32 :: u33 :: u34 :: u35 :: u36 :: u37 :: u38 :: u39 :: u40 :: u41 :: u42 :: u43 :: u44 :: u45 :: u46 :: u47 :: u48 :: u49 :: u50 :: u51 :: u52 :: u53 :: u54 :: u55 :: u56 :: u57 :: u58 :: u59 :: u60 :: u61 :: u62 :: u63 :: u64 :: u65 :: u66 :: u67 :: u68 :: u69 :: u70 :: u71 :: u72 :: u73 :: u74 :: u75 :: u76 :: u77 :: u78 :: u79 :: u80 :: u81 :: u82 :: u83 :: u84 :: u85 :: u86 :: u87 :: u88 :: u89 :: u90 :: u91 :: u92 :: u93 :: u94 :: u95 :: u96 :: u97 :: u98 :: u99 :: u100 :: u101 :: u102 :: u103 :: u104 :: u105 :: u106 :: u107 :: u108 :: u109 :: u110 :: u111 :: u112 :: u113 :: u114 :: u115 :: u116 :: u117 :: u118 :: u119 :: u120 :: u121 :: u122 :: u123 :: u124 :: u125 :: u126 :: [])) []) w := by
  conv => enter [2]; whnf
  have hlen := hC.len
  have hle := hC.le
  have hmx := hC.max
  unfold maxLen at hmx
  unfold ntA at b4
  have i10 := Try.info_nt
  have x0 : w.cell? ⟨g4, 0, none⟩ = some (.int .i64 ((k : Nat) : Int)) := b4.cell 0 (by show 0 < 10; decide)
  rw [show docK k id c = some ⟨k, id, [], 0, 0, 0, [], [], 0, 0⟩ from by unfold docK; rw [if_neg (by omega), if_neg (by omega), if_neg (by omega), if_neg (by omega), if_neg (by omega), if_neg (by omega)]]
  have n1 : ¬ (k : Int) = 1 := by omega
  have n2 : ¬ (k : Int) = 2 := by omega
  have n3 : ¬ (k : Int) = 3 := by omega
  have n4 : ¬ (k : Int) = 4 := by omega
  have n5 : ¬ (k : Int) = 5 := by omega
  have n6 : ¬ (k : Int) = 6 := by omega
  refine wp_seq_k fun K1 hK1 => ?_
  have HK1 : Hid _ := hK1
  clear hK1
  go_wp2
  refine HK1.out _ _ ?_
  clear HK1
  exact no_t33 w wS g2 g4 ⟨k, id, [], 0, 0, 0, [], [], 0, 0⟩ none 0 0 none 0 0 b4 b2 h2 (Ans.nil _ _) (OwGp.nil _ _) (fun e => by cases e) (by omega) G
end Go.Proofs.Ytnimehkfnpepfaa
