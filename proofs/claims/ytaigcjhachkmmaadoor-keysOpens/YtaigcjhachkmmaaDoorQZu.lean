import Derived.Test.YtaigcjhachkmmaaDoorQX
import Derived.Test.YtaigcjhachkmmaaDoorQEJ
namespace Go.Proofs.YtaigcjhachkmmaaDoor
open Go.RowKit
set_option maxRecDepth 100000
set_option linter.unusedVariables false
set_option linter.unusedSimpArgs false

theorem Ans.blk {w : World} {lo : Nat} {a : Option Addr} {n c : Nat} {L : List Nat} (h : Ans w lo a n c L) : ∀ g off, a = some ⟨g, off, none⟩ → g < w.heap.size := by
  intro g off e
  rcases h.own.2 with ⟨h1, _⟩ | ⟨g', cap', cur, h1, _, h3, _⟩
  · cases h1; cases e
  · simp only [Value.slice.injEq] at h1
    rw [h1.1] at e
    cases e
    exact (Array.getElem?_eq_some_iff.1 h3).1

set_option maxHeartbeats 16000000 in
theorem un_t34 {u0 u3 u5 u6 u7 u12 u13 u14 u15 u16 u17 u18 u19 u20 u21 u22 u23 u24 u25 u26 u27 u28 u29 u30 u31 u32 u33 u34 u35 u36 u37 u38 u39 u40 u41 u42 u43 u44 u45 u46 u47 u48 u49 u50 u51 u52 u53 u54 u55 u56 u57 u58 u59 u60 u61 u62 u63 u64 u65 u66 u67 u68 u69 u70 u71 u72 u73 u74 u75 u76 u77 u78 u79 u80 u81 u82 u83 u84 u85 u86 u87 u88 u89 u90 u91 u92 u93 u94 u95 u96 u97 u98 u99 u100 u101 u102 u103 u104 u105 u106 u107 u108 u109 u110 u111 u112 u113 u114 u115 u116 u117 u118 u119 u120 u121 u122 u123 u124 u125 u126 u127 u128 u129 u130 u131 u132 u133 u134 u135 u136 u137 u138 u139 u140 u141 u142 u143 u144 u145 u146 u147 u148 u149 u150 u151 u152 u153 u154 u155 u156 u157 u158 u159 u160 u161 u162 u163 u164 u165 u166 u167 u168 u169 u170 u171 u172 u173 u174 u175 u176 u177 : Value} (Q : Exit → Act → World → Prop) (w0 w : World) (g2 g4 g10 lo gr n c2 j m cb bb ob cN s kc : Nat) (ks : List Kw) (R V : List Kd) (B Y : List Nat) (I E : Nat) (ka : Option Addr) (ki kt : Int) (kW : List Int) (hret : ∀ a wz, bodyPost Tryd.prog Tryd.f6 (fun e w' => ∃ (a' : Option Addr) (n' c' : Nat) (ya : Option Addr) (yn yc : Nat), e = .returned (.tuple #[.agg #[.slice a' n' c'], .slice ya yn yc, .int .i64 (I : Int), .int .i64 (E : Int)]) ∧ RdG w' a' n' c' V ∧ Rd w' ya yn yc Y ∧ (∀ g off, ya = some ⟨g, off, none⟩ → g < w'.heap.size) ∧ w0.grownBy w' none) .ret a wz → Q .ret a wz) (hP : ∀ c a a' wz, a.defers = a'.defers → Q (.panic c) a wz → Q (.panic c) a' wz) (G0 : w0.grownBy w none) (hb0 : Rd w0 (some ⟨bb, ob, none⟩) (m + 8) cb B) (hm : 7 ≤ m ∧ m ≤ 1007) (b2 : BxS w g2 24 #[.slice (some ⟨gr, 0, none⟩) n c2]) (b4 : BxS w g4 24 #[.slice none 0 0]) (hO : OwG w lo (some ⟨gr, 0, none⟩) n c2 ks R) (hi : ks[j]? = some ⟨ki, ka, 8, kc, kW, kt, (s : Int)⟩) (hhi : ∀ x, Okb (.slice (some ⟨gr, 0, none⟩) n c2) ks x → x < g10) (h24 : w0.heap.size ≤ g2 ∧ g2 < g4 ∧ g4 < lo ∧ lo ≤ g10) (hWW : ∀ i, i < 8 → nthI kW i = ((nthI kW i).toNat : Int) ∧ (nthI kW i).toNat < 4294967296) (hs2 : s < 4611686018427387904) (hkt : -1 ≤ kt ∧ kt ≤ 281474976710655) (hcl : cN < 281474976710656) (kt2 : Int) (s2 : Nat) (hkb : I64 kt2 ∧ I64 (s2 : Int)) (b10 : BxS w g10 36 #[.int .i64 ki, .slice ka 8 kc, .int .i64 kt2, .int .i64 (s2 : Int)]) (hV : V = R.set j ⟨ki, kW, kt2, (s2 : Int)⟩) (hY : Y = cvL (fun x => (nthI kW x).toNat) cN ((B.take m).drop 7)) (hI : (I : Int) = ki) (hE : E = 0) :
    Code.wp Tryd.prog (tailR 34 (Tryd.f6.body.getD .skip)) Q (Act.mk (List.toArray (u0 :: (.slice (some ⟨bb, ob, none⟩) (m + 8) cb) :: (.pointer (some ⟨g2, 0, none⟩)) :: u3 :: (.pointer (some ⟨g4, 0, none⟩)) :: u5 :: u6 :: u7 :: (.int .i64 ((m : Int) + 8)) :: (.int .i64 (j : Int)) :: (.pointer (some ⟨g10, 0, none⟩)) :: (.int .i64 (cN : Int)) :: u12 :: u13 :: u14 :: u15 :: u16 :: u17 :: u18 :: u19 :: u20 :: u21 :: u22 :: u23 :: u24 :: u25 :: u26 :: u27 :: u28 :: u29 :: u30 :: u31 :: u32 :: u33 :: u34 :: u35 :: u36 :: u37 :: u38 :: u39 :: u40 :: u41 :: u42 :: u43 :: u44 :: u45 :: u46 :: u47 :: u48 :: u49 :: u50 :: u51 :: u52 :: u53 :: u54 :: u55 :: u56 :: u57 :: u58 :: u59 :: u60 :: u61 :: u62 :: u63 :: u64 :: u65 :: u66 :: u67 :: u68 :: u69 :: u70 :: u71 :: u72 :: u73 :: u74 :: u75 :: u76 :: u77 :: u78 :: u79 :: u80 :: u81 :: u82 :: u83 :: u84 :: u85 :: u86 :: u87 :: u88 :: u89 :: u90 :: u91 :: u92 :: u93 :: u94 :: u95 :: u96 :: u97 :: u98 :: u99 :: u100 :: u101 :: u102 :: u103 :: u104 :: u105 :: u106 :: u107 :: u108 :: u109 :: u110 :: u111 :: u112 :: u113 :: u114 :: u115 :: u116 :: u117 :: u118 :: u119 :: u120 :: u121 :: u122 :: u123 :: u124 :: u125 :: u126 :: u127 :: u128 :: u129 :: u130 :: u131 :: u132 :: u133 :: u134 :: u135 :: u136 :: u137 :: u138 :: u139 :: u140 :: u141 :: u142 :: u143 :: u144 :: u145 :: u146 :: u147 :: u148 :: u149 :: u150 :: u151 :: u152 :: u153 :: u154 :: u155 :: u156 :: u157 :: u158 :: u159 :: u160 :: u161 :: u162 :: u163 :: u164 :: u165 :: u166 :: u167 :: u168 :: u169 :: u170 :: u171 :: u172 :: u173 :: u174 :: u175 :: u176 :: u177 :: [])) []) w := by
  let pq : Exit → Act → World → Prop := bodyPost Tryd.prog Tryd.f6 (fun _ _ => True)
  conv => enter [2]; whnf
  refine wp_seq_k fun K1 hK1 => ?_
  have HK1 : Hid _ := hK1
  clear hK1
  have hle := hb0.le
  have m1 : (m : Int) + 8 ≤ (cb : Int) := by omega
  have m2 : (m : Int) ≤ (cb : Int) := by omega
  have m3 : ¬ cb = m := by omega
  have m5 : ¬ cb = 7 := by omega
  have m6 : (7 : Int) ≤ (cb : Int) := by omega
  have m7 : (7 : Int) ≤ (m : Int) := by omega
  have m8 : (7 : Int) ≤ (m : Int) + 8 := by omega
  have mw : IntKind.i64.wrap ((m : Int) + 8 - 8) = (m : Int) := by rw [show (m : Int) + 8 - 8 = (m : Int) by omega]; exact wrap_i64_in _ (by omega) (by omega)
  have mw2 : IntKind.i64.wrap (m : Int) = (m : Int) := wrap_i64_in _ (by omega) (by omega)
  have hln := hO.o.len
  have hjn : j < n := by have := (List.getElem?_eq_some_iff.1 hi).1; omega
  have hjn' : (j : Int) < (n : Int) := by omega
  have hmem := List.mem_of_getElem? hi
  have x0 : w.cell? ⟨g2, 0, none⟩ = some (.slice (some ⟨gr, 0, none⟩) n c2) := b2.cell 0 (by show 0 < 1; decide)
  obtain ⟨t0, t1, t2, t3⟩ := BxS.cell4 b10
  have i1 := Tryd.info_rg1
  have i4 := Tryd.info_ky4
  have hgr := hhi gr (.inl rfl)
  have hlr := hO.o.new gr rfl
  have s0 : True := trivial
  go_wp2_with (have _t := s0; clear s0; refine wpList_stKy w rfl _ _ rfl gr j n c2 ks ⟨ki, ka, 8, kc, kW, kt2, (s2 : Int)⟩ rfl rfl hO.o.own hln hjn ?_; intro w3 ho3 u3)
  refine HK1.out _ _ ?_
  clear HK1
  clear x0 t0 t1 t2 t3
  have hO3 := hO.setTs (q := ⟨ki, ka, 8, kc, kW, kt2, (s2 : Int)⟩) hi ⟨rfl, rfl, rfl, rfl⟩ ⟨(hO.o.bd _ hmem).1, hkb⟩ ho3 u3
  have b23 := b2.keep u3 (fun e => by have e := Option.some.inj e; omega)
  have b43 := b4.keep u3 (fun e => by have e := Option.some.inj e; omega)
  have b103 := b10.keep u3 (fun e => by have e := Option.some.inj e; omega)
  have G3 := grown_far G0 u3 (fun q e => by have e := Option.some.inj e; omega)
  have hi3 : (ks.set j ⟨ki, ka, 8, kc, kW, kt2, (s2 : Int)⟩)[j]? = some ⟨ki, ka, 8, kc, kW, kt2, (s2 : Int)⟩ := List.getElem?_set_self (by omega)
  have hm3 := List.mem_of_getElem? hi3
  refine wp_seq_k fun K2 hK2 => ?_
  have HK2 : Hid _ := hK2
  clear hK2
  have SD := grown_drew w3 none
  have SX := And.intro (b23.keep SD (by simp)) (b103.keep SD (by simp))
  refine wp_regionL (fun wz => BxS wz g2 24 #[.slice (some ⟨gr, 0, none⟩) n c2] ∧ BxS wz g10 36 #[.int .i64 ki, .slice ka 8 kc, .int .i64 kt2, .int .i64 (s2 : Int)]) [] #[false, false, false, false, false, false, false, false, false, false, false, false, false, false, false] rfl (by kernel_rfl) ?_
  refine wpAnyZ_take [] 0 (.agg #[.slice (some ⟨gr, 0, none⟩) n c2]) rfl (by kernel_rfl) (fun c a w h => hP c _ _ w (by rfl) h) SX rfl (by rintro wz ⟨hz1, hz2⟩; have zx : wz.cell? ⟨g2, 0, none⟩ = some (.slice (some ⟨gr, 0, none⟩) n c2) := hz1.cell 0 (by show 0 < 1; decide); obtain ⟨v0, v1, v2, v3⟩ := BxS.cell4 hz2; go_simp) ?_
  try simp only [List.getElem_toArray, List.getElem_cons_succ, List.getElem_cons_zero, Act.put, List.setIfInBounds_toArray, List.set_cons_zero, List.set_cons_succ]
  refine wpAnyZ_take [] 1 (.pointer (some ⟨g10, 1, none⟩)) rfl (by kernel_rfl) (fun c a w h => hP c _ _ w (by rfl) h) SX rfl (by rintro wz ⟨hz1, hz2⟩; have zx : wz.cell? ⟨g2, 0, none⟩ = some (.slice (some ⟨gr, 0, none⟩) n c2) := hz1.cell 0 (by show 0 < 1; decide); obtain ⟨v0, v1, v2, v3⟩ := BxS.cell4 hz2; go_simp) ?_
  try simp only [List.getElem_toArray, List.getElem_cons_succ, List.getElem_cons_zero, Act.put, List.setIfInBounds_toArray, List.set_cons_zero, List.set_cons_succ]
  refine wpAnyZ_take [] 2 (.slice ka 8 kc) rfl (by kernel_rfl) (fun c a w h => hP c _ _ w (by rfl) h) SX rfl (by rintro wz ⟨hz1, hz2⟩; have zx : wz.cell? ⟨g2, 0, none⟩ = some (.slice (some ⟨gr, 0, none⟩) n c2) := hz1.cell 0 (by show 0 < 1; decide); obtain ⟨v0, v1, v2, v3⟩ := BxS.cell4 hz2; go_simp) ?_
  try simp only [List.getElem_toArray, List.getElem_cons_succ, List.getElem_cons_zero, Act.put, List.setIfInBounds_toArray, List.set_cons_zero, List.set_cons_succ]
  refine wpAnyZ_take [] 3 (.int .i64 (cN : Int)) rfl (by kernel_rfl) (fun c a w h => hP c _ _ w (by rfl) h) SX rfl (by rintro wz ⟨hz1, hz2⟩; have zx : wz.cell? ⟨g2, 0, none⟩ = some (.slice (some ⟨gr, 0, none⟩) n c2) := hz1.cell 0 (by show 0 < 1; decide); obtain ⟨v0, v1, v2, v3⟩ := BxS.cell4 hz2; go_simp) ?_
  try simp only [List.getElem_toArray, List.getElem_cons_succ, List.getElem_cons_zero, Act.put, List.setIfInBounds_toArray, List.set_cons_zero, List.set_cons_succ]
  refine wpAnyZ_take [] 4 (.slice (some ⟨bb, ob, none⟩) (m + 8) cb) rfl (by kernel_rfl) (fun c a w h => hP c _ _ w (by rfl) h) SX rfl (by rintro wz ⟨hz1, hz2⟩; have zx : wz.cell? ⟨g2, 0, none⟩ = some (.slice (some ⟨gr, 0, none⟩) n c2) := hz1.cell 0 (by show 0 < 1; decide); obtain ⟨v0, v1, v2, v3⟩ := BxS.cell4 hz2; go_simp) ?_
  try simp only [List.getElem_toArray, List.getElem_cons_succ, List.getElem_cons_zero, Act.put, List.setIfInBounds_toArray, List.set_cons_zero, List.set_cons_succ]
  refine wpAnyZ_take [] 5 (.int .i64 ((m : Int) + 8)) rfl (by kernel_rfl) (fun c a w h => hP c _ _ w (by rfl) h) SX rfl (by rintro wz ⟨hz1, hz2⟩; have zx : wz.cell? ⟨g2, 0, none⟩ = some (.slice (some ⟨gr, 0, none⟩) n c2) := hz1.cell 0 (by show 0 < 1; decide); obtain ⟨v0, v1, v2, v3⟩ := BxS.cell4 hz2; go_simp) ?_
  try simp only [List.getElem_toArray, List.getElem_cons_succ, List.getElem_cons_zero, Act.put, List.setIfInBounds_toArray, List.set_cons_zero, List.set_cons_succ]
  refine wpAnyZ_take [] 6 (.int .i64 (m : Int)) rfl (by kernel_rfl) (fun c a w h => hP c _ _ w (by rfl) h) SX rfl (by rintro wz ⟨hz1, hz2⟩; have zx : wz.cell? ⟨g2, 0, none⟩ = some (.slice (some ⟨gr, 0, none⟩) n c2) := hz1.cell 0 (by show 0 < 1; decide); obtain ⟨v0, v1, v2, v3⟩ := BxS.cell4 hz2; go_simp) ?_
  try simp only [List.getElem_toArray, List.getElem_cons_succ, List.getElem_cons_zero, Act.put, List.setIfInBounds_toArray, List.set_cons_zero, List.set_cons_succ]
  refine wpAnyZ_take [] 7 (.slice (some ⟨bb, ob + 7, none⟩) (m - 7) (cb - 7)) rfl (by kernel_rfl) (fun c a w h => hP c _ _ w (by rfl) h) SX rfl (by rintro wz ⟨hz1, hz2⟩; have zx : wz.cell? ⟨g2, 0, none⟩ = some (.slice (some ⟨gr, 0, none⟩) n c2) := hz1.cell 0 (by show 0 < 1; decide); obtain ⟨v0, v1, v2, v3⟩ := BxS.cell4 hz2; go_simp) ?_
  try simp only [List.getElem_toArray, List.getElem_cons_succ, List.getElem_cons_zero, Act.put, List.setIfInBounds_toArray, List.set_cons_zero, List.set_cons_succ]
  refine wpAnyZ_take [] 9 (.pointer (some ⟨g10, 0, none⟩)) rfl (by kernel_rfl) (fun c a w h => hP c _ _ w (by rfl) h) SX rfl (by rintro wz ⟨hz1, hz2⟩; have zx : wz.cell? ⟨g2, 0, none⟩ = some (.slice (some ⟨gr, 0, none⟩) n c2) := hz1.cell 0 (by show 0 < 1; decide); obtain ⟨v0, v1, v2, v3⟩ := BxS.cell4 hz2; go_simp) ?_
  try simp only [List.getElem_toArray, List.getElem_cons_succ, List.getElem_cons_zero, Act.put, List.setIfInBounds_toArray, List.set_cons_zero, List.set_cons_succ]
  refine wpAnyZ_take [] 10 (.int .i64 ki) rfl (by kernel_rfl) (fun c a w h => hP c _ _ w (by rfl) h) SX rfl (by rintro wz ⟨hz1, hz2⟩; have zx : wz.cell? ⟨g2, 0, none⟩ = some (.slice (some ⟨gr, 0, none⟩) n c2) := hz1.cell 0 (by show 0 < 1; decide); obtain ⟨v0, v1, v2, v3⟩ := BxS.cell4 hz2; go_simp) ?_
  try simp only [List.getElem_toArray, List.getElem_cons_succ, List.getElem_cons_zero, Act.put, List.setIfInBounds_toArray, List.set_cons_zero, List.set_cons_succ]
  generalize w3.drew = w4 at *
  have G4 := grown_trans G3 SD
  have hO4 := hO3.keep SD
  have hbH : Rd w4 (some ⟨bb, ob + 7, none⟩) (m - 7) (cb - 7) ((B.take m).drop 7) := by
    have := (hb0.keep G4).part' 7 (m - 7) (by omega)
    rwa [← List.drop_take] at this
  refine wpAnyZ_oneB 8 rfl (by kernel_rfl) (fun K hK => ?_)
  go_simp
  go_at_call 19
  refine (covered_any ka _ kc cN (m - 7) (cb - 7) kW (fun x => (nthI kW x).toNat) ((B.take m).drop 7) _ (hO4.o.each _ hm3).rd hWW hcl hbH (by omega)).mono ?_
  rintro e w5 ⟨a5, c5, rfl, hA5, y5⟩
  dsimp only
  have SX : _ ∧ _ := ⟨SX.1.keep y5 (by simp), SX.2.keep y5 (by simp)⟩
  refine hK _ _ (fun _ => SX) ?_
  try simp only [List.getElem_toArray, List.getElem_cons_succ, List.getElem_cons_zero, Act.put, List.setIfInBounds_toArray, List.set_cons_zero, List.set_cons_succ]
  refine wpAnyZ_oneB 11 rfl (by kernel_rfl) (fun K hK => ?_)
  refine step_stX _ rfl 24 (.tmp 4) (.tmp 166) rfl g4 _ _ rfl rfl ((b43.keep SD (by simp)).keep y5 (by simp)) i1 rfl (by simp [Value.oneCell']) ?_
  intro w9 b9 u9
  have hz4 := SD.size
  have hz5 := y5.size
  have hO9 := (hO4.keep y5).far u9 (by omega)
  have SX : _ ∧ _ := ⟨SX.1.keep u9 (fun e => by have e := Option.some.inj e; omega), SX.2.keep u9 (fun e => by have e := Option.some.inj e; omega)⟩
  refine hK _ _ (fun _ => SX) ?_
  try simp only [List.getElem_toArray, List.getElem_cons_succ, List.getElem_cons_zero, Act.put, List.setIfInBounds_toArray, List.set_cons_zero, List.set_cons_succ]
  refine wpAnyZ_take [] 12 (.slice a5 (m - 7) c5) rfl (by kernel_rfl) (fun c a w h => hP c _ _ w (by rfl) h) SX rfl (by rintro wz ⟨hz1, hz2⟩; have zx : wz.cell? ⟨g2, 0, none⟩ = some (.slice (some ⟨gr, 0, none⟩) n c2) := hz1.cell 0 (by show 0 < 1; decide); obtain ⟨v0, v1, v2, v3⟩ := BxS.cell4 hz2; go_simp) ?_
  try simp only [List.getElem_toArray, List.getElem_cons_succ, List.getElem_cons_zero, Act.put, List.setIfInBounds_toArray, List.set_cons_zero, List.set_cons_succ]
  refine wpAnyZ_take [] 13 (.int .i64 ki) rfl (by kernel_rfl) (fun c a w h => hP c _ _ w (by rfl) h) SX rfl (by rintro wz ⟨hz1, hz2⟩; have zx : wz.cell? ⟨g2, 0, none⟩ = some (.slice (some ⟨gr, 0, none⟩) n c2) := hz1.cell 0 (by show 0 < 1; decide); obtain ⟨v0, v1, v2, v3⟩ := BxS.cell4 hz2; go_simp) ?_
  try simp only [List.getElem_toArray, List.getElem_cons_succ, List.getElem_cons_zero, Act.put, List.setIfInBounds_toArray, List.set_cons_zero, List.set_cons_succ]
  refine wpAnyZ_take [] 14 (.int .i64 0) rfl (by kernel_rfl) (fun c a w h => hP c _ _ w (by rfl) h) SX rfl (by rintro wz ⟨hz1, hz2⟩; have zx : wz.cell? ⟨g2, 0, none⟩ = some (.slice (some ⟨gr, 0, none⟩) n c2) := hz1.cell 0 (by show 0 < 1; decide); obtain ⟨v0, v1, v2, v3⟩ := BxS.cell4 hz2; go_simp) ?_
  try simp only [List.getElem_toArray, List.getElem_cons_succ, List.getElem_cons_zero, Act.put, List.setIfInBounds_toArray, List.set_cons_zero, List.set_cons_succ]
  refine wpAnyZ_doneB (by kernel_rfl) ?_ _
  have b4l := b43.lt
  have hY9 := hA5.kept u9 (by
    cases e : (Value.slice a5 (m - 7) c5).ownBlock with
    | none => exact .inl rfl
    | some y => exact .inr (fun e2 => by have := hA5.new y e; have e2 := Option.some.inj e2; omega))
  refine HK2.out _ _ ?_
  clear HK2
  go_wp2
  refine hret _ _ ?_
  refine bodyPost_ret (results_cell4 rfl _ _ _ ⟨g4, 0, none⟩ _ (.slice a5 (m - 7) c5) (.int .i64 ki) (.int .i64 0) rfl (BxS.load (t := 24) b9 Tryd.underlying24 i1) rfl rfl rfl) rfl ?_
  subst hV hY hE hI
  exact ⟨_, _, _, _, _, _, rfl, hO9.rd, hY9.rd, hY9.blk, grown_far (grown_trans G4 y5) u9 (fun q e => by have e := Option.some.inj e; omega)⟩

theorem Fz.of1 {w w' : World} {g : Nat} (u : w.grownBy w' (some g)) : Fz (fun x => x = g) w w' := (Fz.refl _ w).step u (fun k e _ => (Option.some.inj e).symm)
/-- was the counter c - 1 - m? (the document's words) -/
def unC (t : Int) (s c m : Nat) : Bool := decide (0 ≤ t) && (decide (t - ((c : Int) - 1 - (m : Int)) = 0) || (decide (0 < t - ((c : Int) - 1 - (m : Int))) && s.testBit (t - ((c : Int) - 1 - (m : Int)) - 1).toNat))
def unS (t : Int) (s c : Nat) : Nat → Nat
  | 0 => 0
  | m + 1 => if unC t s c m = true then unS t s c m ||| 2 ^ m else unS t s c m
theorem unS_bit (t : Int) (s c M m : Nat) : (unS t s c M).testBit m = (decide (m < M) && unC t s c m) := by
  induction M with
  | zero => show (0 : Nat).testBit m = _; rw [Nat.zero_testBit]; rfl
  | succ M ih =>
    show (if unC t s c M = true then unS t s c M ||| 2 ^ M else unS t s c M).testBit m = _
    by_cases h : m = M
    · subst h
      rw [decide_eq_true (show m < m + 1 by omega)]
      by_cases hc : unC t s c m = true
      · rw [if_pos hc, Nat.testBit_or, Nat.testBit_two_pow, hc]; simp
      · rw [if_neg hc, ih, decide_eq_false (show ¬ m < m by omega)]
        have : unC t s c m = false := by simpa using hc
        rw [this]; rfl
    · have e : decide (m < M + 1) = decide (m < M) := by
        by_cases h2 : m < M
        · rw [decide_eq_true h2, decide_eq_true (show m < M + 1 by omega)]
        · rw [decide_eq_false h2, decide_eq_false (show ¬ m < M + 1 by omega)]
      rw [e]
      split
      · rw [Nat.testBit_or, Nat.testBit_two_pow, ih, decide_eq_false (show ¬ M = m by omega)]; simp
      · exact ih
theorem unS_lt (t : Int) (s c M : Nat) : unS t s c M < 2 ^ M := Nat.lt_pow_two_of_testBit _ (fun m hm => by rw [unS_bit, decide_eq_false (by omega)]; rfl)
theorem unS_op {t : Int} {s c : Nat} (h : t < (c : Int)) (ht : -1 ≤ t) (h0 : t < 0 → s = 0) : unS t s c 62 = opS t s c := by
  refine Nat.eq_of_testBit_eq (fun m => ?_)
  rw [unS_bit]
  unfold unC opS
  rw [if_neg (by omega)]
  by_cases hn : t < 0
  · rw [if_pos hn, h0 hn, decide_eq_false (show ¬ 0 ≤ t by omega), Nat.zero_testBit]; simp
  · rw [if_neg hn, bit_up, decide_eq_true (show 0 ≤ t by omega)]
    obtain ⟨e, he⟩ : ∃ e : Nat, (c : Int) - t - 1 = (e : Int) := ⟨((c : Int) - t - 1).toNat, by omega⟩
    rw [show ((c : Int) - t - 1).toNat = e by omega]
    by_cases hm : m = e
    · rw [decide_eq_true hm, decide_eq_true (show t - ((c : Int) - 1 - (m : Int)) = 0 by omega)]; rfl
    · rw [decide_eq_false hm, decide_eq_false (show ¬ t - ((c : Int) - 1 - (m : Int)) = 0 by omega)]
      by_cases hl : e < m
      · rw [decide_eq_true hl, decide_eq_true (show 0 < t - ((c : Int) - 1 - (m : Int)) by omega), show (t - ((c : Int) - 1 - (m : Int)) - 1).toNat = m - e - 1 by omega]; rfl
      · rw [decide_eq_false hl, decide_eq_false (show ¬ 0 < t - ((c : Int) - 1 - (m : Int)) by omega)]; rfl

set_option maxHeartbeats 32000000 in
theorem un_t20 {u0 u3 u5 u6 u7 u12 u13 u14 u15 u16 u17 u18 u19 u20 u21 u22 u23 u24 u25 u26 u27 u28 u29 u30 u31 u32 u33 u34 u35 u36 u37 u38 u39 u40 u41 u42 u43 u44 u45 u46 u47 u48 u49 u50 u51 u52 u53 u54 u55 u56 u57 u58 u59 u60 u61 u62 u63 u64 u65 u66 u67 u68 u69 u70 u71 u72 u73 u74 u75 u76 u77 u78 u79 u80 u81 u82 u83 u84 u85 u86 u87 u88 u89 u90 u91 u92 u93 u94 u95 u96 u97 u98 u99 u100 u101 u102 u103 u104 u105 u106 u107 u108 u109 u110 u111 u112 u113 u114 u115 u116 u117 u118 u119 u120 u121 u122 u123 u124 u125 u126 u127 u128 u129 u130 u131 u132 u133 u134 u135 u136 u137 u138 u139 u140 u141 u142 u143 u144 u145 u146 u147 u148 u149 u150 u151 u152 u153 u154 u155 u156 u157 u158 u159 u160 u161 u162 u163 u164 u165 u166 u167 u168 u169 u170 u171 u172 u173 u174 u175 u176 u177 : Value} (Q : Exit → Act → World → Prop) (w0 w : World) (g2 g4 g10 lo gr n c2 j m cb bb ob cN s kc : Nat) (ks : List Kw) (R V : List Kd) (B Y : List Nat) (I E : Nat) (ka : Option Addr) (ki kt : Int) (kW : List Int) (hret : ∀ a wz, bodyPost Tryd.prog Tryd.f6 (fun e w' => ∃ (a' : Option Addr) (n' c' : Nat) (ya : Option Addr) (yn yc : Nat), e = .returned (.tuple #[.agg #[.slice a' n' c'], .slice ya yn yc, .int .i64 (I : Int), .int .i64 (E : Int)]) ∧ RdG w' a' n' c' V ∧ Rd w' ya yn yc Y ∧ (∀ g off, ya = some ⟨g, off, none⟩ → g < w'.heap.size) ∧ w0.grownBy w' none) .ret a wz → Q .ret a wz) (hP : ∀ c a a' wz, a.defers = a'.defers → Q (.panic c) a wz → Q (.panic c) a' wz) (G0 : w0.grownBy w none) (hb0 : Rd w0 (some ⟨bb, ob, none⟩) (m + 8) cb B) (hm : 7 ≤ m ∧ m ≤ 1007) (b2 : BxS w g2 24 #[.slice (some ⟨gr, 0, none⟩) n c2]) (b4 : BxS w g4 24 #[.slice none 0 0]) (hO : OwG w lo (some ⟨gr, 0, none⟩) n c2 ks R) (hi : ks[j]? = some ⟨ki, ka, 8, kc, kW, kt, (s : Int)⟩) (hhi : ∀ x, Okb (.slice (some ⟨gr, 0, none⟩) n c2) ks x → x < g10) (h24 : w0.heap.size ≤ g2 ∧ g2 < g4 ∧ g4 < lo ∧ lo ≤ g10) (hWW : ∀ i, i < 8 → nthI kW i = ((nthI kW i).toNat : Int) ∧ (nthI kW i).toNat < 4294967296) (hs2 : s < 4611686018427387904) (hkt : -1 ≤ kt ∧ kt ≤ 281474976710655) (hcl : cN < 281474976710656) (b10 : BxS w g10 36 #[.int .i64 ki, .slice ka 8 kc, .int .i64 kt, .int .i64 (s : Int)]) (hs0 : kt < 0 → s = 0) (hOld : oldB kt s cN = true → V = R ∧ Y = [] ∧ I = 0 ∧ E = 13) (hNew : oldB kt s cN = false → V = R.set j ⟨ki, kW, (opT kt cN), (opS kt s cN : Int)⟩ ∧ Y = cvL (fun x => (nthI kW x).toNat) cN ((B.take m).drop 7) ∧ (I : Int) = ki ∧ E = 0) :
    Code.wp Tryd.prog (tailR 20 (Tryd.f6.body.getD .skip)) Q (Act.mk (List.toArray (u0 :: (.slice (some ⟨bb, ob, none⟩) (m + 8) cb) :: (.pointer (some ⟨g2, 0, none⟩)) :: u3 :: (.pointer (some ⟨g4, 0, none⟩)) :: u5 :: u6 :: u7 :: (.int .i64 ((m : Int) + 8)) :: (.int .i64 (j : Int)) :: (.pointer (some ⟨g10, 0, none⟩)) :: (.int .i64 (cN : Int)) :: u12 :: u13 :: u14 :: u15 :: u16 :: u17 :: u18 :: u19 :: u20 :: u21 :: u22 :: u23 :: u24 :: u25 :: u26 :: u27 :: u28 :: u29 :: u30 :: u31 :: u32 :: u33 :: u34 :: u35 :: u36 :: u37 :: u38 :: u39 :: u40 :: u41 :: u42 :: u43 :: u44 :: u45 :: u46 :: u47 :: u48 :: u49 :: u50 :: u51 :: u52 :: u53 :: u54 :: u55 :: u56 :: u57 :: u58 :: u59 :: u60 :: u61 :: u62 :: u63 :: u64 :: u65 :: u66 :: u67 :: u68 :: u69 :: u70 :: u71 :: u72 :: u73 :: u74 :: u75 :: u76 :: u77 :: u78 :: u79 :: u80 :: u81 :: u82 :: u83 :: u84 :: u85 :: u86 :: u87 :: u88 :: u89 :: u90 :: u91 :: u92 :: u93 :: u94 :: u95 :: u96 :: u97 :: u98 :: u99 :: u100 :: u101 :: u102 :: u103 :: u104 :: u105 :: u106 :: u107 :: u108 :: u109 :: u110 :: u111 :: u112 :: u113 :: u114 :: u115 :: u116 :: u117 :: u118 :: u119 :: u120 :: u121 :: u122 :: u123 :: u124 :: u125 :: u126 :: u127 :: u128 :: u129 :: u130 :: u131 :: u132 :: u133 :: u134 :: u135 :: u136 :: u137 :: u138 :: u139 :: u140 :: u141 :: u142 :: u143 :: u144 :: u145 :: u146 :: u147 :: u148 :: u149 :: u150 :: u151 :: u152 :: u153 :: u154 :: u155 :: u156 :: u157 :: u158 :: u159 :: u160 :: u161 :: u162 :: u163 :: u164 :: u165 :: u166 :: u167 :: u168 :: u169 :: u170 :: u171 :: u172 :: u173 :: u174 :: u175 :: u176 :: u177 :: [])) []) w := by
  let pq : Exit → Act → World → Prop := bodyPost Tryd.prog Tryd.f6 (fun _ _ => True)
  conv => enter [2]; whnf
  refine wp_seq_k fun K1 hK1 => ?_
  have HK1 : Hid _ := hK1
  clear hK1
  have x0 : w.cell? ⟨g2, 0, none⟩ = some (.slice (some ⟨gr, 0, none⟩) n c2) := b2.cell 0 (by show 0 < 1; decide)
  obtain ⟨t0, t1, t2, t3⟩ := BxS.cell4 b10
  have i1 := Tryd.info_rg1
  have hgr := hhi gr (.inl rfl)
  have hlr := hO.o.new gr rfl
  have b2l := b2.lt
  have b4l := b4.lt
  by_cases h1 : kt < (cN : Int)
  · have hold : oldB kt s cN = false := if_pos h1
    obtain ⟨hV, hY, hI, hE⟩ := hNew hold
    have hsz := unS_op h1 hkt.1 hs0
    have eT : opT kt cN = (cN : Int) := if_neg (by omega)
    rw [eT, ← hsz] at hV
    clear hOld hNew hold hsz eT
    have hwd : IntKind.i64.wrap (kt - (cN : Int)) = kt - (cN : Int) := wrap_i64_in _ (by omega) (by omega)
    have hd0 : ¬ 0 ≤ kt - (cN : Int) := by omega
    have hd1 : ¬ 0 < kt - (cN : Int) := by omega
    have hd2 : ¬ (cN : Int) < kt := by omega
    have hd3 : ¬ (cN : Int) ≤ kt := by omega
    go_wp2
    refine HK1.out _ _ ?_
    clear HK1
    refine wp_seq_k fun K2 hK2 => ?_
    have HK2 : Hid _ := hK2
    clear hK2
    go_wp2
    refine HK2.out _ _ ?_
    clear HK2
    refine wp_seq_k fun K3 hK3 => ?_
    have HK3 : Hid _ := hK3
    clear hK3
    go_wp2
    go_loopw [16, 17] (fun sv mv wr => ∃ mm : Nat, mv = .int .i64 mm ∧ mm ≤ 62 ∧ sv = .int .i64 (unS kt s cN mm : Nat) ∧ Hid (wr = w)) (fun _ mv _ => 62 - (intOf mv).toNat)
    case atStart => exact ⟨0, by go_num, Nat.zero_le _, rfl, rfl⟩
    case round =>
      obtain ⟨mm, rfl, hmm, rfl, hwr⟩ := hrel
      have hwr := hwr.out
      subst hwr
      by_cases hlt : mm < 62
      · have hlt' : (mm : Int) < 62 := by omega
        have hw1 : IntKind.i64.wrap ((cN : Int) - 1) = (cN : Int) - 1 := wrap_i64_in _ (by omega) (by omega)
        have hw2 : IntKind.i64.wrap ((cN : Int) - 1 - (mm : Int)) = (cN : Int) - 1 - (mm : Int) := wrap_i64_in _ (by omega) (by omega)
        have hw4 : IntKind.i64.wrap ((mm : Int) + 1) = (mm : Int) + 1 := wrap_i64_in _ (by omega) (by omega)
        have HS : Hid (unS kt s cN (mm + 1) = if unC kt s cN mm = true then unS kt s cN mm ||| 2 ^ mm else unS kt s cN mm) := rfl
        have hul := unS_lt kt s cN mm
        have hul2 : 2 ^ mm ≤ 2305843009213693952 := Nat.pow_le_pow_right (by decide) (show mm ≤ 61 by omega)
        obtain ⟨P, hP⟩ : ∃ P : Nat, 2 ^ mm = P := ⟨_, rfl⟩
        rw [hP] at hul hul2 HS
        have hpw : IntKind.i64.wrap ((2 : Int) ^ mm) = (P : Int) := by rw [show ((2 : Int) ^ mm) = (P : Int) by rw [← hP, Int.natCast_pow]; rfl]; exact wrap_i64_in _ (by omega) (by omega)
        have hor := i64_or_nat (unS kt s cN mm) P (by omega) (by omega)
        generalize unS kt s cN mm = u at *
        obtain ⟨q, hq⟩ : ∃ q : Nat, u ||| P = q := ⟨_, rfl⟩
        rw [hq] at hor HS
        have hm64 : mm < 64 := by omega
        clear hP hq
        by_cases hk0 : kt < 0
        · have hc : unC kt s cN mm = false := by unfold unC; rw [decide_eq_false (show ¬ 0 ≤ kt by omega)]; rfl
          have hk0' : ¬ 0 ≤ kt := by omega
          obtain ⟨x, hx⟩ : ∃ x, IntKind.i64.wrap (kt - ((cN : Int) - 1 - (mm : Int))) = x := ⟨_, rfl⟩
          rw [hc] at HS
          go_wp2
          go_roundw
          case rel => exact ⟨mm + 1, by go_num, by omega, by rw [HS.out]; rfl, trivial⟩
          case measure => simp [intOf]; omega
        · have hk0' : 0 ≤ kt := by omega
          obtain ⟨x, hx⟩ : ∃ x : Int, kt - ((cN : Int) - 1 - (mm : Int)) = x := ⟨_, rfl⟩
          have hw3 : IntKind.i64.wrap (kt - ((cN : Int) - 1 - (mm : Int))) = x := by rw [hx]; exact wrap_i64_in _ (by omega) (by omega)
          have HC : Hid (unC kt s cN mm = (decide (x = 0) || (decide (0 < x) && s.testBit (x - 1).toNat))) := by show _ = _; unfold unC; rw [hx, decide_eq_true hk0']; rfl
          have hx62 : x ≤ 62 := by omega
          clear hx
          by_cases hx0 : x = 0
          · subst hx0
            have hc : unC kt s cN mm = true := by rw [HC.out]; rfl
            rw [hc] at HS
            go_wp2
            go_roundw
            case rel => exact ⟨mm + 1, by go_num, by omega, by rw [HS.out]; rfl, trivial⟩
            case measure => simp [intOf]; omega
          · have hx0' : (x == 0) = false := beq_false_of_ne hx0
            by_cases hxp : 0 < x
            · obtain ⟨e, rfl⟩ : ∃ e : Nat, x = (e : Int) + 1 := ⟨(x - 1).toNat, by omega⟩
              have hbt := bit_i64 s e (by omega)
              have hwe : IntKind.i64.wrap ((e : Int) + 1 - 1) = (e : Int) := by rw [show (e : Int) + 1 - 1 = (e : Int) by omega]; exact wrap_i64_in _ (by omega) (by omega)
              have hwe2 : IntKind.i64.wrap (e : Int) = (e : Int) := wrap_i64_in _ (by omega) (by omega)
              have HC2 : Hid (unC kt s cN mm = s.testBit e) := by show _ = _; rw [HC.out, decide_eq_false hx0, decide_eq_true hxp, show ((e : Int) + 1 - 1).toNat = e by omega]; rfl
              clear HC
              cases hbe : s.testBit e with
              | true =>
                rw [hbe] at hbt
                have hc : unC kt s cN mm = true := by rw [HC2.out, hbe]
                rw [hc] at HS
                clear hbe
                go_wp2
                go_roundw
                case rel => exact ⟨mm + 1, by go_num, by omega, by rw [HS.out]; rfl, trivial⟩
                case measure => simp [intOf]; omega
              | false =>
                rw [hbe] at hbt
                have hc : unC kt s cN mm = false := by rw [HC2.out, hbe]
                rw [hc] at HS
                clear hbe
                go_wp2
                go_roundw
                case rel => exact ⟨mm + 1, by go_num, by omega, by rw [HS.out]; rfl, trivial⟩
                case measure => simp [intOf]; omega
            · have hc : unC kt s cN mm = false := by rw [HC.out, decide_eq_false hx0, decide_eq_false hxp]; rfl
              rw [hc] at HS
              go_wp2
              go_roundw
              case rel => exact ⟨mm + 1, by go_num, by omega, by rw [HS.out]; rfl, trivial⟩
              case measure => simp [intOf]; omega
      · obtain rfl : mm = 62 := by omega
        have hul := unS_lt kt s cN 62
        generalize unS kt s cN 62 = u at *
        have s1 : True := trivial
        go_wp2_with (first
          | (have _t := s1; clear s1; refine wpList_stC _ rfl _ _ _ rfl g10 3 36 _ #[.int .i64 ki, .slice ka 8 kc, .int .i64 kt, .int .i64 (u : Int)] (.int .i64 (u : Int)) rfl rfl b10 (stc_int _ _ _) (by show 3 < 4; decide) rfl ?_; intro w5 b5 u5; have s2 : True := trivial)
          | (have _t := s2; clear s2; refine wpList_stC _ rfl _ _ _ rfl g10 2 36 _ #[.int .i64 ki, .slice ka 8 kc, .int .i64 (cN : Int), .int .i64 (u : Int)] (.int .i64 (cN : Int)) rfl rfl b5 (stc_int _ _ _) (by show 2 < 4; decide) rfl ?_; intro w6 b6 u6; skip))
        have G5 := grown_far G0 u5 (fun q e => by have e := Option.some.inj e; omega)
        have G6 := grown_far G5 u6 (fun q e => by have e := Option.some.inj e; omega)
        have hO6 := (hO.fz (Fz.of1 u5) (fun x hx e => by have := hhi x hx; have e : x = g10 := e; omega)).fz (Fz.of1 u6) (fun x hx e => by have := hhi x hx; have e : x = g10 := e; omega)
        refine HK3.out _ _ ?_
        refine un_t34 Q w0 w6 g2 g4 g10 lo gr n c2 j m cb bb ob cN s kc ks R V B Y I E ka ki kt kW hret hP G6 hb0 hm ((b2.keep u5 (fun e => by have e := Option.some.inj e; omega)).keep u6 (fun e => by have e := Option.some.inj e; omega)) ((b4.keep u5 (fun e => by have e := Option.some.inj e; omega)).keep u6 (fun e => by have e := Option.some.inj e; omega)) hO6 hi hhi h24 hWW hs2 hkt hcl (cN : Int) u ⟨⟨by omega, by omega⟩, ⟨by omega, by omega⟩⟩ b6 hV hY hI hE
  · obtain ⟨d, hd⟩ : ∃ d : Nat, kt - (cN : Int) = (d : Int) := ⟨(kt - (cN : Int)).toNat, by omega⟩
    have HV : Hid (oldB kt s cN = (decide ((d : Int) = 0) || (decide (62 < (d : Int)) || s.testBit (d - 1)))) := by show _ = _; unfold oldB; rw [if_neg h1, hd, show ((d : Int) - 1).toNat = d - 1 by omega]
    have hwd : IntKind.i64.wrap (kt - (cN : Int)) = (d : Int) := by rw [hd]; exact wrap_i64_in _ (by omega) (by omega)
    have Hd : Hid (kt - (cN : Int) = (d : Int)) := hd
    clear hd
    by_cases hd0 : d = 0
    · subst hd0
      have hold : oldB kt s cN = true := by rw [HV.out]; rfl
      go_wp2
      refine HK1.out _ _ ?_
      clear HK1
      refine wp_seq_k fun K2 hK2 => ?_
      have HK2 : Hid _ := hK2
      clear hK2
      have s0 : True := trivial
      go_wp2_with (have _t := s0; clear s0; refine wpList_stX _ rfl _ (.tmp 4) (.tmp 108) rfl g4 _ _ rfl rfl b4 i1 rfl (by simp [Value.oneCell']) ?_; intro w9 b9 u9)
      refine hret _ _ ?_
      refine bodyPost_ret (results_cell4 rfl _ _ _ ⟨g4, 0, none⟩ _ (.slice none 0 0) (.int .i64 0) (.int .i64 13) rfl (BxS.load (t := 24) b9 Tryd.underlying24 i1) rfl rfl rfl) rfl ?_
      obtain ⟨rfl, rfl, rfl, rfl⟩ := hOld hold
      exact ⟨_, _, _, none, 0, 0, rfl, (hO.far u9 (by omega)).rd, (ansN _ 0).rd, (fun g off e => by cases e), grown_far G0 u9 (fun q e => by have e := Option.some.inj e; omega)⟩
    · have hd0' : ((d : Int) == 0) = false := by simp; omega
      by_cases hd6 : 62 < d
      · have hd6' : (62 : Int) < (d : Int) := by omega
        have hold : oldB kt s cN = true := by rw [HV.out, decide_eq_true hd6']; simp
        go_wp2
        refine HK1.out _ _ ?_
        clear HK1
        refine wp_seq_k fun K2 hK2 => ?_
        have HK2 : Hid _ := hK2
        clear hK2
        have s0 : True := trivial
        go_wp2_with (have _t := s0; clear s0; refine wpList_stX _ rfl _ (.tmp 4) (.tmp 108) rfl g4 _ _ rfl rfl b4 i1 rfl (by simp [Value.oneCell']) ?_; intro w9 b9 u9)
        refine hret _ _ ?_
        refine bodyPost_ret (results_cell4 rfl _ _ _ ⟨g4, 0, none⟩ _ (.slice none 0 0) (.int .i64 0) (.int .i64 13) rfl (BxS.load (t := 24) b9 Tryd.underlying24 i1) rfl rfl rfl) rfl ?_
        obtain ⟨rfl, rfl, rfl, rfl⟩ := hOld hold
        exact ⟨_, _, _, none, 0, 0, rfl, (hO.far u9 (by omega)).rd, (ansN _ 0).rd, (fun g off e => by cases e), grown_far G0 u9 (fun q e => by have e := Option.some.inj e; omega)⟩
      · obtain ⟨e, rfl⟩ : ∃ e, d = e + 1 := ⟨d - 1, by omega⟩
        have hbt := bit_i64 s e (by omega)
        have k0 : ((e : Int) + 1 == 0) = false := by simp; omega
        have k6 : ¬ (62 : Int) < (e : Int) + 1 := by omega
        have HV2 : Hid (oldB kt s cN = s.testBit e) := by show _ = _; rw [HV.out, decide_eq_false (show ¬ ((e + 1 : Nat) : Int) = 0 by omega), decide_eq_false (show ¬ (62 : Int) < ((e + 1 : Nat) : Int) by omega), Nat.add_sub_cancel]; rfl
        have hwe : IntKind.i64.wrap ((e : Int) + 1 - 1) = (e : Int) := by rw [show (e : Int) + 1 - 1 = (e : Int) by omega]; exact wrap_i64_in _ (by omega) (by omega)
        have hwe2 : IntKind.i64.wrap (e : Int) = (e : Int) := wrap_i64_in _ (by omega) (by omega)
        clear HV hd0'
        cases hbe : s.testBit e with
        | true =>
          rw [hbe] at hbt
          have hold : oldB kt s cN = true := by rw [HV2.out, hbe]
          clear hbe
          go_wp2
          refine HK1.out _ _ ?_
          clear HK1
          refine wp_seq_k fun K2 hK2 => ?_
          have HK2 : Hid _ := hK2
          clear hK2
          have s0 : True := trivial
          go_wp2_with (have _t := s0; clear s0; refine wpList_stX _ rfl _ (.tmp 4) (.tmp 108) rfl g4 _ _ rfl rfl b4 i1 rfl (by simp [Value.oneCell']) ?_; intro w9 b9 u9)
          refine hret _ _ ?_
          refine bodyPost_ret (results_cell4 rfl _ _ _ ⟨g4, 0, none⟩ _ (.slice none 0 0) (.int .i64 0) (.int .i64 13) rfl (BxS.load (t := 24) b9 Tryd.underlying24 i1) rfl rfl rfl) rfl ?_
          obtain ⟨rfl, rfl, rfl, rfl⟩ := hOld hold
          exact ⟨_, _, _, none, 0, 0, rfl, (hO.far u9 (by omega)).rd, (ansN _ 0).rd, (fun g off e => by cases e), grown_far G0 u9 (fun q e => by have e := Option.some.inj e; omega)⟩
        | false =>
          rw [hbe] at hbt
          have hold : oldB kt s cN = false := by rw [HV2.out, hbe]
          obtain ⟨hV, hY, hI, hE⟩ := hNew hold
          clear hbe hOld hNew hold
          have hdd := Hd.out
          have eT : opT kt cN = kt := if_pos (by omega)
          obtain ⟨P, hP⟩ : ∃ P : Nat, 2 ^ e = P := ⟨_, rfl⟩
          have hP2 : P ≤ 2305843009213693952 := by rw [← hP]; exact Nat.pow_le_pow_right (by decide) (show e ≤ 61 by omega)
          have eS : opS kt s cN = s ||| P := by unfold opS; rw [if_pos (by omega), show (kt - (cN : Int) - 1).toNat = e by omega, hP]
          have hpw : IntKind.i64.wrap ((2 : Int) ^ e) = (P : Int) := by rw [show ((2 : Int) ^ e) = (P : Int) by rw [← hP, Int.natCast_pow]; rfl]; exact wrap_i64_in _ (by omega) (by omega)
          have hor := i64_or_nat s P (by omega) (by omega)
          have hql : s ||| P < 2 ^ 62 := Nat.or_lt_two_pow hs2 (by omega)
          obtain ⟨q, hq⟩ : ∃ q : Nat, s ||| P = q := ⟨_, rfl⟩
          rw [hq] at hor eS hql
          rw [eT, eS] at hV
          have he62 : e < 64 := by omega
          clear hq hP eT eS hdd
          go_wp2
          refine HK1.out _ _ ?_
          clear HK1
          refine wp_seq_k fun K2 hK2 => ?_
          have HK2 : Hid _ := hK2
          clear hK2
          go_wp2
          refine HK2.out _ _ ?_
          clear HK2
          refine wp_seq_k fun K3 hK3 => ?_
          have HK3 : Hid _ := hK3
          clear hK3
          have k7 : (0 : Int) < (e : Int) + 1 := by omega
          go_wp2
          have SD := grown_drew w none
          have SX := b10.keep SD (by simp)
          refine wp_regionL (fun wz => BxS wz g10 36 #[.int .i64 ki, .slice ka 8 kc, .int .i64 kt, .int .i64 (s : Int)]) [7] #[false, false, false, false, false, false, false, false] rfl (by kernel_rfl) ?_
          refine wpAnyZ_take [1, 5, 7] 0 (.pointer (some ⟨g10, 3, none⟩)) rfl (by kernel_rfl) (fun c a w h => hP c _ _ w (by rfl) h) SX rfl (by intro wz hz; obtain ⟨v0, v1, v2, v3⟩ := BxS.cell4 hz; go_simp) ?_
          try simp only [List.getElem_toArray, List.getElem_cons_succ, List.getElem_cons_zero, Act.put, List.setIfInBounds_toArray, List.set_cons_zero, List.set_cons_succ]
          refine wpAnyZ_take [5, 7] 1 (.int .i64 (s : Int)) rfl (by kernel_rfl) (fun c a w h => hP c _ _ w (by rfl) h) SX rfl (by intro wz hz; obtain ⟨v0, v1, v2, v3⟩ := BxS.cell4 hz; go_simp) ?_
          try simp only [List.getElem_toArray, List.getElem_cons_succ, List.getElem_cons_zero, Act.put, List.setIfInBounds_toArray, List.set_cons_zero, List.set_cons_succ]
          refine wpAnyZ_take [3, 4, 5, 7] 2 (.int .i64 ((e : Int) + 1)) rfl (by kernel_rfl) (fun c a w h => hP c _ _ w (by rfl) h) SX rfl (by intro wz hz; obtain ⟨v0, v1, v2, v3⟩ := BxS.cell4 hz; go_simp) ?_
          try simp only [List.getElem_toArray, List.getElem_cons_succ, List.getElem_cons_zero, Act.put, List.setIfInBounds_toArray, List.set_cons_zero, List.set_cons_succ]
          refine wpAnyZ_take [4, 5, 7] 3 (.int .i64 (e : Int)) rfl (by kernel_rfl) (fun c a w h => hP c _ _ w (by rfl) h) SX rfl (by intro wz hz; obtain ⟨v0, v1, v2, v3⟩ := BxS.cell4 hz; go_simp) ?_
          try simp only [List.getElem_toArray, List.getElem_cons_succ, List.getElem_cons_zero, Act.put, List.setIfInBounds_toArray, List.set_cons_zero, List.set_cons_succ]
          refine wpAnyZ_take [5, 7] 4 (.int .i64 (P : Int)) rfl (by kernel_rfl) (fun c a w h => hP c _ _ w (by rfl) h) SX rfl (by intro wz hz; obtain ⟨v0, v1, v2, v3⟩ := BxS.cell4 hz; go_simp) ?_
          try simp only [List.getElem_toArray, List.getElem_cons_succ, List.getElem_cons_zero, Act.put, List.setIfInBounds_toArray, List.set_cons_zero, List.set_cons_succ]
          refine wpAnyZ_take [7] 5 (.int .i64 (q : Int)) rfl (by kernel_rfl) (fun c a w h => hP c _ _ w (by rfl) h) SX rfl (by intro wz hz; obtain ⟨v0, v1, v2, v3⟩ := BxS.cell4 hz; go_simp) ?_
          try simp only [List.getElem_toArray, List.getElem_cons_succ, List.getElem_cons_zero, Act.put, List.setIfInBounds_toArray, List.set_cons_zero, List.set_cons_succ]
          refine wpAnyZ_take [7] 6 (.pointer (some ⟨g10, 3, none⟩)) rfl (by kernel_rfl) (fun c a w h => hP c _ _ w (by rfl) h) SX rfl (by intro wz hz; obtain ⟨v0, v1, v2, v3⟩ := BxS.cell4 hz; go_simp) ?_
          try simp only [List.getElem_toArray, List.getElem_cons_succ, List.getElem_cons_zero, Act.put, List.setIfInBounds_toArray, List.set_cons_zero, List.set_cons_succ]
          generalize w.drew = w4 at *
          refine wpAnyZ_oneB 7 rfl (by kernel_rfl) (fun K hK => ?_)
          refine step_stC _ rfl _ _ _ rfl g10 3 36 _ #[.int .i64 ki, .slice ka 8 kc, .int .i64 kt, .int .i64 (q : Int)] (.int .i64 (q : Int)) rfl rfl SX (stc_int _ _ _) (by show 3 < 4; decide) rfl ?_
          intro w5 b5 u5
          refine hK _ _ (fun h => absurd (by decide) h) ?_
          try simp only [List.getElem_toArray, List.getElem_cons_succ, List.getElem_cons_zero, Act.put, List.setIfInBounds_toArray, List.set_cons_zero, List.set_cons_succ]
          refine wpAnyZ_doneB (by kernel_rfl) ?_ _
          have G5 := grown_far (grown_trans G0 SD) u5 (fun q e => by have e := Option.some.inj e; omega)
          have hO5 := (hO.keep SD).fz (Fz.of1 u5) (fun x hx e => by have := hhi x hx; have e : x = g10 := e; omega)
          refine HK3.out _ _ ?_
          refine un_t34 Q w0 w5 g2 g4 g10 lo gr n c2 j m cb bb ob cN s kc ks R V B Y I E ka ki kt kW hret hP G5 hb0 hm ((b2.keep SD (by simp)).keep u5 (fun e => by have e := Option.some.inj e; omega)) ((b4.keep SD (by simp)).keep u5 (fun e => by have e := Option.some.inj e; omega)) hO5 hi hhi h24 hWW hs2 hkt hcl kt q ⟨⟨by omega, by omega⟩, ⟨by omega, by omega⟩⟩ b5 hV hY hI hE

theorem strB_list (L : List Nat) : (strB L).toList = L.map UInt8.ofNat := by
  unfold strB strOfNums
  rw [ByteArray.toList_eq]
  simp
theorem strB_ne {A B : List Nat} (hA : IsB A) (hB : IsB B) (h : ¬ A = B) : ((strB A).toList == (strB B).toList) = false := by
  rw [strB_list, strB_list]
  refine beq_false_of_ne (fun e => h ?_)
  have hl : A.length = B.length := by simpa using congrArg List.length e
  refine List.ext_getElem hl (fun i h1 h2 => ?_)
  have e2 := congrArg (fun L => L[i]?) e
  simp only [List.getElem?_map, List.getElem?_eq_getElem h1, List.getElem?_eq_getElem h2, Option.map_some, Option.some.injEq] at e2
  have e3 := congrArg UInt8.toNat e2
  rw [UInt8.toNat_ofNat', UInt8.toNat_ofNat'] at e3
  have a1 := hA _ (List.getElem_mem h1)
  have a2 := hB _ (List.getElem_mem h2)
  omega
theorem tagL_isB (W : Nat → Nat) (c : Nat) (B : List Nat) : IsB (tagL W c B) := by
  unfold tagL beT
  intro x hx
  obtain ⟨i, _, rfl⟩ := List.mem_map.1 hx
  unfold beB
  exact Nat.mod_lt _ (by decide)
theorem or_byteI (v b : Nat) (hv : v < 36028797018963968) (hb : b < 256) : bits .or .i64 ((v : Int) * 256) (b : Int) = ((v * 256 + b : Nat) : Int) := by
  have := i64_or_nat (v * 256) b (by omega) (by omega)
  rw [show ((v * 256 : Nat) : Int) = (v : Int) * 256 by omega] at this
  rw [this]
  have h3 := Nat.two_pow_add_eq_or_of_lt (i := 8) (b := b) (by omega) v
  rw [show 2 ^ 8 * v = v * 256 by omega] at h3
  rw [← h3]
theorem fiN_atU (R : List Kd) (z : Int) (j : Nat) (h : ∀ i, i < j → (R.getD i kd0).id ≠ z) (hj : j < R.length) (he : (R.getD j kd0).id = z) : fiN R z = j := by
  induction R generalizing j with
  | nil => exact absurd hj (by simp)
  | cons x R ih =>
    show (if x.id = z then 0 else fiN R z + 1) = j
    cases j with
    | zero => rw [if_pos (show x.id = z from he)]
    | succ j =>
      have h0 : x.id ≠ z := h 0 (by omega)
      rw [if_neg h0, ih j (fun i hi => h (i + 1) (by omega)) (by simpa using hj) he]
theorem fiN_none (R : List Kd) (z : Int) (h : ∀ i, i < R.length → (R.getD i kd0).id ≠ z) : fiN R z = R.length := by
  induction R with
  | nil => rfl
  | cons x R ih =>
    show (if x.id = z then 0 else fiN R z + 1) = R.length + 1
    have h0 : x.id ≠ z := h 0 (by simp)
    rw [if_neg h0, ih (fun i hi => h (i + 1) (by simpa using hi))]

set_option maxHeartbeats 32000000 in
theorem un_t17 {u0 u3 u5 u6 u7 u12 u13 u14 u15 u16 u17 u18 u19 u20 u21 u22 u23 u24 u25 u26 u27 u28 u29 u30 u31 u32 u33 u34 u35 u36 u37 u38 u39 u40 u41 u42 u43 u44 u45 u46 u47 u48 u49 u50 u51 u52 u53 u54 u55 u56 u57 u58 u59 u60 u61 u62 u63 u64 u65 u66 u67 u68 u69 u70 u71 u72 u73 u74 u75 u76 u77 u78 u79 u80 u81 u82 u83 u84 u85 u86 u87 u88 u89 u90 u91 u92 u93 u94 u95 u96 u97 u98 u99 u100 u101 u102 u103 u104 u105 u106 u107 u108 u109 u110 u111 u112 u113 u114 u115 u116 u117 u118 u119 u120 u121 u122 u123 u124 u125 u126 u127 u128 u129 u130 u131 u132 u133 u134 u135 u136 u137 u138 u139 u140 u141 u142 u143 u144 u145 u146 u147 u148 u149 u150 u151 u152 u153 u154 u155 u156 u157 u158 u159 u160 u161 u162 u163 u164 u165 u166 u167 u168 u169 u170 u171 u172 u173 u174 u175 u176 u177 : Value} (Q : Exit → Act → World → Prop) (w0 w : World) (g2 g4 g10 lo gr n c2 j m cb bb ob cN s kc : Nat) (ks : List Kw) (R V : List Kd) (B Y : List Nat) (I E : Nat) (ka : Option Addr) (ki kt : Int) (kW : List Int) (hret : ∀ a wz, bodyPost Tryd.prog Tryd.f6 (fun e w' => ∃ (a' : Option Addr) (n' c' : Nat) (ya : Option Addr) (yn yc : Nat), e = .returned (.tuple #[.agg #[.slice a' n' c'], .slice ya yn yc, .int .i64 (I : Int), .int .i64 (E : Int)]) ∧ RdG w' a' n' c' V ∧ Rd w' ya yn yc Y ∧ (∀ g off, ya = some ⟨g, off, none⟩ → g < w'.heap.size) ∧ w0.grownBy w' none) .ret a wz → Q .ret a wz) (hP : ∀ c a a' wz, a.defers = a'.defers → Q (.panic c) a wz → Q (.panic c) a' wz) (G0 : w0.grownBy w none) (hb0 : Rd w0 (some ⟨bb, ob, none⟩) (m + 8) cb B) (hm : 7 ≤ m ∧ m ≤ 1007) (b2 : BxS w g2 24 #[.slice (some ⟨gr, 0, none⟩) n c2]) (b4 : BxS w g4 24 #[.slice none 0 0]) (hO : OwG w lo (some ⟨gr, 0, none⟩) n c2 ks R) (hi : ks[j]? = some ⟨ki, ka, 8, kc, kW, kt, (s : Int)⟩) (hhi : ∀ x, Okb (.slice (some ⟨gr, 0, none⟩) n c2) ks x → x < g10) (h24 : w0.heap.size ≤ g2 ∧ g2 < g4 ∧ g4 < lo ∧ lo ≤ g10) (hWW : ∀ i, i < 8 → nthI kW i = ((nthI kW i).toNat : Int) ∧ (nthI kW i).toNat < 4294967296) (hs2 : s < 4611686018427387904) (hkt : -1 ≤ kt ∧ kt ≤ 281474976710655) (hcl : cN < 281474976710656) (b10 : BxS w g10 36 #[.int .i64 ki, .slice ka 8 kc, .int .i64 kt, .int .i64 (s : Int)]) (hs0 : kt < 0 → s = 0) (hBad : ¬ B.drop m = tagL (fun x => (nthI kW x).toNat) cN (B.take m) → V = R ∧ Y = [] ∧ I = 0 ∧ E = 14) (hOld : B.drop m = tagL (fun x => (nthI kW x).toNat) cN (B.take m) → oldB kt s cN = true → V = R ∧ Y = [] ∧ I = 0 ∧ E = 13) (hNew : B.drop m = tagL (fun x => (nthI kW x).toNat) cN (B.take m) → oldB kt s cN = false → V = R.set j ⟨ki, kW, (opT kt cN), (opS kt s cN : Int)⟩ ∧ Y = cvL (fun x => (nthI kW x).toNat) cN ((B.take m).drop 7) ∧ (I : Int) = ki ∧ E = 0) :
    Code.wp Tryd.prog (tailR 17 (Tryd.f6.body.getD .skip)) Q (Act.mk (List.toArray (u0 :: (.slice (some ⟨bb, ob, none⟩) (m + 8) cb) :: (.pointer (some ⟨g2, 0, none⟩)) :: u3 :: (.pointer (some ⟨g4, 0, none⟩)) :: u5 :: u6 :: u7 :: (.int .i64 ((m : Int) + 8)) :: (.int .i64 (j : Int)) :: (.pointer (some ⟨g10, 0, none⟩)) :: (.int .i64 (cN : Int)) :: u12 :: u13 :: u14 :: u15 :: u16 :: u17 :: u18 :: u19 :: u20 :: u21 :: u22 :: u23 :: u24 :: u25 :: u26 :: u27 :: u28 :: u29 :: u30 :: u31 :: u32 :: u33 :: u34 :: u35 :: u36 :: u37 :: u38 :: u39 :: u40 :: u41 :: u42 :: u43 :: u44 :: u45 :: u46 :: u47 :: u48 :: u49 :: u50 :: u51 :: u52 :: u53 :: u54 :: u55 :: u56 :: u57 :: u58 :: u59 :: u60 :: u61 :: u62 :: u63 :: u64 :: u65 :: u66 :: u67 :: u68 :: u69 :: u70 :: u71 :: u72 :: u73 :: u74 :: u75 :: u76 :: u77 :: u78 :: u79 :: u80 :: u81 :: u82 :: u83 :: u84 :: u85 :: u86 :: u87 :: u88 :: u89 :: u90 :: u91 :: u92 :: u93 :: u94 :: u95 :: u96 :: u97 :: u98 :: u99 :: u100 :: u101 :: u102 :: u103 :: u104 :: u105 :: u106 :: u107 :: u108 :: u109 :: u110 :: u111 :: u112 :: u113 :: u114 :: u115 :: u116 :: u117 :: u118 :: u119 :: u120 :: u121 :: u122 :: u123 :: u124 :: u125 :: u126 :: u127 :: u128 :: u129 :: u130 :: u131 :: u132 :: u133 :: u134 :: u135 :: u136 :: u137 :: u138 :: u139 :: u140 :: u141 :: u142 :: u143 :: u144 :: u145 :: u146 :: u147 :: u148 :: u149 :: u150 :: u151 :: u152 :: u153 :: u154 :: u155 :: u156 :: u157 :: u158 :: u159 :: u160 :: u161 :: u162 :: u163 :: u164 :: u165 :: u166 :: u167 :: u168 :: u169 :: u170 :: u171 :: u172 :: u173 :: u174 :: u175 :: u176 :: u177 :: [])) []) w := by
  let pq : Exit → Act → World → Prop := bodyPost Tryd.prog Tryd.f6 (fun _ _ => True)
  conv => enter [2]; whnf
  refine wp_seq_k fun K1 hK1 => ?_
  have HK1 : Hid _ := hK1
  clear hK1
  have hle := hb0.le
  have m1 : (m : Int) + 8 ≤ (cb : Int) := by omega
  have m2 : (m : Int) ≤ (cb : Int) := by omega
  have m3 : ¬ cb = m := by omega
  have m5 : ¬ cb = 7 := by omega
  have m6 : (7 : Int) ≤ (cb : Int) := by omega
  have m7 : (7 : Int) ≤ (m : Int) := by omega
  have m8 : (7 : Int) ≤ (m : Int) + 8 := by omega
  have mw : IntKind.i64.wrap ((m : Int) + 8 - 8) = (m : Int) := by rw [show (m : Int) + 8 - 8 = (m : Int) by omega]; exact wrap_i64_in _ (by omega) (by omega)
  have mw2 : IntKind.i64.wrap (m : Int) = (m : Int) := wrap_i64_in _ (by omega) (by omega)
  have m9 : ¬ (m : Int) + 8 < (m : Int) := by omega
  have m10 : (m : Int) ≤ (m : Int) + 8 := by omega
  have i1 := Tryd.info_rg1
  have hlr := hO.o.new gr rfl
  have hmem := List.mem_of_getElem? hi
  have SD := grown_drew w none
  have SX := b10.keep SD (by simp)
  refine wp_regionL (fun wz => BxS wz g10 36 #[.int .i64 ki, .slice ka 8 kc, .int .i64 kt, .int .i64 (s : Int)]) [] #[false, false, false, false, false, false, false, false, false, false, false, false, false] rfl (by kernel_rfl) ?_
  refine wpAnyZ_take [] 0 (.pointer (some ⟨g10, 1, none⟩)) rfl (by kernel_rfl) (fun c a w h => hP c _ _ w (by rfl) h) SX rfl (by intro wz hz; obtain ⟨v0, v1, v2, v3⟩ := BxS.cell4 hz; go_simp) ?_
  try simp only [List.getElem_toArray, List.getElem_cons_succ, List.getElem_cons_zero, Act.put, List.setIfInBounds_toArray, List.set_cons_zero, List.set_cons_succ]
  refine wpAnyZ_take [] 1 (.slice ka 8 kc) rfl (by kernel_rfl) (fun c a w h => hP c _ _ w (by rfl) h) SX rfl (by intro wz hz; obtain ⟨v0, v1, v2, v3⟩ := BxS.cell4 hz; go_simp) ?_
  try simp only [List.getElem_toArray, List.getElem_cons_succ, List.getElem_cons_zero, Act.put, List.setIfInBounds_toArray, List.set_cons_zero, List.set_cons_succ]
  refine wpAnyZ_take [] 2 (.int .i64 (cN : Int)) rfl (by kernel_rfl) (fun c a w h => hP c _ _ w (by rfl) h) SX rfl (by intro wz hz; obtain ⟨v0, v1, v2, v3⟩ := BxS.cell4 hz; go_simp) ?_
  try simp only [List.getElem_toArray, List.getElem_cons_succ, List.getElem_cons_zero, Act.put, List.setIfInBounds_toArray, List.set_cons_zero, List.set_cons_succ]
  refine wpAnyZ_take [] 3 (.slice (some ⟨bb, ob, none⟩) (m + 8) cb) rfl (by kernel_rfl) (fun c a w h => hP c _ _ w (by rfl) h) SX rfl (by intro wz hz; obtain ⟨v0, v1, v2, v3⟩ := BxS.cell4 hz; go_simp) ?_
  try simp only [List.getElem_toArray, List.getElem_cons_succ, List.getElem_cons_zero, Act.put, List.setIfInBounds_toArray, List.set_cons_zero, List.set_cons_succ]
  refine wpAnyZ_take [] 4 (.int .i64 ((m : Int) + 8)) rfl (by kernel_rfl) (fun c a w h => hP c _ _ w (by rfl) h) SX rfl (by intro wz hz; obtain ⟨v0, v1, v2, v3⟩ := BxS.cell4 hz; go_simp) ?_
  try simp only [List.getElem_toArray, List.getElem_cons_succ, List.getElem_cons_zero, Act.put, List.setIfInBounds_toArray, List.set_cons_zero, List.set_cons_succ]
  refine wpAnyZ_take [] 5 (.int .i64 (m : Int)) rfl (by kernel_rfl) (fun c a w h => hP c _ _ w (by rfl) h) SX rfl (by intro wz hz; obtain ⟨v0, v1, v2, v3⟩ := BxS.cell4 hz; go_simp) ?_
  try simp only [List.getElem_toArray, List.getElem_cons_succ, List.getElem_cons_zero, Act.put, List.setIfInBounds_toArray, List.set_cons_zero, List.set_cons_succ]
  refine wpAnyZ_take [] 6 (.slice (some ⟨bb, ob, none⟩) m cb) rfl (by kernel_rfl) (fun c a w h => hP c _ _ w (by rfl) h) SX rfl (by intro wz hz; obtain ⟨v0, v1, v2, v3⟩ := BxS.cell4 hz; go_simp) ?_
  try simp only [List.getElem_toArray, List.getElem_cons_succ, List.getElem_cons_zero, Act.put, List.setIfInBounds_toArray, List.set_cons_zero, List.set_cons_succ]
  generalize w.drew = w4 at *
  have G4 := grown_trans G0 SD
  have hO4 := hO.keep SD
  refine wpAnyZ_oneB 7 rfl (by kernel_rfl) (fun K hK => ?_)
  go_simp
  go_at_call 18
  refine (tagP_ok ka _ kc cN m cb kW (fun x => (nthI kW x).toNat) (B.take m) _ (hO4.o.each _ hmem).rd hWW hcl ((hb0.keep G4).cut (by omega)) (by omega)).mono ?_
  rintro e w5 ⟨a5, c5, rfl, hA5, y5⟩
  dsimp only
  have SX := SX.keep y5 (by simp)
  refine hK _ _ (fun _ => SX) ?_
  try simp only [List.getElem_toArray, List.getElem_cons_succ, List.getElem_cons_zero, Act.put, List.setIfInBounds_toArray, List.set_cons_zero, List.set_cons_succ]
  refine wpAnyZ_take [] 8 (.tuple #[.slice a5 8 c5, .int .i64 0]) rfl (by kernel_rfl) (fun c a w h => hP c _ _ w (by rfl) h) SX rfl (by intro wz hz; obtain ⟨v0, v1, v2, v3⟩ := BxS.cell4 hz; go_simp) ?_
  try simp only [List.getElem_toArray, List.getElem_cons_succ, List.getElem_cons_zero, Act.put, List.setIfInBounds_toArray, List.set_cons_zero, List.set_cons_succ]
  refine wpAnyZ_take [] 9 (.slice a5 8 c5) rfl (by kernel_rfl) (fun c a w h => hP c _ _ w (by rfl) h) SX rfl (by intro wz hz; obtain ⟨v0, v1, v2, v3⟩ := BxS.cell4 hz; go_simp) ?_
  try simp only [List.getElem_toArray, List.getElem_cons_succ, List.getElem_cons_zero, Act.put, List.setIfInBounds_toArray, List.set_cons_zero, List.set_cons_succ]
  refine wpAnyZ_take [] 10 (.int .i64 0) rfl (by kernel_rfl) (fun c a w h => hP c _ _ w (by rfl) h) SX rfl (by intro wz hz; obtain ⟨v0, v1, v2, v3⟩ := BxS.cell4 hz; go_simp) ?_
  try simp only [List.getElem_toArray, List.getElem_cons_succ, List.getElem_cons_zero, Act.put, List.setIfInBounds_toArray, List.set_cons_zero, List.set_cons_succ]
  refine wpAnyZ_take [] 11 (.slice a5 8 c5) rfl (by kernel_rfl) (fun c a w h => hP c _ _ w (by rfl) h) SX rfl (by intro wz hz; obtain ⟨v0, v1, v2, v3⟩ := BxS.cell4 hz; go_simp) ?_
  try simp only [List.getElem_toArray, List.getElem_cons_succ, List.getElem_cons_zero, Act.put, List.setIfInBounds_toArray, List.set_cons_zero, List.set_cons_succ]
  refine wpAnyZ_take [] 12 (.int .i64 0) rfl (by kernel_rfl) (fun c a w h => hP c _ _ w (by rfl) h) SX rfl (by intro wz hz; obtain ⟨v0, v1, v2, v3⟩ := BxS.cell4 hz; go_simp) ?_
  try simp only [List.getElem_toArray, List.getElem_cons_succ, List.getElem_cons_zero, Act.put, List.setIfInBounds_toArray, List.set_cons_zero, List.set_cons_succ]
  refine wpAnyZ_doneB (by kernel_rfl) ?_ _
  have Y5 := grown_trans SD y5
  have G5 := grown_trans G0 Y5
  have hO5 := hO.keep Y5
  have b25 := b2.keep Y5 (by simp)
  have b45 := b4.keep Y5 (by simp)
  have hbG : ∀ wz, w0.grownBy wz none → Rd wz (some ⟨bb, ob + m, none⟩) 8 (cb - m) (B.drop m) := fun wz hz => by
    have := (hb0.keep hz).part' m 8 (by omega)
    rwa [List.take_of_length_le (by rw [List.length_drop, hb0.len]; omega)] at this
  have b2l := b2.lt
  have b4l := b4.lt
  clear b2 b4
  refine HK1.out _ _ ?_
  clear HK1
  refine wp_seq_k fun K2 hK2 => ?_
  have HK2 : Hid _ := hK2
  clear hK2
  refine wp_seq_k fun K3 hK3 => ?_
  have HK3 : Hid _ := hK3
  clear hK3
  have SE := grown_drew w5 none
  have HA5 : Hid _ := hA5
  clear hA5
  by_cases hT : B.drop m = tagL (fun x => (nthI kW x).toNat) cN (B.take m)
  · have HO : Hid _ := hOld hT
    have HN : Hid _ := hNew hT
    clear hBad hOld hNew
    rw [hT] at hbG
    generalize tagL (fun x => (nthI kW x).toNat) cN (B.take m) = TL at *
    clear hT
    refine wp_regionL (fun wz => w5.grownBy wz none) [] #[false, false, false, false, false, false, false, false] rfl (by kernel_rfl) ?_
    refine wpAnyZ_take [] 0 (.slice a5 8 c5) rfl (by kernel_rfl) (fun c a w h => hP c _ _ w (by rfl) h) SE rfl (by intro wz hz; go_simp) ?_
    try simp only [List.getElem_toArray, List.getElem_cons_succ, List.getElem_cons_zero, Act.put, List.setIfInBounds_toArray, List.set_cons_zero, List.set_cons_succ]
    refine wpAnyZ_take [] 1 (.string (strB TL)) rfl (by kernel_rfl) (fun c a w h => hP c _ _ w (by rfl) h) SE rfl (by intro wz hz; have e1 := str_any wz a5 8 c5 TL (HA5.out.keep hz).rd; go_simp) ?_
    try simp only [List.getElem_toArray, List.getElem_cons_succ, List.getElem_cons_zero, Act.put, List.setIfInBounds_toArray, List.set_cons_zero, List.set_cons_succ]
    refine wpAnyZ_take [] 2 (.slice (some ⟨bb, ob, none⟩) (m + 8) cb) rfl (by kernel_rfl) (fun c a w h => hP c _ _ w (by rfl) h) SE rfl (by intro wz hz; go_simp) ?_
    try simp only [List.getElem_toArray, List.getElem_cons_succ, List.getElem_cons_zero, Act.put, List.setIfInBounds_toArray, List.set_cons_zero, List.set_cons_succ]
    refine wpAnyZ_take [] 3 (.int .i64 ((m : Int) + 8)) rfl (by kernel_rfl) (fun c a w h => hP c _ _ w (by rfl) h) SE rfl (by intro wz hz; go_simp) ?_
    try simp only [List.getElem_toArray, List.getElem_cons_succ, List.getElem_cons_zero, Act.put, List.setIfInBounds_toArray, List.set_cons_zero, List.set_cons_succ]
    refine wpAnyZ_take [] 4 (.int .i64 (m : Int)) rfl (by kernel_rfl) (fun c a w h => hP c _ _ w (by rfl) h) SE rfl (by intro wz hz; go_simp) ?_
    try simp only [List.getElem_toArray, List.getElem_cons_succ, List.getElem_cons_zero, Act.put, List.setIfInBounds_toArray, List.set_cons_zero, List.set_cons_succ]
    refine wpAnyZ_take [] 5 (.slice (some ⟨bb, ob + m, none⟩) 8 (cb - m)) rfl (by kernel_rfl) (fun c a w h => hP c _ _ w (by rfl) h) SE rfl (by intro wz hz; go_simp) ?_
    try simp only [List.getElem_toArray, List.getElem_cons_succ, List.getElem_cons_zero, Act.put, List.setIfInBounds_toArray, List.set_cons_zero, List.set_cons_succ]
    refine wpAnyZ_take [] 6 (.string (strB TL)) rfl (by kernel_rfl) (fun c a w h => hP c _ _ w (by rfl) h) SE rfl (by intro wz hz; have e1 := str_any wz _ 8 _ TL (hbG wz (grown_trans G5 hz)); go_simp) ?_
    try simp only [List.getElem_toArray, List.getElem_cons_succ, List.getElem_cons_zero, Act.put, List.setIfInBounds_toArray, List.set_cons_zero, List.set_cons_succ]
    refine wpAnyZ_take [] 7 (.bool false) rfl (by kernel_rfl) (fun c a w h => hP c _ _ w (by rfl) h) SE rfl (by intro wz hz; go_simp) ?_
    try simp only [List.getElem_toArray, List.getElem_cons_succ, List.getElem_cons_zero, Act.put, List.setIfInBounds_toArray, List.set_cons_zero, List.set_cons_succ]
    refine wpAnyZ_doneB (by kernel_rfl) ?_ _
    refine HK3.out _ _ ?_
    clear HK3
    go_wp2
    have G6 := grown_trans G5 SE
    refine HK2.out _ _ ?_
    exact un_t20 Q w0 _ g2 g4 g10 lo gr n c2 j m cb bb ob cN s kc ks R V B Y I E ka ki kt kW hret hP G6 hb0 hm (b25.keep SE (by simp)) (b45.keep SE (by simp)) (hO5.keep SE) hi hhi h24 hWW hs2 hkt hcl (SX.keep SE (by simp)) hs0 HO.out HN.out
  · have hB9 := hBad hT
    have hne := strB_ne (tagL_isB (fun x => (nthI kW x).toNat) cN (B.take m)) (fun x hx => hb0.byte x (List.mem_of_mem_drop hx) : IsB (B.drop m)) (fun e => hT e.symm)
    clear hBad hNew hOld hT
    generalize tagL (fun x => (nthI kW x).toNat) cN (B.take m) = TL at *
    generalize B.drop m = DL at *
    refine wp_regionL (fun wz => w5.grownBy wz none) [] #[false, false, false, false, false, false, false, false] rfl (by kernel_rfl) ?_
    refine wpAnyZ_take [] 0 (.slice a5 8 c5) rfl (by kernel_rfl) (fun c a w h => hP c _ _ w (by rfl) h) SE rfl (by intro wz hz; go_simp) ?_
    try simp only [List.getElem_toArray, List.getElem_cons_succ, List.getElem_cons_zero, Act.put, List.setIfInBounds_toArray, List.set_cons_zero, List.set_cons_succ]
    refine wpAnyZ_take [] 1 (.string (strB TL)) rfl (by kernel_rfl) (fun c a w h => hP c _ _ w (by rfl) h) SE rfl (by intro wz hz; have e1 := str_any wz a5 8 c5 TL (HA5.out.keep hz).rd; go_simp) ?_
    try simp only [List.getElem_toArray, List.getElem_cons_succ, List.getElem_cons_zero, Act.put, List.setIfInBounds_toArray, List.set_cons_zero, List.set_cons_succ]
    refine wpAnyZ_take [] 2 (.slice (some ⟨bb, ob, none⟩) (m + 8) cb) rfl (by kernel_rfl) (fun c a w h => hP c _ _ w (by rfl) h) SE rfl (by intro wz hz; go_simp) ?_
    try simp only [List.getElem_toArray, List.getElem_cons_succ, List.getElem_cons_zero, Act.put, List.setIfInBounds_toArray, List.set_cons_zero, List.set_cons_succ]
    refine wpAnyZ_take [] 3 (.int .i64 ((m : Int) + 8)) rfl (by kernel_rfl) (fun c a w h => hP c _ _ w (by rfl) h) SE rfl (by intro wz hz; go_simp) ?_
    try simp only [List.getElem_toArray, List.getElem_cons_succ, List.getElem_cons_zero, Act.put, List.setIfInBounds_toArray, List.set_cons_zero, List.set_cons_succ]
    refine wpAnyZ_take [] 4 (.int .i64 (m : Int)) rfl (by kernel_rfl) (fun c a w h => hP c _ _ w (by rfl) h) SE rfl (by intro wz hz; go_simp) ?_
    try simp only [List.getElem_toArray, List.getElem_cons_succ, List.getElem_cons_zero, Act.put, List.setIfInBounds_toArray, List.set_cons_zero, List.set_cons_succ]
    refine wpAnyZ_take [] 5 (.slice (some ⟨bb, ob + m, none⟩) 8 (cb - m)) rfl (by kernel_rfl) (fun c a w h => hP c _ _ w (by rfl) h) SE rfl (by intro wz hz; go_simp) ?_
    try simp only [List.getElem_toArray, List.getElem_cons_succ, List.getElem_cons_zero, Act.put, List.setIfInBounds_toArray, List.set_cons_zero, List.set_cons_succ]
    refine wpAnyZ_take [] 6 (.string (strB DL)) rfl (by kernel_rfl) (fun c a w h => hP c _ _ w (by rfl) h) SE rfl (by intro wz hz; have e1 := str_any wz _ 8 _ DL (hbG wz (grown_trans G5 hz)); go_simp) ?_
    try simp only [List.getElem_toArray, List.getElem_cons_succ, List.getElem_cons_zero, Act.put, List.setIfInBounds_toArray, List.set_cons_zero, List.set_cons_succ]
    refine wpAnyZ_take [] 7 (.bool true) rfl (by kernel_rfl) (fun c a w h => hP c _ _ w (by rfl) h) SE rfl (by intro wz hz; go_simp) ?_
    try simp only [List.getElem_toArray, List.getElem_cons_succ, List.getElem_cons_zero, Act.put, List.setIfInBounds_toArray, List.set_cons_zero, List.set_cons_succ]
    refine wpAnyZ_doneB (by kernel_rfl) ?_ _
    refine HK3.out _ _ ?_
    clear HK3
    have G6 := grown_trans G5 SE
    have b2 := b25.keep SE (by simp)
    have b4 := b45.keep SE (by simp)
    have hO := hO5.keep SE
    generalize w5.drew = w6 at *
    have x0 : w6.cell? ⟨g2, 0, none⟩ = some (.slice (some ⟨gr, 0, none⟩) n c2) := b2.cell 0 (by show 0 < 1; decide)
    have s0 : True := trivial
    go_wp2_with (have _t := s0; clear s0; refine wpList_stX _ rfl _ (.tmp 4) (.tmp 84) rfl g4 _ _ rfl rfl b4 i1 rfl (by simp [Value.oneCell']) ?_; intro w9 b9 u9)
    refine hret _ _ ?_
    refine bodyPost_ret (results_cell4 rfl _ _ _ ⟨g4, 0, none⟩ _ (.slice none 0 0) (.int .i64 0) (.int .i64 14) rfl (BxS.load (t := 24) b9 Tryd.underlying24 i1) rfl rfl rfl) rfl ?_
    obtain ⟨rfl, rfl, rfl, rfl⟩ := hB9
    exact ⟨_, _, _, none, 0, 0, rfl, (hO.far u9 (by omega)).rd, (ansN _ 0).rd, (fun g off e => by cases e), grown_far G6 u9 (fun q e => by have e := Option.some.inj e; omega)⟩


set_option maxHeartbeats 32000000 in
theorem un_t12 {u0 u3 u5 u6 u7 u11 u12 u13 u14 u15 u16 u17 u18 u19 u20 u21 u22 u23 u24 u25 u26 u27 u28 u29 u30 u31 u32 u33 u34 u35 u36 u37 u38 u39 u40 u41 u42 u43 u44 u45 u46 u47 u48 u49 u50 u51 u52 u53 u54 u55 u56 u57 u58 u59 u60 u61 u62 u63 u64 u65 u66 u67 u68 u69 u70 u71 u72 u73 u74 u75 u76 u77 u78 u79 u80 u81 u82 u83 u84 u85 u86 u87 u88 u89 u90 u91 u92 u93 u94 u95 u96 u97 u98 u99 u100 u101 u102 u103 u104 u105 u106 u107 u108 u109 u110 u111 u112 u113 u114 u115 u116 u117 u118 u119 u120 u121 u122 u123 u124 u125 u126 u127 u128 u129 u130 u131 u132 u133 u134 u135 u136 u137 u138 u139 u140 u141 u142 u143 u144 u145 u146 u147 u148 u149 u150 u151 u152 u153 u154 u155 u156 u157 u158 u159 u160 u161 u162 u163 u164 u165 u166 u167 u168 u169 u170 u171 u172 u173 u174 u175 u176 u177 : Value} (Q : Exit → Act → World → Prop) (w0 w : World) (g2 g4 g10 lo gr n c2 j m cb bb ob cN s kc : Nat) (ks : List Kw) (R V : List Kd) (B Y : List Nat) (I E : Nat) (ka : Option Addr) (ki kt : Int) (kW : List Int) (hret : ∀ a wz, bodyPost Tryd.prog Tryd.f6 (fun e w' => ∃ (a' : Option Addr) (n' c' : Nat) (ya : Option Addr) (yn yc : Nat), e = .returned (.tuple #[.agg #[.slice a' n' c'], .slice ya yn yc, .int .i64 (I : Int), .int .i64 (E : Int)]) ∧ RdG w' a' n' c' V ∧ Rd w' ya yn yc Y ∧ (∀ g off, ya = some ⟨g, off, none⟩ → g < w'.heap.size) ∧ w0.grownBy w' none) .ret a wz → Q .ret a wz) (hP : ∀ c a a' wz, a.defers = a'.defers → Q (.panic c) a wz → Q (.panic c) a' wz) (G0 : w0.grownBy w none) (hb0 : Rd w0 (some ⟨bb, ob, none⟩) (m + 8) cb B) (hm : 7 ≤ m ∧ m ≤ 1007) (b2 : BxS w g2 24 #[.slice (some ⟨gr, 0, none⟩) n c2]) (b4 : BxS w g4 24 #[.slice none 0 0]) (hO : OwG w lo (some ⟨gr, 0, none⟩) n c2 ks R) (hi : ks[j]? = some ⟨ki, ka, 8, kc, kW, kt, (s : Int)⟩) (hhi : ∀ x, Okb (.slice (some ⟨gr, 0, none⟩) n c2) ks x → x < g10) (h24 : w0.heap.size ≤ g2 ∧ g2 < g4 ∧ g4 < lo ∧ lo ≤ g10) (hWW : ∀ i, i < 8 → nthI kW i = ((nthI kW i).toNat : Int) ∧ (nthI kW i).toNat < 4294967296) (hs2 : s < 4611686018427387904) (hkt : -1 ≤ kt ∧ kt ≤ 281474976710655) (hcl : cN < 281474976710656) (b10 : BxS w g10 36 #[.int .i64 ki, .slice ka 8 kc, .int .i64 kt, .int .i64 (s : Int)]) (hs0 : kt < 0 → s = 0) (hBad : ¬ B.drop m = tagL (fun x => (nthI kW x).toNat) cN (B.take m) → V = R ∧ Y = [] ∧ I = 0 ∧ E = 14) (hOld : B.drop m = tagL (fun x => (nthI kW x).toNat) cN (B.take m) → oldB kt s cN = true → V = R ∧ Y = [] ∧ I = 0 ∧ E = 13) (hNew : B.drop m = tagL (fun x => (nthI kW x).toNat) cN (B.take m) → oldB kt s cN = false → V = R.set j ⟨ki, kW, (opT kt cN), (opS kt s cN : Int)⟩ ∧ Y = cvL (fun x => (nthI kW x).toNat) cN ((B.take m).drop 7) ∧ (I : Int) = ki ∧ E = 0) (hcN : nuN ((B.drop 1).take 6) 6 = cN) :
    Code.wp Tryd.prog (tailR 12 (Tryd.f6.body.getD .skip)) Q (Act.mk (List.toArray (u0 :: (.slice (some ⟨bb, ob, none⟩) (m + 8) cb) :: (.pointer (some ⟨g2, 0, none⟩)) :: u3 :: (.pointer (some ⟨g4, 0, none⟩)) :: u5 :: u6 :: u7 :: (.int .i64 ((m : Int) + 8)) :: (.int .i64 (j : Int)) :: (.pointer (some ⟨g10, 0, none⟩)) :: u11 :: u12 :: u13 :: u14 :: u15 :: u16 :: u17 :: u18 :: u19 :: u20 :: u21 :: u22 :: u23 :: u24 :: u25 :: u26 :: u27 :: u28 :: u29 :: u30 :: u31 :: u32 :: u33 :: u34 :: u35 :: u36 :: u37 :: u38 :: u39 :: u40 :: u41 :: u42 :: u43 :: u44 :: u45 :: u46 :: u47 :: u48 :: u49 :: u50 :: u51 :: u52 :: u53 :: u54 :: u55 :: u56 :: u57 :: u58 :: u59 :: u60 :: u61 :: u62 :: u63 :: u64 :: u65 :: u66 :: u67 :: u68 :: u69 :: u70 :: u71 :: u72 :: u73 :: u74 :: u75 :: u76 :: u77 :: u78 :: u79 :: u80 :: u81 :: u82 :: u83 :: u84 :: u85 :: u86 :: u87 :: u88 :: u89 :: u90 :: u91 :: u92 :: u93 :: u94 :: u95 :: u96 :: u97 :: u98 :: u99 :: u100 :: u101 :: u102 :: u103 :: u104 :: u105 :: u106 :: u107 :: u108 :: u109 :: u110 :: u111 :: u112 :: u113 :: u114 :: u115 :: u116 :: u117 :: u118 :: u119 :: u120 :: u121 :: u122 :: u123 :: u124 :: u125 :: u126 :: u127 :: u128 :: u129 :: u130 :: u131 :: u132 :: u133 :: u134 :: u135 :: u136 :: u137 :: u138 :: u139 :: u140 :: u141 :: u142 :: u143 :: u144 :: u145 :: u146 :: u147 :: u148 :: u149 :: u150 :: u151 :: u152 :: u153 :: u154 :: u155 :: u156 :: u157 :: u158 :: u159 :: u160 :: u161 :: u162 :: u163 :: u164 :: u165 :: u166 :: u167 :: u168 :: u169 :: u170 :: u171 :: u172 :: u173 :: u174 :: u175 :: u176 :: u177 :: [])) []) w := by
  let pq : Exit → Act → World → Prop := bodyPost Tryd.prog Tryd.f6 (fun _ _ => True)
  conv => enter [2]; whnf
  refine wp_seq_k fun K1 hK1 => ?_
  have HK1 : Hid _ := hK1
  clear hK1
  go_wp2
  refine HK1.out _ _ ?_
  clear HK1
  refine wp_seq_k fun K2 hK2 => ?_
  have HK2 : Hid _ := hK2
  clear hK2
  have HcN : Hid _ := hcN
  clear hcN
  have hbw := hb0.keep G0
  have hBB : IsB ((B.drop 1).take 6) := fun x hx => hb0.byte x (List.mem_of_mem_drop (List.mem_of_mem_take hx))
  go_wp2
  go_loopw [11, 12] (fun cv jv wr => ∃ k : Nat, jv = .int .i64 ((k : Int) + 1) ∧ k ≤ 6 ∧ cv = .int .i64 (nuN ((B.drop 1).take 6) k : Nat) ∧ Hid (wr = w)) (fun _ jv _ => 7 - (intOf jv).toNat)
  case atStart => exact ⟨0, by go_num, Nat.zero_le _, rfl, rfl⟩
  case round =>
    obtain ⟨k, rfl, hk, rfl, hwr⟩ := hrel
    have hwr := hwr.out
    subst hwr
    by_cases hlt : k < 6
    · have hlt' : (k : Int) + 1 < 7 := by omega
      obtain ⟨b', o', e, _, hc⟩ := hbw.at' (by omega)
      cases e
      have hck := hc (k + 1) (by omega)
      clear hc
      have hnt : nth ((B.drop 1).take 6) k = nth B (k + 1) := by
        unfold nth
        rw [List.getD_eq_getElem?_getD, List.getD_eq_getElem?_getD, List.getElem?_take, if_pos hlt, List.getElem?_drop, Nat.add_comm]
      have hbk : nth B (k + 1) < 256 := hb0.byte.nth (k + 1)
      have hv : nuN ((B.drop 1).take 6) k < 36028797018963968 := Nat.lt_of_lt_of_le (nuN_lt hBB k) (Nat.le_trans (Nat.pow_le_pow_right (n := 256) (by decide) (show k ≤ 5 by omega)) (by decide))
      have HN : Hid (nuN ((B.drop 1).take 6) (k + 1) = nuN ((B.drop 1).take 6) k * 256 + nth B (k + 1)) := by show _ = _; rw [← hnt]; rfl
      have hki : (k : Int) + 1 < (m : Int) + 8 := by omega
      have hkz : ¬ (k : Int) + 1 < 0 := by omega
      have hkw : IntKind.i64.wrap ((k : Int) + 1 + 1) = (k : Int) + 1 + 1 := wrap_i64_in _ (by omega) (by omega)
      generalize nth B (k + 1) = b at *
      generalize nuN ((B.drop 1).take 6) k = v at *
      have hf := or_byteI v b hv hbk
      have hwv : IntKind.i64.wrap ((v : Int) * 256) = (v : Int) * 256 := wrap_i64_in _ (by omega) (by omega)
      have hwb : IntKind.i64.wrap (b : Int) = (b : Int) := wrap_i64_in _ (by omega) (by omega)
      clear hnt
      go_wp2
      go_roundw
      case rel => exact ⟨k + 1, by go_num, by omega, by rw [HN.out]; exact congrArg _ (by omega), trivial⟩
      case measure => simp [intOf]; omega
    · obtain rfl : k = 6 := by omega
      rw [HcN.out]
      go_wp2
      refine HK2.out _ _ ?_
      exact un_t17 Q w0 _ g2 g4 g10 lo gr n c2 j m cb bb ob cN s kc ks R V B Y I E ka ki kt kW hret hP G0 hb0 hm b2 b4 hO hi hhi h24 hWW hs2 hkt hcl b10 hs0 hBad hOld hNew

set_option maxHeartbeats 32000000 in
theorem un_t10 {u0 u3 u5 u6 u7 u10 u11 u12 u13 u14 u15 u16 u17 u18 u19 u20 u21 u22 u23 u24 u25 u26 u27 u28 u29 u30 u31 u32 u33 u34 u35 u36 u37 u38 u39 u40 u41 u42 u43 u44 u45 u46 u47 u48 u49 u50 u51 u52 u53 u54 u55 u56 u57 u58 u59 u60 u61 u62 u63 u64 u65 u66 u67 u68 u69 u70 u71 u72 u73 u74 u75 u76 u77 u78 u79 u80 u81 u82 u83 u84 u85 u86 u87 u88 u89 u90 u91 u92 u93 u94 u95 u96 u97 u98 u99 u100 u101 u102 u103 u104 u105 u106 u107 u108 u109 u110 u111 u112 u113 u114 u115 u116 u117 u118 u119 u120 u121 u122 u123 u124 u125 u126 u127 u128 u129 u130 u131 u132 u133 u134 u135 u136 u137 u138 u139 u140 u141 u142 u143 u144 u145 u146 u147 u148 u149 u150 u151 u152 u153 u154 u155 u156 u157 u158 u159 u160 u161 u162 u163 u164 u165 u166 u167 u168 u169 u170 u171 u172 u173 u174 u175 u176 u177 : Value} (Q : Exit → Act → World → Prop) (w0 w : World) (g2 g4 lo gr n c2 j m cb bb ob : Nat) (ks : List Kw) (R V : List Kd) (B Y : List Nat) (I E : Nat) (hret : ∀ a wz, bodyPost Tryd.prog Tryd.f6 (fun e w' => ∃ (a' : Option Addr) (n' c' : Nat) (ya : Option Addr) (yn yc : Nat), e = .returned (.tuple #[.agg #[.slice a' n' c'], .slice ya yn yc, .int .i64 (I : Int), .int .i64 (E : Int)]) ∧ RdG w' a' n' c' V ∧ Rd w' ya yn yc Y ∧ (∀ g off, ya = some ⟨g, off, none⟩ → g < w'.heap.size) ∧ w0.grownBy w' none) .ret a wz → Q .ret a wz) (hP : ∀ c a a' wz, a.defers = a'.defers → Q (.panic c) a wz → Q (.panic c) a' wz) (G0 : w0.grownBy w none) (hb0 : Rd w0 (some ⟨bb, ob, none⟩) (m + 8) cb B) (hm : 7 ≤ m ∧ m ≤ 1007) (b2 : BxS w g2 24 #[.slice (some ⟨gr, 0, none⟩) n c2]) (b4 : BxS w g4 24 #[.slice none 0 0]) (hO : OwG w lo (some ⟨gr, 0, none⟩) n c2 ks R) (h24 : w0.heap.size ≤ g2 ∧ g2 < g4 ∧ g4 < lo) (hlo : lo ≤ w.heap.size) (hjn : j < n) (hrm : rmB R = true) (hno : ∀ i, i < j → (R.getD i kd0).id ≠ (nth B 0 : Int)) (hV : V = onV R B) (hY : Y = onY R B) (hI : I = onI R B) (hE : E = onE R B)
    (hQ : ∀ (z10 z39 z40 z41 z42 z43 z44 z45 z46 z47 z48 z49 z50 z51 z52 : Value) (w' : World), BxS w' g2 24 #[.slice (some ⟨gr, 0, none⟩) n c2] ∧ BxS w' g4 24 #[.slice none 0 0] ∧ OwG w' lo (some ⟨gr, 0, none⟩) n c2 ks R ∧ w0.grownBy w' none → (R.getD j kd0).id ≠ (nth B 0 : Int) → Q .normal (Act.mk (List.toArray (u0 :: (.slice (some ⟨bb, ob, none⟩) (m + 8) cb) :: (.pointer (some ⟨g2, 0, none⟩)) :: u3 :: (.pointer (some ⟨g4, 0, none⟩)) :: u5 :: u6 :: u7 :: (.int .i64 ((m : Int) + 8)) :: (.int .i64 ((j : Int) + 1)) :: z10 :: u11 :: u12 :: u13 :: u14 :: u15 :: u16 :: u17 :: u18 :: u19 :: u20 :: u21 :: u22 :: u23 :: u24 :: u25 :: u26 :: u27 :: u28 :: u29 :: u30 :: u31 :: u32 :: u33 :: u34 :: u35 :: u36 :: u37 :: u38 :: z39 :: z40 :: z41 :: z42 :: z43 :: z44 :: z45 :: z46 :: z47 :: z48 :: z49 :: z50 :: z51 :: z52 :: u53 :: u54 :: u55 :: u56 :: u57 :: u58 :: u59 :: u60 :: u61 :: u62 :: u63 :: u64 :: u65 :: u66 :: u67 :: u68 :: u69 :: u70 :: u71 :: u72 :: u73 :: u74 :: u75 :: u76 :: u77 :: u78 :: u79 :: u80 :: u81 :: u82 :: u83 :: u84 :: u85 :: u86 :: u87 :: u88 :: u89 :: u90 :: u91 :: u92 :: u93 :: u94 :: u95 :: u96 :: u97 :: u98 :: u99 :: u100 :: u101 :: u102 :: u103 :: u104 :: u105 :: u106 :: u107 :: u108 :: u109 :: u110 :: u111 :: u112 :: u113 :: u114 :: u115 :: u116 :: u117 :: u118 :: u119 :: u120 :: u121 :: u122 :: u123 :: u124 :: u125 :: u126 :: u127 :: u128 :: u129 :: u130 :: u131 :: u132 :: u133 :: u134 :: u135 :: u136 :: u137 :: u138 :: u139 :: u140 :: u141 :: u142 :: u143 :: u144 :: u145 :: u146 :: u147 :: u148 :: u149 :: u150 :: u151 :: u152 :: u153 :: u154 :: u155 :: u156 :: u157 :: u158 :: u159 :: u160 :: u161 :: u162 :: u163 :: u164 :: u165 :: u166 :: u167 :: u168 :: u169 :: u170 :: u171 :: u172 :: u173 :: u174 :: u175 :: u176 :: u177 :: [])) []) w') :
    Code.wp Tryd.prog (tailR 10 (Tryd.f6.body.getD .skip)) Q (Act.mk (List.toArray (u0 :: (.slice (some ⟨bb, ob, none⟩) (m + 8) cb) :: (.pointer (some ⟨g2, 0, none⟩)) :: u3 :: (.pointer (some ⟨g4, 0, none⟩)) :: u5 :: u6 :: u7 :: (.int .i64 ((m : Int) + 8)) :: (.int .i64 (j : Int)) :: u10 :: u11 :: u12 :: u13 :: u14 :: u15 :: u16 :: u17 :: u18 :: u19 :: u20 :: u21 :: u22 :: u23 :: u24 :: u25 :: u26 :: u27 :: u28 :: u29 :: u30 :: u31 :: u32 :: u33 :: u34 :: u35 :: u36 :: u37 :: u38 :: u39 :: u40 :: u41 :: u42 :: u43 :: u44 :: u45 :: u46 :: u47 :: u48 :: u49 :: u50 :: u51 :: u52 :: u53 :: u54 :: u55 :: u56 :: u57 :: u58 :: u59 :: u60 :: u61 :: u62 :: u63 :: u64 :: u65 :: u66 :: u67 :: u68 :: u69 :: u70 :: u71 :: u72 :: u73 :: u74 :: u75 :: u76 :: u77 :: u78 :: u79 :: u80 :: u81 :: u82 :: u83 :: u84 :: u85 :: u86 :: u87 :: u88 :: u89 :: u90 :: u91 :: u92 :: u93 :: u94 :: u95 :: u96 :: u97 :: u98 :: u99 :: u100 :: u101 :: u102 :: u103 :: u104 :: u105 :: u106 :: u107 :: u108 :: u109 :: u110 :: u111 :: u112 :: u113 :: u114 :: u115 :: u116 :: u117 :: u118 :: u119 :: u120 :: u121 :: u122 :: u123 :: u124 :: u125 :: u126 :: u127 :: u128 :: u129 :: u130 :: u131 :: u132 :: u133 :: u134 :: u135 :: u136 :: u137 :: u138 :: u139 :: u140 :: u141 :: u142 :: u143 :: u144 :: u145 :: u146 :: u147 :: u148 :: u149 :: u150 :: u151 :: u152 :: u153 :: u154 :: u155 :: u156 :: u157 :: u158 :: u159 :: u160 :: u161 :: u162 :: u163 :: u164 :: u165 :: u166 :: u167 :: u168 :: u169 :: u170 :: u171 :: u172 :: u173 :: u174 :: u175 :: u176 :: u177 :: [])) []) w := by
  let pq : Exit → Act → World → Prop := bodyPost Tryd.prog Tryd.f6 (fun _ _ => True)
  conv => enter [2]; whnf
  refine wp_seq_k fun K1 hK1 => ?_
  have HK1 : Hid _ := hK1
  clear hK1
  refine wp_block ?_
  refine wp_seq_k fun K2 hK2 => ?_
  have HK2 : Hid _ := hK2
  clear hK2
  have HQ : Hid _ := hQ
  clear hQ
  have hln := hO.o.len
  have hlR : R.length = n := by rw [← hO.d, List.length_map]; exact hln
  have hlB := hb0.len
  have hjn' : (j : Int) < (n : Int) := by omega
  obtain ⟨kk, hi⟩ : ∃ kk, ks[j]? = some kk := ⟨_, List.getElem?_eq_getElem (by omega)⟩
  have hkd : R.getD j kd0 = kk.d := by rw [← hO.d, List.getD_eq_getElem?_getD, List.getElem?_map, hi]; rfl
  obtain ⟨hk8, hkw, hkt, hks⟩ := on_key hrm (show j < R.length by omega)
  have hkm : kdB (R.getD j kd0) = true := by
    have h := hrm
    unfold rmB at h
    rw [Bool.and_eq_true] at h
    exact rmA_at h.2 j (by omega)
  rw [hkd] at hk8 hkw hkt hks hkm
  have hmem : kk ∈ ks := List.mem_of_getElem? hi
  have hkn : kk.n = 8 := by rw [← (hO.o.each kk hmem).len]; exact hk8
  obtain ⟨ki, ka, kn, kc, kW, kt, ksn⟩ := kk
  have hkn : kn = 8 := hkn
  subst hkn
  have hks : 0 ≤ ksn ∧ ksn < 4611686018427387904 := hks
  obtain ⟨s, rfl⟩ : ∃ s : Nat, ksn = (s : Int) := ⟨ksn.toNat, by omega⟩
  have hs2 : s < 4611686018427387904 := by omega
  have hkt : -1 ≤ kt ∧ kt ≤ 281474976710655 := hkt
  have hs0 : kt < 0 → s = 0 := fun h => by
    unfold kdB kmB at hkm
    simp only [Bool.and_eq_true, beq_iff_eq] at hkm
    have h5 := hkm.2
    unfold snB at h5
    have h5 := kwB_ok h5
    have h6 : snT kt = 0 := by unfold snT; omega
    have h7 : (s : Int) ≤ ((2 ^ snT kt : Nat) : Int) - 1 := h5.2
    rw [h6] at h7
    omega
  have hWW : ∀ i, i < 8 → nthI kW i = ((nthI kW i).toNat : Int) ∧ (nthI kW i).toNat < 4294967296 := fun i hi8 => by
    have : 0 ≤ nthI kW i ∧ nthI kW i ≤ 4294967295 := hkw i hi8
    omega
  have HKD : Hid (R.getD j kd0 = ⟨ki, kW, kt, (s : Int)⟩) := hkd
  clear hkd hk8 hkw hkm hks
  obtain ⟨t0, t1, t2, t3⟩ := hO.o.rd.four hi
  rw [Nat.zero_add] at t0 t1 t2 t3
  dsimp only at t0 t1 t2 t3
  have x0 : w.cell? ⟨g2, 0, none⟩ = some (.slice (some ⟨gr, 0, none⟩) n c2) := b2.cell 0 (by show 0 < 1; decide)
  have i4 := Tryd.info_ky4
  have i1 := Tryd.info_rg1
  have bn := BxS.new w 36 #[.int .i64 0, .slice none 0 0, .int .i64 0, .int .i64 0]
  have gn := World.grownBy_alloc w (.cells #[.int .i64 0, .slice none 0 0, .int .i64 0, .int .i64 0] 36) none
  have s0 : True := trivial
  go_wp2_with (have _t := s0; clear s0; refine wpList_stX _ rfl _ (.tmp 10) (.tmp 45) rfl w.heap.size _ _ rfl rfl bn i4 rfl (by simp [Value.oneCell']) ?_; intro w3 b10 u3)
  have Y3 := grown_far gn u3 (fun q e => by have e := Option.some.inj e; omega)
  have G3 := grown_trans G0 Y3
  have hO3 := hO.keep Y3
  have b23 := b2.keep Y3 (by simp)
  have b43 := b4.keep Y3 (by simp)
  have hhi : ∀ x, Okb (.slice (some ⟨gr, 0, none⟩) n c2) ks x → x < w.heap.size := fun x hx => (hO.o.hi hx).1
  clear x0 t0 t1 t2 t3
  refine HK2.out _ _ ?_
  clear HK2
  refine wp_seq_k fun K3 hK3 => ?_
  have HK3 : Hid _ := hK3
  clear hK3
  refine wp_seq_k fun K4 hK4 => ?_
  have HK4 : Hid _ := hK4
  clear hK4
  have SE := grown_drew w3 none
  have hb00 : ∀ wz, w0.grownBy wz none → wz.cell? ⟨bb, ob, none⟩ = some (.int .u8 (nth B 0 : Int)) := fun wz hz => by
    obtain ⟨_, _, e, _, hc⟩ := (hb0.keep hz).at' (by omega)
    cases e
    exact hc 0 (by omega)
  have hB0 : nth B 0 < 256 := hb0.byte.nth 0
  have hwb : IntKind.i64.wrap (nth B 0 : Int) = (nth B 0 : Int) := wrap_i64_in _ (by omega) (by omega)
  have m9 : ¬ (m : Int) + 8 ≤ 0 := by omega
  have m10 : (0 : Int) < (m : Int) + 8 := by omega
  by_cases hid : ki = (nth B 0 : Int)
  · have hid' : (ki != (nth B 0 : Int)) = false := by rw [hid]; simp
    have HID : Hid (ki = (nth B 0 : Int)) := hid
    clear hid
    refine wp_regionL (fun wz => w3.grownBy wz none) [] #[false, false, false, false, false, false, false] rfl (by kernel_rfl) ?_
    refine wpAnyZ_take [] 0 (.pointer (some ⟨w.heap.size, 0, none⟩)) rfl (by kernel_rfl) (fun c a w h => hP c _ _ w (by rfl) h) SE rfl (by intro wz hz; obtain ⟨v0, v1, v2, v3⟩ := BxS.cell4 (b10.keep hz (by simp)); have zb : wz.cell? ⟨bb, ob, none⟩ = some (.int .u8 (nth B 0 : Int)) := hb00 wz (grown_trans G3 hz); go_simp) ?_
    try simp only [List.getElem_toArray, List.getElem_cons_succ, List.getElem_cons_zero, Act.put, List.setIfInBounds_toArray, List.set_cons_zero, List.set_cons_succ]
    refine wpAnyZ_take [] 1 (.int .i64 ki) rfl (by kernel_rfl) (fun c a w h => hP c _ _ w (by rfl) h) SE rfl (by intro wz hz; obtain ⟨v0, v1, v2, v3⟩ := BxS.cell4 (b10.keep hz (by simp)); have zb : wz.cell? ⟨bb, ob, none⟩ = some (.int .u8 (nth B 0 : Int)) := hb00 wz (grown_trans G3 hz); go_simp) ?_
    try simp only [List.getElem_toArray, List.getElem_cons_succ, List.getElem_cons_zero, Act.put, List.setIfInBounds_toArray, List.set_cons_zero, List.set_cons_succ]
    refine wpAnyZ_take [] 2 (.slice (some ⟨bb, ob, none⟩) (m + 8) cb) rfl (by kernel_rfl) (fun c a w h => hP c _ _ w (by rfl) h) SE rfl (by intro wz hz; obtain ⟨v0, v1, v2, v3⟩ := BxS.cell4 (b10.keep hz (by simp)); have zb : wz.cell? ⟨bb, ob, none⟩ = some (.int .u8 (nth B 0 : Int)) := hb00 wz (grown_trans G3 hz); go_simp) ?_
    try simp only [List.getElem_toArray, List.getElem_cons_succ, List.getElem_cons_zero, Act.put, List.setIfInBounds_toArray, List.set_cons_zero, List.set_cons_succ]
    refine wpAnyZ_take [] 3 (.pointer (some ⟨bb, ob, none⟩)) rfl (by kernel_rfl) (fun c a w h => hP c _ _ w (by rfl) h) SE rfl (by intro wz hz; obtain ⟨v0, v1, v2, v3⟩ := BxS.cell4 (b10.keep hz (by simp)); have zb : wz.cell? ⟨bb, ob, none⟩ = some (.int .u8 (nth B 0 : Int)) := hb00 wz (grown_trans G3 hz); go_simp) ?_
    try simp only [List.getElem_toArray, List.getElem_cons_succ, List.getElem_cons_zero, Act.put, List.setIfInBounds_toArray, List.set_cons_zero, List.set_cons_succ]
    refine wpAnyZ_take [] 4 (.int .u8 (nth B 0 : Int)) rfl (by kernel_rfl) (fun c a w h => hP c _ _ w (by rfl) h) SE rfl (by intro wz hz; obtain ⟨v0, v1, v2, v3⟩ := BxS.cell4 (b10.keep hz (by simp)); have zb : wz.cell? ⟨bb, ob, none⟩ = some (.int .u8 (nth B 0 : Int)) := hb00 wz (grown_trans G3 hz); go_simp) ?_
    try simp only [List.getElem_toArray, List.getElem_cons_succ, List.getElem_cons_zero, Act.put, List.setIfInBounds_toArray, List.set_cons_zero, List.set_cons_succ]
    refine wpAnyZ_take [] 5 (.int .i64 (nth B 0 : Int)) rfl (by kernel_rfl) (fun c a w h => hP c _ _ w (by rfl) h) SE rfl (by intro wz hz; obtain ⟨v0, v1, v2, v3⟩ := BxS.cell4 (b10.keep hz (by simp)); have zb : wz.cell? ⟨bb, ob, none⟩ = some (.int .u8 (nth B 0 : Int)) := hb00 wz (grown_trans G3 hz); go_simp) ?_
    try simp only [List.getElem_toArray, List.getElem_cons_succ, List.getElem_cons_zero, Act.put, List.setIfInBounds_toArray, List.set_cons_zero, List.set_cons_succ]
    refine wpAnyZ_take [] 6 (.bool false) rfl (by kernel_rfl) (fun c a w h => hP c _ _ w (by rfl) h) SE rfl (by intro wz hz; obtain ⟨v0, v1, v2, v3⟩ := BxS.cell4 (b10.keep hz (by simp)); have zb : wz.cell? ⟨bb, ob, none⟩ = some (.int .u8 (nth B 0 : Int)) := hb00 wz (grown_trans G3 hz); go_simp) ?_
    try simp only [List.getElem_toArray, List.getElem_cons_succ, List.getElem_cons_zero, Act.put, List.setIfInBounds_toArray, List.set_cons_zero, List.set_cons_succ]
    refine wpAnyZ_doneB (by kernel_rfl) ?_ _
    refine HK4.out _ _ ?_
    clear HK4
    go_wp2
    refine HK3.out _ _ ?_
    clear HK3
    obtain ⟨cN, hcN⟩ : ∃ cN : Nat, nuN ((B.drop 1).take 6) 6 = cN := ⟨_, rfl⟩
    have hcl : cN < 281474976710656 := by rw [← hcN]; exact nuN_lt (fun x hx => hb0.byte x (List.mem_of_mem_drop (List.mem_of_mem_take hx))) 6
    have hid := HID.out
    have hkd := HKD.out
    have hfi : fiN R (nth B 0 : Int) = j := fiN_atU R _ j hno (by omega) (by rw [hkd]; exact hid)
    have hK : onK R B = ⟨ki, kW, kt, (s : Int)⟩ := by unfold onK; rw [hfi]; exact hkd
    have hW : onW R B = (fun x => (nthI kW x).toNat) := by funext x; unfold onW; rw [hK]
    have hC : onC B = cN := hcN
    have hT : onT R B = decide (B.drop m = tagL (fun x => (nthI kW x).toNat) cN (B.take m)) := by unfold onT; rw [hW, hC, hlB, Nat.add_sub_cancel]
    have hdr : drO R (nth B 0 : Int) = true := by unfold drO; rw [hfi]; exact decide_eq_true (by omega)
    have hkw : kwB (B.length : Int) 15 1015 = true := kwB_t (by omega)
    have hE0 : onE R B = (if onT R B = true then (if oldB kt s cN = true then 13 else 0) else 14) := by
      unfold onE
      rw [if_pos hrm, if_pos hkw, if_pos hdr, hK, hC]
      rfl
    have hsn : ((s : Int)).toNat = s := rfl
    refine un_t12 _ w0 _ g2 g4 w.heap.size lo gr n c2 j m cb bb ob cN s kc ks R V B Y I E ka ki kt kW (fun a wz h => hret a wz h) (fun c a a' wz e h => hP c a a' wz e h) (grown_trans G3 SE) hb0 hm (b23.keep SE (by simp)) (b43.keep SE (by simp)) (hO3.keep SE) hi hhi ⟨h24.1, h24.2.1, h24.2.2, hlo⟩ hWW hs2 hkt hcl (b10.keep SE (by simp)) hs0 ?_ ?_ ?_ hcN
    · intro hne
      have e14 : onE R B = 14 := by rw [hE0, hT, decide_eq_false hne]; rfl
      obtain ⟨q1, q2, q3, q4⟩ := on_bad e14 (by decide) hrm
      exact ⟨by rw [hV, q1.out], by rw [hY, q3.out], by rw [hI, q4.out], by rw [hE, e14]⟩
    · intro heq hold
      have e13 : onE R B = 13 := by rw [hE0, hT, decide_eq_true heq, hold]; rfl
      obtain ⟨q1, q2, q3, q4⟩ := on_bad e13 (by decide) hrm
      exact ⟨by rw [hV, q1.out], by rw [hY, q3.out], by rw [hI, q4.out], by rw [hE, e13]⟩
    · intro heq hold
      have e0 : onE R B = 0 := by rw [hE0, hT, decide_eq_true heq, hold]; rfl
      refine ⟨?_, ?_, ?_, by rw [hE, e0]⟩
      · rw [hV]
        unfold onV onX
        rw [if_pos hrm, if_pos e0, hfi, hK, hC]
        rfl
      · rw [hY]
        unfold onY
        rw [if_pos e0, hW, hC, hlB, Nat.add_sub_cancel]
      · rw [hI]
        unfold onI
        rw [if_pos e0, hid]
  · have hid' : (ki != (nth B 0 : Int)) = true := by simp; exact hid
    have HID : Hid (¬ ki = (nth B 0 : Int)) := hid
    clear hid
    have hwj : IntKind.i64.wrap ((j : Int) + 1) = (j : Int) + 1 := wrap_i64_in _ (by have := hO.o.max.2; unfold maxLen at this; omega) (by have := hO.o.max; unfold maxLen at this; omega)
    refine wp_regionL (fun wz => w3.grownBy wz none) [] #[false, false, false, false, false, false, false] rfl (by kernel_rfl) ?_
    refine wpAnyZ_take [] 0 (.pointer (some ⟨w.heap.size, 0, none⟩)) rfl (by kernel_rfl) (fun c a w h => hP c _ _ w (by rfl) h) SE rfl (by intro wz hz; obtain ⟨v0, v1, v2, v3⟩ := BxS.cell4 (b10.keep hz (by simp)); have zb : wz.cell? ⟨bb, ob, none⟩ = some (.int .u8 (nth B 0 : Int)) := hb00 wz (grown_trans G3 hz); go_simp) ?_
    try simp only [List.getElem_toArray, List.getElem_cons_succ, List.getElem_cons_zero, Act.put, List.setIfInBounds_toArray, List.set_cons_zero, List.set_cons_succ]
    refine wpAnyZ_take [] 1 (.int .i64 ki) rfl (by kernel_rfl) (fun c a w h => hP c _ _ w (by rfl) h) SE rfl (by intro wz hz; obtain ⟨v0, v1, v2, v3⟩ := BxS.cell4 (b10.keep hz (by simp)); have zb : wz.cell? ⟨bb, ob, none⟩ = some (.int .u8 (nth B 0 : Int)) := hb00 wz (grown_trans G3 hz); go_simp) ?_
    try simp only [List.getElem_toArray, List.getElem_cons_succ, List.getElem_cons_zero, Act.put, List.setIfInBounds_toArray, List.set_cons_zero, List.set_cons_succ]
    refine wpAnyZ_take [] 2 (.slice (some ⟨bb, ob, none⟩) (m + 8) cb) rfl (by kernel_rfl) (fun c a w h => hP c _ _ w (by rfl) h) SE rfl (by intro wz hz; obtain ⟨v0, v1, v2, v3⟩ := BxS.cell4 (b10.keep hz (by simp)); have zb : wz.cell? ⟨bb, ob, none⟩ = some (.int .u8 (nth B 0 : Int)) := hb00 wz (grown_trans G3 hz); go_simp) ?_
    try simp only [List.getElem_toArray, List.getElem_cons_succ, List.getElem_cons_zero, Act.put, List.setIfInBounds_toArray, List.set_cons_zero, List.set_cons_succ]
    refine wpAnyZ_take [] 3 (.pointer (some ⟨bb, ob, none⟩)) rfl (by kernel_rfl) (fun c a w h => hP c _ _ w (by rfl) h) SE rfl (by intro wz hz; obtain ⟨v0, v1, v2, v3⟩ := BxS.cell4 (b10.keep hz (by simp)); have zb : wz.cell? ⟨bb, ob, none⟩ = some (.int .u8 (nth B 0 : Int)) := hb00 wz (grown_trans G3 hz); go_simp) ?_
    try simp only [List.getElem_toArray, List.getElem_cons_succ, List.getElem_cons_zero, Act.put, List.setIfInBounds_toArray, List.set_cons_zero, List.set_cons_succ]
    refine wpAnyZ_take [] 4 (.int .u8 (nth B 0 : Int)) rfl (by kernel_rfl) (fun c a w h => hP c _ _ w (by rfl) h) SE rfl (by intro wz hz; obtain ⟨v0, v1, v2, v3⟩ := BxS.cell4 (b10.keep hz (by simp)); have zb : wz.cell? ⟨bb, ob, none⟩ = some (.int .u8 (nth B 0 : Int)) := hb00 wz (grown_trans G3 hz); go_simp) ?_
    try simp only [List.getElem_toArray, List.getElem_cons_succ, List.getElem_cons_zero, Act.put, List.setIfInBounds_toArray, List.set_cons_zero, List.set_cons_succ]
    refine wpAnyZ_take [] 5 (.int .i64 (nth B 0 : Int)) rfl (by kernel_rfl) (fun c a w h => hP c _ _ w (by rfl) h) SE rfl (by intro wz hz; obtain ⟨v0, v1, v2, v3⟩ := BxS.cell4 (b10.keep hz (by simp)); have zb : wz.cell? ⟨bb, ob, none⟩ = some (.int .u8 (nth B 0 : Int)) := hb00 wz (grown_trans G3 hz); go_simp) ?_
    try simp only [List.getElem_toArray, List.getElem_cons_succ, List.getElem_cons_zero, Act.put, List.setIfInBounds_toArray, List.set_cons_zero, List.set_cons_succ]
    refine wpAnyZ_take [] 6 (.bool true) rfl (by kernel_rfl) (fun c a w h => hP c _ _ w (by rfl) h) SE rfl (by intro wz hz; obtain ⟨v0, v1, v2, v3⟩ := BxS.cell4 (b10.keep hz (by simp)); have zb : wz.cell? ⟨bb, ob, none⟩ = some (.int .u8 (nth B 0 : Int)) := hb00 wz (grown_trans G3 hz); go_simp) ?_
    try simp only [List.getElem_toArray, List.getElem_cons_succ, List.getElem_cons_zero, Act.put, List.setIfInBounds_toArray, List.set_cons_zero, List.set_cons_succ]
    refine wpAnyZ_doneB (by kernel_rfl) ?_ _
    refine HK4.out _ _ ?_
    clear HK4
    go_wp2
    refine HK1.out _ _ ?_
    clear HK1
    go_wp2
    exact HQ.out _ _ _ _ _ _ _ _ _ _ _ _ _ _ _ _ ⟨b23.keep SE (by simp), b43.keep SE (by simp), hO3.keep SE, grown_trans G3 SE⟩ (by rw [HKD.out]; exact HID.out)

set_option maxHeartbeats 32000000 in
/-- the document's UnsealOf -/
theorem runseal_any (a : Option Addr) (n c : Nat) (R : List Kd) (b : Option Addr) (nb cb : Nat) (B : List Nat) (w : World) (h : RdG w a n c R) (hb : Rd w b nb cb B) :
    Calls Tryd.prog 6 #[.agg #[.slice a n c], .slice b nb cb] w fun e w' => ∃ (a' : Option Addr) (n' c' : Nat) (ya : Option Addr) (yn yc : Nat), e = .returned (.tuple #[.agg #[.slice a' n' c'], .slice ya yn yc, .int .i64 (onI R B : Int), .int .i64 (onE R B : Int)]) ∧ RdG w' a' n' c' (onV R B) ∧ Rd w' ya yn yc (onY R B) ∧ (∀ g off, ya = some ⟨g, off, none⟩ → g < w'.heap.size) ∧ w.grownBy w' none := by
  have hlR := h.len
  have hlB := hb.len
  have b0 := BxS.new w 24 #[.slice a n c]
  have g0 := World.grownBy_alloc w (.cells #[.slice a n c] 24) none
  generalize hw0 : w.alloc (.cells #[.slice a n c] 24) = w0 at b0 g0
  have hz0 : w0.heap.size = w.heap.size + 1 := by rw [← hw0]; simp
  have b1 := BxS.new w0 24 #[.slice none 0 0]
  have g1 := World.grownBy_alloc w0 (.cells #[.slice none 0 0] 24) none
  generalize hw1 : w0.alloc (.cells #[.slice none 0 0] 24) = w1 at b1 g1
  rw [hz0] at b1
  have sz1 : w.heap.size + 2 ≤ w1.heap.size := by rw [← hw1]; simp [hz0]
  have p0 := b0.keep g1 (by simp)
  have G1 := grown_trans g0 g1
  have i1 := Tryd.info_rg1
  have x0 : w1.cell? ⟨w.heap.size, 0, none⟩ = some (.slice a n c) := p0.cell 0 (by show 0 < 1; decide)
  have kM := rringMay_any a n c R w1 (h.keep G1)
  have s0 : True := trivial
  cases hB : rmB R with
  | false =>
    have e1 : onE R B = 11 := by unfold onE; rw [hB]; rfl
    have HE : Hid (onE R B = 11) := e1
    have HV : Hid (onV R B = []) := by show _ = _; unfold onV; rw [hB]; rfl
    have HY : Hid (onY R B = []) := by show _ = _; unfold onY; rw [e1]; rfl
    have HI : Hid (onI R B = 0) := by show _ = _; unfold onI; rw [e1]; rfl
    rw [hB] at kM
    clear e1
    go_enter Tryd.func6, Tryd.ntmps6
    go_wp2_with (first
      | (go_at_call 16; have _t := s0; clear s0; refine kM.mono ?_; rintro e w2 ⟨rfl, y2⟩; have q0 := p0.keep y2 (by simp); have q1 := b1.keep y2 (by simp); have z2 := y2.size; clear x0; have x0 : w2.cell? ⟨w.heap.size, 0, none⟩ = some (.slice a n c) := q0.cell 0 (by show 0 < 1; decide); have s1 : True := trivial)
      | (have _t := s1; clear s1; refine wpList_stX _ rfl _ (.tmp 4) (.tmp 22) rfl (w.heap.size + 1) _ _ rfl rfl q1 i1 rfl (by simp [Value.oneCell']) ?_; intro w9 b9 u9; skip))
    refine bodyPost_ret (results_cell4 rfl _ _ _ ⟨w.heap.size + 1, 0, none⟩ _ (.slice none 0 0) (.int .i64 0) (.int .i64 11) rfl (BxS.load (t := 24) b9 Tryd.underlying24 i1) rfl rfl rfl) rfl ?_
    rw [HV.out, HE.out, HY.out, HI.out]
    exact ⟨none, 0, 0, none, 0, 0, rfl, RdG.nil _, (ansN _ 0).rd, (fun g off e => by cases e), grown_far (grown_trans G1 y2) u9 (fun q e => by have e := Option.some.inj e; omega)⟩
  | true =>
    obtain ⟨hl8, hw8⟩ := rm_ok hB
    rw [hB] at kM
    have kC := fun wz hz => ringOf_any a n c R wz hz (fun k hk => by rw [hw8 k hk]; decide) (by omega)
    by_cases hk15 : 15 ≤ nb ∧ nb ≤ 1015
    · obtain ⟨m, rfl⟩ : ∃ m, nb = m + 8 := ⟨nb - 8, by omega⟩
      obtain ⟨bb, ob, rfl, _, _⟩ := hb.at' (by omega)
      have c1 : ¬ (m : Int) + 8 < 15 := by omega
      have c2 : ¬ (1015 : Int) < (m : Int) + 8 := by omega
      go_enter Tryd.func6, Tryd.ntmps6
      refine wp_seq_k fun K0 hK0 => ?_
      have HK0 : Hid _ := hK0
      clear hK0
      go_wp2
      refine HK0.out _ _ ?_
      clear HK0
      refine wp_seq_k fun K1 hK1 => ?_
      have HK1 : Hid _ := hK1
      clear hK1
      go_wp2_with (go_at_call 16; have _t := s0; clear s0; refine kM.mono ?_; rintro e w2 ⟨rfl, y2⟩; have q0 := p0.keep y2 (by simp); have q1 := b1.keep y2 (by simp); have z2 := y2.size; clear x0; have x0 : w2.cell? ⟨w.heap.size, 0, none⟩ = some (.slice a n c) := q0.cell 0 (by show 0 < 1; decide); have s1 : True := trivial)
      refine HK1.out _ _ ?_
      clear HK1
      refine wp_seq_k fun K2 hK2 => ?_
      have HK2 : Hid _ := hK2
      clear hK2
      go_wp2_with (first
        | (go_at_call 17; have _t := s1; clear s1; refine (kC _ (h.keep (grown_trans G1 y2))).mono ?_; rintro e w3 ⟨a3, c3, ks3, rfl, hO3, y3⟩; have q0 := q0.keep y3 (by simp); have q1 := q1.keep y3 (by simp); have z3 := y3.size; clear x0; have s2 : True := trivial)
        | (have _t := s2; clear s2; refine wpList_stX _ rfl _ (.tmp 2) (.tmp 24) rfl w.heap.size _ _ rfl rfl q0 i1 rfl (by simp [Value.oneCell']) ?_; intro w4 q0 u4; have x0 : w4.cell? ⟨w.heap.size, 0, none⟩ = some (.slice a3 n c3) := q0.cell 0 (by show 0 < 1; decide); have hO4 := hO3.far u4 (by omega); have q1 := q1.keep u4 (fun e => by have e := Option.some.inj e; omega); have G4 := grown_far (grown_trans (grown_trans G1 y2) y3) u4 (fun q e => by have e := Option.some.inj e; omega); have z4 := u4.size; have s3 : True := trivial))
      refine HK2.out _ _ ?_
      clear HK2
      refine wp_seq_k fun K3 hK3 => ?_
      have HK3 : Hid _ := hK3
      clear hK3
      go_wp2
      refine HK3.out _ _ ?_
      clear HK3
      refine wp_seq_k fun K4 hK4 => ?_
      have HK4 : Hid _ := hK4
      clear hK4
      go_wp2
      refine HK4.out _ _ ?_
      clear HK4
      refine wp_seq_k fun K5 hK5 => ?_
      have HK5 : Hid _ := hK5
      clear hK5
      clear x0 s3
      go_wp2
      go_loopw [9] (fun iv wr => ∃ k : Nat, iv = .int .i64 k ∧ k ≤ n ∧ (∀ i, i < k → (R.getD i kd0).id ≠ (nth B 0 : Int)) ∧ BxS wr w.heap.size 24 #[.slice a3 n c3] ∧ BxS wr (w.heap.size + 1) 24 #[.slice none 0 0] ∧ OwG wr w2.heap.size a3 n c3 ks3 R ∧ w.grownBy wr none) (fun iv _ => n - (intOf iv).toNat)
      case atStart => exact ⟨0, by go_num, Nat.zero_le _, (fun i hi => absurd hi (by omega)), q0, q1, hO4, G4⟩
      case round =>
        obtain ⟨k, rfl, hk, hno, r0, r1, hOr, Gr⟩ := hrel
        have x0 : wr.cell? ⟨w.heap.size, 0, none⟩ = some (.slice a3 n c3) := r0.cell 0 (by show 0 < 1; decide)
        by_cases hlt : k < n
        · have hlt' : (k : Int) < (n : Int) := by omega
          obtain ⟨gr, rfl⟩ := hOr.o.someK (by omega)
          have hgr := hOr.o.hi (x := gr) (.inl rfl)
          refine wp_seq_k fun K9 hK9 => ?_
          have HK9 : Hid _ := hK9
          clear hK9
          go_wp2
          refine HK9.out _ _ ?_
          clear HK9
          refine un_t10 _ w wr w.heap.size (w.heap.size + 1) w2.heap.size gr n c3 k m cb bb ob ks3 R _ B _ _ _ (fun a wz h => h) (fun c a a' wz e h => by cases a; cases a'; cases e; exact h) Gr hb (by omega) r0 r1 hOr ⟨Nat.le_refl _, by omega, by omega⟩ (by omega) hlt hB hno rfl rfl rfl rfl ?_
          intro z10 z39 z40 z41 z42 z43 z44 z45 z46 z47 z48 z49 z50 z51 z52 w' hst hne
          obtain ⟨s0', s1', sO', sG'⟩ := hst
          simp only [Exit.then]
          refine ⟨?_, ?_⟩
          · repeat apply Exists.intro
            refine ⟨?_, rfl⟩
            exact ⟨k + 1, by go_num, by omega, (fun i hi => by rcases Nat.lt_or_ge i k with h1 | h1; exact hno i h1; rw [show i = k by omega]; exact hne), s0', s1', sO', sG'⟩
          · simp [intOf]; omega
        · have hlt' : ¬ (k : Int) < (n : Int) := by omega
          have hdr : drO R (nth B 0 : Int) = false := by
            unfold drO
            rw [fiN_none R _ (fun i hi => hno i (by omega))]
            exact decide_eq_false (by omega)
          obtain ⟨HV, HE, HY, HI⟩ := on_bad (R := R) (B := B) (e := 14) (by unfold onE; rw [if_pos hB, if_pos (kwB_t (by omega)), hdr]; rfl) (by decide) hB
          go_wp2
          refine HK5.out _ _ ?_
          clear HK5
          have s0 : True := trivial
          go_wp2_with (have _t := s0; clear s0; refine wpList_stX _ rfl _ (.tmp 4) (.tmp 177) rfl (w.heap.size + 1) _ _ rfl rfl r1 i1 rfl (by simp [Value.oneCell']) ?_; intro w9 b9 u9; skip)
          refine bodyPost_ret (results_cell4 rfl _ _ _ ⟨w.heap.size + 1, 0, none⟩ _ (.slice none 0 0) (.int .i64 0) (.int .i64 14) rfl (BxS.load (t := 24) b9 Tryd.underlying24 i1) rfl rfl rfl) rfl ?_
          rw [HV.out, HE.out, HY.out, HI.out]
          exact ⟨_, _, _, none, 0, 0, rfl, (hOr.far u9 (by omega)).rd, (ansN _ 0).rd, (fun g off e => by cases e), grown_far Gr u9 (fun q e => by have e := Option.some.inj e; omega)⟩
    · obtain ⟨HV, HE, HY, HI⟩ := on_bad (R := R) (B := B) (e := 1) (by unfold onE; rw [if_pos hB, if_neg (by rw [hlB, kwB_f (by omega)]; simp)]) (by decide) hB
      have hnb : (nb : Int) < 15 ∨ (¬ (nb : Int) < 15 ∧ (1015 : Int) < (nb : Int)) := by omega
      rcases hnb with hn1 | ⟨hn1, hn2⟩
      · go_enter Tryd.func6, Tryd.ntmps6
        go_wp2_with (first
          | (go_at_call 16; have _t := s0; clear s0; refine kM.mono ?_; rintro e w2 ⟨rfl, y2⟩; have q0 := p0.keep y2 (by simp); have q1 := b1.keep y2 (by simp); have z2 := y2.size; clear x0; have x0 : w2.cell? ⟨w.heap.size, 0, none⟩ = some (.slice a n c) := q0.cell 0 (by show 0 < 1; decide); have s1 : True := trivial)
          | (go_at_call 17; have _t := s1; clear s1; refine (kC _ (h.keep (grown_trans G1 y2))).mono ?_; rintro e w3 ⟨a3, c3, ks3, rfl, hO3, y3⟩; have q0 := q0.keep y3 (by simp); have q1 := q1.keep y3 (by simp); have z3 := y3.size; clear x0; have s2 : True := trivial)
          | (have _t := s2; clear s2; refine wpList_stX _ rfl _ (.tmp 2) (.tmp 24) rfl w.heap.size _ _ rfl rfl q0 i1 rfl (by simp [Value.oneCell']) ?_; intro w4 q0 u4; have x0 : w4.cell? ⟨w.heap.size, 0, none⟩ = some (.slice a3 n c3) := q0.cell 0 (by show 0 < 1; decide); have hO4 := hO3.far u4 (by omega); have q1 := q1.keep u4 (fun e => by have e := Option.some.inj e; omega); have G4 := grown_far (grown_trans (grown_trans G1 y2) y3) u4 (fun q e => by have e := Option.some.inj e; omega); have z4 := u4.size; have s3 : True := trivial)
          | (have _t := s3; clear s3; refine wpList_stX _ rfl _ (.tmp 4) (.tmp 33) rfl (w.heap.size + 1) _ _ rfl rfl q1 i1 rfl (by simp [Value.oneCell']) ?_; intro w9 b9 u9; skip))
        refine bodyPost_ret (results_cell4 rfl _ _ _ ⟨w.heap.size + 1, 0, none⟩ _ (.slice none 0 0) (.int .i64 0) (.int .i64 1) rfl (BxS.load (t := 24) b9 Tryd.underlying24 i1) rfl rfl rfl) rfl ?_
        rw [HV.out, HE.out, HY.out, HI.out]
        exact ⟨_, _, _, none, 0, 0, rfl, (hO4.far u9 (by omega)).rd, (ansN _ 0).rd, (fun g off e => by cases e), grown_far G4 u9 (fun q e => by have e := Option.some.inj e; omega)⟩
      · go_enter Tryd.func6, Tryd.ntmps6
        go_wp2_with (first
          | (go_at_call 16; have _t := s0; clear s0; refine kM.mono ?_; rintro e w2 ⟨rfl, y2⟩; have q0 := p0.keep y2 (by simp); have q1 := b1.keep y2 (by simp); have z2 := y2.size; clear x0; have x0 : w2.cell? ⟨w.heap.size, 0, none⟩ = some (.slice a n c) := q0.cell 0 (by show 0 < 1; decide); have s1 : True := trivial)
          | (go_at_call 17; have _t := s1; clear s1; refine (kC _ (h.keep (grown_trans G1 y2))).mono ?_; rintro e w3 ⟨a3, c3, ks3, rfl, hO3, y3⟩; have q0 := q0.keep y3 (by simp); have q1 := q1.keep y3 (by simp); have z3 := y3.size; clear x0; have s2 : True := trivial)
          | (have _t := s2; clear s2; refine wpList_stX _ rfl _ (.tmp 2) (.tmp 24) rfl w.heap.size _ _ rfl rfl q0 i1 rfl (by simp [Value.oneCell']) ?_; intro w4 q0 u4; have x0 : w4.cell? ⟨w.heap.size, 0, none⟩ = some (.slice a3 n c3) := q0.cell 0 (by show 0 < 1; decide); have hO4 := hO3.far u4 (by omega); have q1 := q1.keep u4 (fun e => by have e := Option.some.inj e; omega); have G4 := grown_far (grown_trans (grown_trans G1 y2) y3) u4 (fun q e => by have e := Option.some.inj e; omega); have z4 := u4.size; have s3 : True := trivial)
          | (have _t := s3; clear s3; refine wpList_stX _ rfl _ (.tmp 4) (.tmp 33) rfl (w.heap.size + 1) _ _ rfl rfl q1 i1 rfl (by simp [Value.oneCell']) ?_; intro w9 b9 u9; skip))
        refine bodyPost_ret (results_cell4 rfl _ _ _ ⟨w.heap.size + 1, 0, none⟩ _ (.slice none 0 0) (.int .i64 0) (.int .i64 1) rfl (BxS.load (t := 24) b9 Tryd.underlying24 i1) rfl rfl rfl) rfl ?_
        rw [HV.out, HE.out, HY.out, HI.out]
        exact ⟨_, _, _, none, 0, 0, rfl, (hO4.far u9 (by omega)).rd, (ansN _ 0).rd, (fun g off e => by cases e), grown_far G4 u9 (fun q e => by have e := Option.some.inj e; omega)⟩

theorem OwG.nobox {w : World} {lo g : Nat} {a : Option Addr} {n c : Nat} {ks : List Kw} {R : List Kd} {cs : Array Value} (h : OwG w lo a n c ks R) (b : BxS w g 24 cs) : ¬ Okb (.slice a n c) ks g := by
  rintro (e | ⟨k, hk, e⟩)
  · exact h.o.box b (by decide) e
  · exact (h.o.each k hk).box b (by decide) e
theorem Ans.bx {w : World} {lo g n c : Nat} {a : Option Addr} {L : List Nat} (h : Ans w lo a n c L) (e : (Value.slice a n c).ownBlock = some g) : ∃ cs, BxS w g 5 cs := by
  rcases h.own.2 with ⟨h1, _⟩ | ⟨g', cap', cur, h1, _, h3, _⟩
  · rw [h1] at e; simp [Value.ownBlock] at e
  · rw [h1] at e
    have e : some g' = some g := e
    cases e
    exact ⟨_, h3⟩
theorem Ans.at0 {w : World} {lo n c g off : Nat} {a : Option Addr} {L : List Nat} (h : Ans w lo a n c L) (e : a = some ⟨g, off, none⟩) : (Value.slice a n c).ownBlock = some g := by
  rcases h.own.2 with ⟨h1, _⟩ | ⟨g', cap', cur, h1, _, h3, _⟩
  · simp only [Value.slice.injEq] at h1
    rw [h1.1] at e; cases e
  · simp only [Value.slice.injEq] at h1
    rw [h1.1] at e
    cases e
    rw [h1.1]
    rfl
theorem Ans.noR {w : World} {lo n c g : Nat} {a : Option Addr} {L : List Nat} {cs : Array Value} (h : Ans w lo a n c L) (b : BxS w g 24 cs) : some g ≠ (Value.slice a n c).ownBlock := fun e => by
  obtain ⟨ds, hd⟩ := h.bx e.symm
  unfold BxS at hd b
  rw [hd] at b
  have b := Option.some.inj b
  injection b with b1 b2 b3
  exact absurd b2 (by decide)
theorem OwG.off {w w' : World} {lo lo' : Nat} {a ya : Option Addr} {n c yn yc : Nat} {ks : List Kw} {R : List Kd} {Y : List Nat} (h : OwG w lo a n c ks R) (hX : Ans w lo' ya yn yc Y) (g : w.grownBy w' (Value.slice ya yn yc).ownBlock) : OwG w' lo a n c ks R := by
  refine h.fz ((Fz.refl (fun x => (Value.slice ya yn yc).ownBlock = some x) w).step g (fun k e _ => e)) (fun x hx e => ?_)
  obtain ⟨cs, hb⟩ := hX.bx e
  rcases hx with e2 | ⟨k, hk, e2⟩
  · exact h.o.box hb (by decide) e2
  · exact (h.o.each k hk).box hb (by decide) e2

set_option maxHeartbeats 64000000 in
theorem ringAs_open (gc : Nat) (Y : List Nat) (Jd : Nat) (ba : Option Addr) (bm bc : Nat) (R V : List Kd) (Er : Nat) (a b : Option Addr) (n c m d : Nat) (w : World) (I : World → Prop) (hI : ∀ x y, I x → x.grownBy y none → I y) (hI0 : I w)
    (hC : ∀ (wz : World) (za : Option Addr) (zc : Nat), I wz → RdG wz za n zc R → Calls Tryd.prog 8 #[.agg #[.slice za n zc], .pointer (some ⟨gc, 0, none⟩)] wz fun e w' => ∃ (a' : Option Addr) (n' c' : Nat) (ks' : List Kw) (ya : Option Addr) (yn yc : Nat), e = .returned (.tuple #[.agg #[.slice a' n' c'], .slice ya yn yc, .int .i64 (Jd : Int), .int .i64 (Er : Int)]) ∧ OwG w' wz.heap.size a' n' c' ks' V ∧ Ans w' wz.heap.size ya yn yc Y ∧ wz.grownBy w' none) (hY : Rd w ba bm bc Y) (hYb : ∀ g off, ba = some ⟨g, off, none⟩ → g < w.heap.size) (hYl : Y.length ≤ 1015)
    (hr : RdG w a n c R) (hw : RdG w b m d V) (fR1 : ∀ k, k ∈ R → k.W.length ≤ 17592186043904) (fR2 : n * 48 ≤ 140737488351232) (fV1 : ∀ k, k ∈ V → k.W.length ≤ 17592186043904) (fV2 : m * 48 ≤ 140737488351232) :
    Calls Tryd.prog 10 #[.func (.func 8) #[] #[.pointer (some ⟨gc, 0, none⟩)], .agg #[.slice a n c], .agg #[.slice b m d], .slice ba bm bc, .int .i64 (Jd : Int), .int .i64 (Er : Int)] w fun e w' => e = .returned (.bool true) ∧ w.grownBy w' none := by
  have b7 := BxS.new w 24 #[.slice a n c]
  have g0 := World.grownBy_alloc w (.cells #[.slice a n c] 24) none
  generalize hw0 : w.alloc (.cells #[.slice a n c] 24) = w0 at b7 g0
  have hz0 : w0.heap.size = w.heap.size + 1 := by rw [← hw0]; simp
  have b8 := BxS.new w0 24 #[.slice b m d]
  have g1 := World.grownBy_alloc w0 (.cells #[.slice b m d] 24) none
  generalize hw1 : w0.alloc (.cells #[.slice b m d] 24) = w1 at b8 g1
  rw [hz0] at b8
  have sz1 : w.heap.size + 2 ≤ w1.heap.size := by rw [← hw1]; simp [hz0]
  have b7 := b7.keep g1 (by simp)
  have G1 := grown_trans g0 g1
  have i1 := Tryd.info_rg1
  have lV := hw.len
  have kR := fun wz hz => ringOf_any a n c R wz hz (fun k hk => by have := fR1 k hk; omega) (by omega)
  have kW := fun wz hz => ringOf_any b m d V wz hz (fun k hk => by have := fV1 k hk; omega) (by omega)
  have x7 : w1.cell? ⟨w.heap.size, 0, none⟩ = some (.slice a n c) := b7.cell 0 (by show 0 < 1; decide)
  have x8 : w1.cell? ⟨w.heap.size + 1, 0, none⟩ = some (.slice b m d) := b8.cell 0 (by show 0 < 1; decide)
  have hEr : ((Er : Int) != (Er : Int)) = false := by simp
  have hIr : ((Jd : Int) != (Jd : Int)) = false := by simp
  have hYn := hY.len
  have s0 : True := trivial
  go_enter Tryd.func10, Tryd.ntmps10
  go_wp2_with (first
    | (go_at_call 17; have _t := s0; clear s0; refine (kR _ (hr.keep G1)).mono ?_; rintro e w2 ⟨ah, ch, kh, rfl, hH, y2⟩; have z2 := y2.size; have b7 := b7.keep y2 (by simp); have b8 := b8.keep y2 (by simp); clear x7 x8; have bn := BxS.new w2 24 #[.slice none 0 0]; have gn := World.grownBy_alloc w2 (.cells #[.slice none 0 0] 24) none; have s1 : True := trivial)
    | (have _t := s1; clear s1; refine wpList_stX _ rfl _ (.tmp 13) (.tmp 24) rfl w2.heap.size _ _ rfl rfl bn i1 rfl (by simp [Value.oneCell']) ?_; intro w3 b13 u13; have Y13 := grown_far gn u13 (fun q e => by have e := Option.some.inj e; omega); have b7 := b7.keep Y13 (by simp); have b8 := b8.keep Y13 (by simp); have l13 := b13.lt; have hH := hH.keep Y13; have hH3q : ∀ x, Okb (.slice ah n ch) kh x → w1.heap.size ≤ x ∧ x < w3.heap.size := fun x hx => (by have := hH.o.hi hx; omega); have G3 := grown_trans (grown_trans G1 y2) Y13; have z3 := Y13.size; have x7 : w3.cell? ⟨w.heap.size, 0, none⟩ = some (.slice a n c) := b7.cell 0 (by show 0 < 1; decide); have x8 : w3.cell? ⟨(w.heap.size + 1), 0, none⟩ = some (.slice b m d) := b8.cell 0 (by show 0 < 1; decide); have x13 : w3.cell? ⟨w2.heap.size, 0, none⟩ = some (.slice ah n ch) := b13.cell 0 (by show 0 < 1; decide); have s2 : True := trivial)
    | (go_at_call 8; have _t := s2; clear s2; refine (hC _ ah ch (hI _ _ hI0 G3) hH.rd).mono ?_; rintro e w4 ⟨a1, n1, c1, k1, ya, yn, yc, rfl, hA, hX, y4⟩; have z4 := y4.size; have b7 := b7.keep y4 (by simp); have b8 := b8.keep y4 (by simp); have b13 := b13.keep y4 (by simp); clear x7 x8 x13; have hH := hH.keep y4; clear bn gn; have bn := BxS.new w4 24 #[.slice none 0 0]; have gn := World.grownBy_alloc w4 (.cells #[.slice none 0 0] 24) none; have s3 : True := trivial)
    | (have _t := s3; clear s3; refine wpList_stX _ rfl _ (.tmp 14) (.tmp 29) rfl w4.heap.size _ _ rfl rfl bn i1 rfl (by simp [Value.oneCell']) ?_; intro w5 b14 u14; have Y14 := grown_far gn u14 (fun q e => by have e := Option.some.inj e; omega); have b7 := b7.keep Y14 (by simp); have b8 := b8.keep Y14 (by simp); have b13 := b13.keep Y14 (by simp); have l14 := b14.lt; have hH := hH.keep Y14; have hA := hA.keep Y14; have hX := hX.keep Y14; have hA5q : ∀ x, Okb (.slice a1 n1 c1) k1 x → w3.heap.size ≤ x ∧ x < w5.heap.size := fun x hx => (by have := hA.o.hi hx; omega); have hX5 : ∀ g, (Value.slice ya yn yc).ownBlock = some g → g < w5.heap.size := (fun g hg => by obtain ⟨_, hb⟩ := hX.bx hg; exact hb.lt); have G5 := grown_trans (grown_trans G3 y4) Y14; have z5 := Y14.size; have x7 : w5.cell? ⟨w.heap.size, 0, none⟩ = some (.slice a n c) := b7.cell 0 (by show 0 < 1; decide); have x8 : w5.cell? ⟨(w.heap.size + 1), 0, none⟩ = some (.slice b m d) := b8.cell 0 (by show 0 < 1; decide); have x13 : w5.cell? ⟨w2.heap.size, 0, none⟩ = some (.slice ah n ch) := b13.cell 0 (by show 0 < 1; decide); have x14 : w5.cell? ⟨w4.heap.size, 0, none⟩ = some (.slice a1 n1 c1) := b14.cell 0 (by show 0 < 1; decide); have s4 : True := trivial)
    | (go_at_call 8; have _t := s4; clear s4; refine (hC _ ah ch (hI _ _ hI0 G5) hH.rd).mono ?_; rintro e w6 ⟨a2, n2, c2, k2, yb, ym, yd, rfl, hB, hZ, y6⟩; have z6 := y6.size; have b7 := b7.keep y6 (by simp); have b8 := b8.keep y6 (by simp); have b13 := b13.keep y6 (by simp); have b14 := b14.keep y6 (by simp); clear x7 x8 x13 x14; have hH := hH.keep y6; have hA := hA.keep y6; have hX := hX.keep y6; clear bn gn; have bn := BxS.new w6 24 #[.slice none 0 0]; have gn := World.grownBy_alloc w6 (.cells #[.slice none 0 0] 24) none; have s5 : True := trivial)
    | (have _t := s5; clear s5; refine wpList_stX _ rfl _ (.tmp 18) (.tmp 37) rfl w6.heap.size _ _ rfl rfl bn i1 rfl (by simp [Value.oneCell']) ?_; intro w7 b18 u18; have Y18 := grown_far gn u18 (fun q e => by have e := Option.some.inj e; omega); have b7 := b7.keep Y18 (by simp); have b8 := b8.keep Y18 (by simp); have b13 := b13.keep Y18 (by simp); have b14 := b14.keep Y18 (by simp); have l18 := b18.lt; have hH := hH.keep Y18; have hA := hA.keep Y18; have hB := hB.keep Y18; have hX := hX.keep Y18; have hZ := hZ.keep Y18; have G7 := grown_trans (grown_trans G5 y6) Y18; have z7 := Y18.size; have x7 : w7.cell? ⟨w.heap.size, 0, none⟩ = some (.slice a n c) := b7.cell 0 (by show 0 < 1; decide); have x8 : w7.cell? ⟨(w.heap.size + 1), 0, none⟩ = some (.slice b m d) := b8.cell 0 (by show 0 < 1; decide); have x13 : w7.cell? ⟨w2.heap.size, 0, none⟩ = some (.slice ah n ch) := b13.cell 0 (by show 0 < 1; decide); have x14 : w7.cell? ⟨w4.heap.size, 0, none⟩ = some (.slice a1 n1 c1) := b14.cell 0 (by show 0 < 1; decide); have x18 : w7.cell? ⟨w6.heap.size, 0, none⟩ = some (.slice a2 n2 c2) := b18.cell 0 (by show 0 < 1; decide); have s6 : True := trivial)
    | (go_at_call 30; have _t := s6; clear s6; refine (sameRing_any _ _ _ _ _ _ V _ hA.rd (hw.keep G7)).mono ?_; rintro e w8 ⟨rfl, e1⟩; have ze1 := e1.size; have b7 := b7.keep e1 (by simp); have b8 := b8.keep e1 (by simp); have b13 := b13.keep e1 (by simp); have b14 := b14.keep e1 (by simp); have b18 := b18.keep e1 (by simp); clear x7 x8 x13 x14 x18; have hH := hH.keep e1; have hA := hA.keep e1; have hB := hB.keep e1; have hX := hX.keep e1; have hZ := hZ.keep e1; have x7 : w8.cell? ⟨w.heap.size, 0, none⟩ = some (.slice a n c) := b7.cell 0 (by show 0 < 1; decide); have x8 : w8.cell? ⟨(w.heap.size + 1), 0, none⟩ = some (.slice b m d) := b8.cell 0 (by show 0 < 1; decide); have x13 : w8.cell? ⟨w2.heap.size, 0, none⟩ = some (.slice ah n ch) := b13.cell 0 (by show 0 < 1; decide); have x14 : w8.cell? ⟨w4.heap.size, 0, none⟩ = some (.slice a1 n1 c1) := b14.cell 0 (by show 0 < 1; decide); have x18 : w8.cell? ⟨w6.heap.size, 0, none⟩ = some (.slice a2 n2 c2) := b18.cell 0 (by show 0 < 1; decide); have s7 : True := trivial)
    | (go_at_call 30; have _t := s7; clear s7; refine (sameRing_any _ _ _ _ _ _ V _ hB.rd (hw.keep (grown_trans G7 e1))).mono ?_; rintro e w9 ⟨rfl, e2⟩; have ze2 := e2.size; have b7 := b7.keep e2 (by simp); have b8 := b8.keep e2 (by simp); have b13 := b13.keep e2 (by simp); have b14 := b14.keep e2 (by simp); have b18 := b18.keep e2 (by simp); clear x7 x8 x13 x14 x18; have hH := hH.keep e2; have hA := hA.keep e2; have hB := hB.keep e2; have hX := hX.keep e2; have hZ := hZ.keep e2; have x7 : w9.cell? ⟨w.heap.size, 0, none⟩ = some (.slice a n c) := b7.cell 0 (by show 0 < 1; decide); have x8 : w9.cell? ⟨(w.heap.size + 1), 0, none⟩ = some (.slice b m d) := b8.cell 0 (by show 0 < 1; decide); have x13 : w9.cell? ⟨w2.heap.size, 0, none⟩ = some (.slice ah n ch) := b13.cell 0 (by show 0 < 1; decide); have x14 : w9.cell? ⟨w4.heap.size, 0, none⟩ = some (.slice a1 n1 c1) := b14.cell 0 (by show 0 < 1; decide); have x18 : w9.cell? ⟨w6.heap.size, 0, none⟩ = some (.slice a2 n2 c2) := b18.cell 0 (by show 0 < 1; decide); have s8 : True := trivial)
    | (go_at_call 30; have _t := s8; clear s8; refine (sameRing_any _ _ _ _ _ _ R _ hH.rd (hr.keep (grown_trans (grown_trans G7 e1) e2))).mono ?_; rintro e w10 ⟨rfl, e3⟩; have ze3 := e3.size; have b7 := b7.keep e3 (by simp); have b8 := b8.keep e3 (by simp); have b13 := b13.keep e3 (by simp); have b14 := b14.keep e3 (by simp); have b18 := b18.keep e3 (by simp); clear x7 x8 x13 x14 x18; have hH := hH.keep e3; have hA := hA.keep e3; have hB := hB.keep e3; have hX := hX.keep e3; have hZ := hZ.keep e3; have x7 : w10.cell? ⟨w.heap.size, 0, none⟩ = some (.slice a n c) := b7.cell 0 (by show 0 < 1; decide); have x8 : w10.cell? ⟨(w.heap.size + 1), 0, none⟩ = some (.slice b m d) := b8.cell 0 (by show 0 < 1; decide); have x13 : w10.cell? ⟨w2.heap.size, 0, none⟩ = some (.slice ah n ch) := b13.cell 0 (by show 0 < 1; decide); have x14 : w10.cell? ⟨w4.heap.size, 0, none⟩ = some (.slice a1 n1 c1) := b14.cell 0 (by show 0 < 1; decide); have x18 : w10.cell? ⟨w6.heap.size, 0, none⟩ = some (.slice a2 n2 c2) := b18.cell 0 (by show 0 < 1; decide); have s9 : True := trivial)
    | (go_at_call 31; have _t := s9; clear s9; have G10 := grown_trans (grown_trans (grown_trans G7 e1) e2) e3; refine (twice_any ya yb ba yn ym bm yc yd bc _ Y _ hX hZ.rd (hY.keep G10) (by have := hX.len; omega) (fun g off e e2 => by have q1 := hZ.at0 e; have q2 := hZ.new g q1; have q3 := hX5 g e2.symm; omega) (fun g off e e2 => by have q1 := hYb g off e; have q2 := hX.new g e2.symm; have := G3.size; omega)).mono ?_; rintro e w11 ⟨rfl, e4⟩; have ze4 := e4.size; have b7 := b7.keep e4 (hX.noR b7); have b8 := b8.keep e4 (hX.noR b8); have b13 := b13.keep e4 (hX.noR b13); have b14 := b14.keep e4 (hX.noR b14); have b18 := b18.keep e4 (hX.noR b18); clear x7 x8 x13 x14 x18; have hH := hH.off hX e4; have hA := hA.off hX e4; have hB := hB.off hX e4; have G11 := grown_far G10 e4 (fun q e => by have := hX.new q e; have := G3.size; omega); have x7 : w11.cell? ⟨w.heap.size, 0, none⟩ = some (.slice a n c) := b7.cell 0 (by show 0 < 1; decide); have x8 : w11.cell? ⟨(w.heap.size + 1), 0, none⟩ = some (.slice b m d) := b8.cell 0 (by show 0 < 1; decide); have x13 : w11.cell? ⟨w2.heap.size, 0, none⟩ = some (.slice ah n ch) := b13.cell 0 (by show 0 < 1; decide); have x14 : w11.cell? ⟨w4.heap.size, 0, none⟩ = some (.slice a1 n1 c1) := b14.cell 0 (by show 0 < 1; decide); have x18 : w11.cell? ⟨w6.heap.size, 0, none⟩ = some (.slice a2 n2 c2) := b18.cell 0 (by show 0 < 1; decide); have s10 : True := trivial)
    | (go_at_call 17; have _t := s10; clear s10; refine (kW _ (hw.keep G11)).mono ?_; rintro e w12 ⟨ak, ck, kk, rfl, hK, y12⟩; have z12 := y12.size; have b7 := b7.keep y12 (by simp); have b8 := b8.keep y12 (by simp); have b13 := b13.keep y12 (by simp); have b14 := b14.keep y12 (by simp); have b18 := b18.keep y12 (by simp); clear x7 x8 x13 x14 x18; have hH := hH.keep y12; have hA := hA.keep y12; have hB := hB.keep y12; clear bn gn; have bn := BxS.new w12 24 #[.slice none 0 0]; have gn := World.grownBy_alloc w12 (.cells #[.slice none 0 0] 24) none; have s11 : True := trivial)
    | (have _t := s11; clear s11; refine wpList_stX _ rfl _ (.tmp 22) (.tmp 85) rfl w12.heap.size _ _ rfl rfl bn i1 rfl (by simp [Value.oneCell']) ?_; intro w13 b22 u22; have Y22 := grown_far gn u22 (fun q e => by have e := Option.some.inj e; omega); have b7 := b7.keep Y22 (by simp); have b8 := b8.keep Y22 (by simp); have b13 := b13.keep Y22 (by simp); have b14 := b14.keep Y22 (by simp); have b18 := b18.keep Y22 (by simp); have l22 := b22.lt; have hH := hH.keep Y22; have hA := hA.keep Y22; have hB := hB.keep Y22; have hK := hK.keep Y22; have G13 := grown_trans (grown_trans G11 y12) Y22; have z13 := Y22.size; have x7 : w13.cell? ⟨w.heap.size, 0, none⟩ = some (.slice a n c) := b7.cell 0 (by show 0 < 1; decide); have x8 : w13.cell? ⟨(w.heap.size + 1), 0, none⟩ = some (.slice b m d) := b8.cell 0 (by show 0 < 1; decide); have x13 : w13.cell? ⟨w2.heap.size, 0, none⟩ = some (.slice ah n ch) := b13.cell 0 (by show 0 < 1; decide); have x14 : w13.cell? ⟨w4.heap.size, 0, none⟩ = some (.slice a1 n1 c1) := b14.cell 0 (by show 0 < 1; decide); have x18 : w13.cell? ⟨w6.heap.size, 0, none⟩ = some (.slice a2 n2 c2) := b18.cell 0 (by show 0 < 1; decide); have x22 : w13.cell? ⟨w12.heap.size, 0, none⟩ = some (.slice ak m ck) := b22.cell 0 (by show 0 < 1; decide); have s12 : True := trivial)
    | (go_at_call 32; have _t := s12; clear s12; have hAq : ∀ x, Okb (.slice a1 n1 c1) k1 x → w3.heap.size ≤ x ∧ x < w5.heap.size := hA5q; have hHq : ∀ x, Okb (.slice ah n ch) kh x → w1.heap.size ≤ x ∧ x < w3.heap.size := hH3q; refine (overRing_any a1 n1 c1 _ k1 V _ hA fV1 (by have := hA.rd.len; omega)).mono ?_; rintro e w14 ⟨rfl, F1⟩; have b7 := b7.fz F1 (hA.nobox b7); have b8 := b8.fz F1 (hA.nobox b8); have b13 := b13.fz F1 (hA.nobox b13); have b14 := b14.fz F1 (hA.nobox b14); have b18 := b18.fz F1 (hA.nobox b18); have b22 := b22.fz F1 (hA.nobox b22); clear x7 x8 x13 x14 x18 x22; have hB := hB.fz F1 (fun x hx hy => by have p1 := hB.o.hi hx; have p2 := hAq x hy; omega); have hK := hK.fz F1 (fun x hx hy => by have p1 := hK.o.hi hx; have p2 := hAq x hy; omega); have hH := hH.fz F1 (fun x hx hy => by have p1 := hH.o.hi hx; have p2 := hAq x hy; have p3 := hHq x hx; omega); have x7 : w14.cell? ⟨w.heap.size, 0, none⟩ = some (.slice a n c) := b7.cell 0 (by show 0 < 1; decide); have x8 : w14.cell? ⟨(w.heap.size + 1), 0, none⟩ = some (.slice b m d) := b8.cell 0 (by show 0 < 1; decide); have x13 : w14.cell? ⟨w2.heap.size, 0, none⟩ = some (.slice ah n ch) := b13.cell 0 (by show 0 < 1; decide); have x14 : w14.cell? ⟨w4.heap.size, 0, none⟩ = some (.slice a1 n1 c1) := b14.cell 0 (by show 0 < 1; decide); have x18 : w14.cell? ⟨w6.heap.size, 0, none⟩ = some (.slice a2 n2 c2) := b18.cell 0 (by show 0 < 1; decide); have x22 : w14.cell? ⟨w12.heap.size, 0, none⟩ = some (.slice ak m ck) := b22.cell 0 (by show 0 < 1; decide); have s13 : True := trivial)
    | (go_at_call 32; have _t := s13; clear s13; refine (overRing_any ah n ch _ kh R _ hH fR1 (by omega)).mono ?_; rintro e w15 ⟨rfl, F2⟩; have b7 := b7.fz F2 (hH.nobox b7); have b8 := b8.fz F2 (hH.nobox b8); have b13 := b13.fz F2 (hH.nobox b13); have b14 := b14.fz F2 (hH.nobox b14); have b18 := b18.fz F2 (hH.nobox b18); have b22 := b22.fz F2 (hH.nobox b22); clear x7 x8 x13 x14 x18 x22; have hB := hB.fz F2 (fun x hx hy => by have p1 := hB.o.hi hx; have p2 := hHq x hy; omega); have hK := hK.fz F2 (fun x hx hy => by have p1 := hK.o.hi hx; have p2 := hHq x hy; omega); have x7 : w15.cell? ⟨w.heap.size, 0, none⟩ = some (.slice a n c) := b7.cell 0 (by show 0 < 1; decide); have x8 : w15.cell? ⟨(w.heap.size + 1), 0, none⟩ = some (.slice b m d) := b8.cell 0 (by show 0 < 1; decide); have x13 : w15.cell? ⟨w2.heap.size, 0, none⟩ = some (.slice ah n ch) := b13.cell 0 (by show 0 < 1; decide); have x14 : w15.cell? ⟨w4.heap.size, 0, none⟩ = some (.slice a1 n1 c1) := b14.cell 0 (by show 0 < 1; decide); have x18 : w15.cell? ⟨w6.heap.size, 0, none⟩ = some (.slice a2 n2 c2) := b18.cell 0 (by show 0 < 1; decide); have x22 : w15.cell? ⟨w12.heap.size, 0, none⟩ = some (.slice ak m ck) := b22.cell 0 (by show 0 < 1; decide); have s14 : True := trivial)
    | (go_at_call 30; have _t := s14; clear s14; refine (sameRing_any _ _ _ _ _ _ V _ hB.rd hK.rd).mono ?_; rintro e w16 ⟨rfl, y16⟩))
  go_ret
  exact ⟨rfl, grown_trans (Fz.grown (Fz.grown G13 F1 (fun i h => by have := hA5q i h; omega)) F2 (fun i h => by have := hH3q i h; omega)) y16⟩


set_option maxHeartbeats 16000000 in
theorem opens1_any (gc gm nb : Nat) (B : List Nat) (a : Option Addr) (n c : Nat) (R : List Kd) (w : World) (hL : Lin w) (hv : BxS w gc 25 #[.slice (some ⟨gm, 0, none⟩) nb (nb + 5)]) (hB : Rd w (some ⟨gm, 0, none⟩) nb (nb + 5) B) (h : RdG w a n c R) :
    Calls Tryd.prog 8 #[.agg #[.slice a n c], .pointer (some ⟨gc, 0, none⟩)] w fun e w' => ∃ (a' : Option Addr) (n' c' : Nat) (ks' : List Kw) (ya : Option Addr) (yn yc : Nat), e = .returned (.tuple #[.agg #[.slice a' n' c'], .slice ya yn yc, .int .i64 (onI R B : Int), .int .i64 (onE R B : Int)]) ∧ OwG w' w.heap.size a' n' c' ks' (onV R B) ∧ Ans w' w.heap.size ya yn yc (onY R B) ∧ w.grownBy w' none := by
  have b0 := BxS.new w 24 #[.slice a n c]
  have g0 := World.grownBy_alloc w (.cells #[.slice a n c] 24) none
  generalize hw0 : w.alloc (.cells #[.slice a n c] 24) = w0 at b0 g0
  have hz0 : w0.heap.size = w.heap.size + 1 := by rw [← hw0]; simp
  have b1 := BxS.new w0 24 #[.slice none 0 0]
  have g1 := World.grownBy_alloc w0 (.cells #[.slice none 0 0] 24) none
  generalize hw1 : w0.alloc (.cells #[.slice none 0 0] 24) = w1 at b1 g1
  rw [hz0] at b1
  have sz1 : w.heap.size + 2 ≤ w1.heap.size := by rw [← hw1]; simp [hz0]
  have p0 := b0.keep g1 (by simp)
  have G1 := grown_trans g0 g1
  have i1 := Tryd.info_rg1
  have x0 : w1.cell? ⟨w.heap.size, 0, none⟩ = some (.slice a n c) := p0.cell 0 (by show 0 < 1; decide)
  have xc : w1.cell? ⟨gc, 0, none⟩ = some (.slice (some ⟨gm, 0, none⟩) nb (nb + 5)) := (hv.keep G1 (by simp)).cell 0 (by show 0 < 1; decide)
  have kD := open_any a n c R _ nb (nb + 5) B w1 (hL.keep G1) (h.keep G1) (hB.keep G1)
  generalize onV R B = V at *
  generalize onE R B = Er at *
  generalize onI R B = Id at *
  generalize onY R B = Y at *
  have s0 : True := trivial
  go_enter Tryd.func8, Tryd.ntmps8
  go_wp2_with (first
    | (go_at_call 9; have _t := s0; clear s0; refine kD.mono ?_; rintro e w2 ⟨a1, n1, c1, k1, ya, yn, yc, rfl, hA, hX, y2⟩; have z2 := y2.size; have q1 := b1.keep y2 (by simp); clear x0 xc; have s1 : True := trivial)
    | (have _t := s1; clear s1; refine wpList_stX _ rfl _ (.tmp 3) (.tmp 10) rfl (w.heap.size + 1) _ _ rfl rfl q1 i1 rfl (by simp [Value.oneCell']) ?_; intro w9 b9 u9))
  refine bodyPost_ret (results_cell4 rfl _ _ _ ⟨w.heap.size + 1, 0, none⟩ _ (.slice ya yn yc) (.int .i64 (Id : Int)) (.int .i64 (Er : Int)) rfl (BxS.load (t := 24) b9 Tryd.underlying24 i1) rfl rfl rfl) rfl ?_
  have hF := hA.far u9 (by omega)
  have hX9 := hX.kept u9 (.inr (fun e => hX.noR q1 e.symm))
  have GF := grown_far (grown_trans G1 y2) u9 (fun q e => by have e := Option.some.inj e; omega)
  have hXw : Ans w9 w.heap.size ya yn yc Y := ⟨hX9.own, hX9.byte, fun g hg => Nat.le_trans (by omega) (hX9.new g hg)⟩
  exact ⟨a1, n1, c1, k1, ya, yn, yc, rfl, hF.wide (by omega), hXw, GF⟩
theorem on_fit {R : List Kd} {B : List Nat} (f1 : ∀ k, k ∈ R → k.W.length ≤ 17592186043904) (n : Nat) (hn : n = R.length) (f2 : n * 48 ≤ 140737488351232) : (∀ k, k ∈ onV R B → k.W.length ≤ 17592186043904) ∧ (onV R B).length * 48 ≤ 140737488351232 := by
  unfold onV
  split
  · rename_i hr
    split
    · rename_i h0
      refine ⟨fun k hk => ?_, by rw [List.length_set]; omega⟩
      rcases List.mem_or_eq_of_mem_set hk with h | h
      · exact f1 k h
      · rw [h]
        show (onK R B).W.length ≤ _
        unfold onK
        by_cases hl : fiN R (nth B 0 : Int) < R.length
        · rw [(on_key hr hl).1]; decide
        · rw [List.getD_eq_getElem?_getD, List.getElem?_eq_none (by omega)]; decide
    · exact ⟨f1, by omega⟩
  · exact ⟨(fun k hk => by cases hk), by decide⟩
theorem on_short (R : List Kd) (B : List Nat) : (onY R B).length ≤ 1015 := by
  unfold onY
  split
  · rename_i h0
    rw [cvL_len, List.length_drop, List.length_take]
    by_cases hk : kwB (B.length : Int) 15 1015 = true
    · have := kwB_ok hk; omega
    · exfalso
      unfold onE at h0
      rw [if_neg hk] at h0
      split at h0 <;> cases h0
  · exact Nat.zero_le _
set_option maxHeartbeats 16000000 in
theorem opens_walk (a : Option Addr) (n c : Nat) (R : List Kd) (b : Option Addr) (nb cb : Nat) (B : List Nat) (w : World) (hL : Lin w) (h : RdG w a n c R) (hb : Rd w b nb cb B) (hnb : nb ≤ 140737488351232) (f1 : ∀ k, k ∈ R → k.W.length ≤ 17592186043904) (f2 : n * 48 ≤ 140737488351232) :
    Calls Tryd.prog 3 #[.agg #[.slice a n c], .slice b nb cb] w fun e w' => e = .returned (.bool true) ∧ Below w.heap.size w w' := by
  have hlB := hb.len
  have b0 := BxS.new w 24 #[.slice a n c]
  have g0 := World.grownBy_alloc w (.cells #[.slice a n c] 24) none
  generalize hw0 : w.alloc (.cells #[.slice a n c] 24) = w1 at b0 g0
  have z1 : w.heap.size < w1.heap.size := b0.lt
  have i1 := Tryd.info_rg1
  have x0 : w1.cell? ⟨w.heap.size, 0, none⟩ = some (.slice a n c) := b0.cell 0 (by show 0 < 1; decide)
  have hF := runseal_any a n c R b nb cb B w1 (h.keep g0) (hb.keep g0)
  have hC := fun gc gm wz za zc hLz hv hcB hz => opens1_any gc gm nb B za n zc R wz hLz hv hcB hz
  obtain ⟨fV1, fV2⟩ := on_fit (B := B) f1 n h.len.symm f2
  have hYl := on_short R B
  have kA := fun gc => @ringAs_open gc (onY R B) (onI R B)
  generalize onV R B = V at *
  generalize onE R B = Er at *
  generalize onI R B = Id at *
  generalize onY R B = Y at *
  have s0 : True := trivial
  go_enter Tryd.func3, Tryd.ntmps3
  go_wp2_with (first
    | (go_at_call 6; have _t := s0; clear s0; refine hF.mono ?_; rintro e w2 ⟨a2, n2, c2, ya, yn, yc, rfl, hV, hY, hYb, y2⟩; have z2 := y2.size; have q0 := b0.keep y2 (by simp); clear x0; have bn := BxS.new w2 24 #[.slice none 0 0]; have gn := World.grownBy_alloc w2 (.cells #[.slice none 0 0] 24) none; have s1 : True := trivial)
    | (have _t := s1; clear s1; refine wpList_stX _ rfl _ (.tmp 5) (.tmp 15) rfl w2.heap.size _ _ rfl rfl bn i1 rfl (by simp [Value.oneCell']) ?_; intro w3 b3 u3; have Y3 := grown_far gn u3 (fun q e => by have e := Option.some.inj e; omega); have q0 := q0.keep Y3 (by simp); have hV := hV.keep Y3; have hY := hY.keep Y3; have z3 := Y3.size; have hYb : ∀ g off, ya = some ⟨g, off, none⟩ → g < w3.heap.size := (fun g off e => by have := hYb g off e; omega); have G3 := grown_trans (grown_trans g0 y2) Y3; have s2 : True := trivial)
    | (go_at_call 7; have _t := s2; clear s2; refine (roomy_any b nb cb B _ (hb.keep G3) hnb).mono ?_; rintro e w4 ⟨rfl, ⟨D, hR4⟩, y4⟩; have z4 := y4.size; have q0 := q0.keep y4 (by simp); have b3 := b3.keep y4 (by simp); have hV := hV.keep y4; have hY := hY.keep y4; have hYb : ∀ g off, ya = some ⟨g, off, none⟩ → g < w4.heap.size := (fun g off e => by have := hYb g off e; omega); have G4 := grown_trans G3 y4; have bc := BxS.new w4 25 #[.slice (some ⟨w3.heap.size, 0, none⟩) nb (nb + 5)]; have gc := World.grownBy_alloc w4 (.cells #[.slice (some ⟨w3.heap.size, 0, none⟩) nb (nb + 5)] 25) none; generalize hw5 : w4.alloc (.cells #[.slice (some ⟨w3.heap.size, 0, none⟩) nb (nb + 5)] 25) = w5 at *; have q0 := q0.keep gc (by simp); have b3 := b3.keep gc (by simp); have hV := hV.keep gc; have hY := hY.keep gc; have hYb : ∀ g off, ya = some ⟨g, off, none⟩ → g < w5.heap.size := (fun g off e => by have := hYb g off e; have := gc.size; omega); have G5 := grown_trans G4 gc; have hR5 := hR4.keep gc; have x0 : w5.cell? ⟨w.heap.size, 0, none⟩ = some (.slice a n c) := q0.cell 0 (by show 0 < 1; decide); have x5 : w5.cell? ⟨w2.heap.size, 0, none⟩ = some (.slice a2 n2 c2) := b3.cell 0 (by show 0 < 1; decide); have x9 : w5.cell? ⟨w4.heap.size, 0, none⟩ = some (.slice (some ⟨w3.heap.size, 0, none⟩) nb (nb + 5)) := bc.cell 0 (by show 0 < 1; decide); have s3 : True := trivial)
    | (go_at_call 10; have _t := s3; clear s3; refine (kA w4.heap.size ya yn yc R V Er a a2 n c n2 c2 w5 (fun wz => Lin wz ∧ BxS wz w4.heap.size 25 #[.slice (some ⟨w3.heap.size, 0, none⟩) nb (nb + 5)] ∧ Rd wz (some ⟨w3.heap.size, 0, none⟩) nb (nb + 5) B) (fun x y hx g => ⟨hx.1.keep g, hx.2.1.keep g (by simp), hx.2.2.keep g⟩) ⟨hL.keep G5, bc, hR5.rd hb.byte hlB hnb⟩ (fun wz za zc hI hz => hC _ _ wz za zc hI.1 hI.2.1 hI.2.2 hz) hY hYb hYl (h.keep G5) hV f1 f2 fV1 (by rw [← hV.len]; exact fV2)).mono ?_; rintro e w6 ⟨rfl, y6⟩; clear x0 x5 x9; have x9 : w6.cell? ⟨w4.heap.size, 0, none⟩ = some (.slice (some ⟨w3.heap.size, 0, none⟩) nb (nb + 5)) := (bc.keep y6 (by simp)).cell 0 (by show 0 < 1; decide); have s4 : True := trivial)
    | (go_at_call 11; have _t := s4; clear s4; refine (left_any _ b nb cb B D _ (hR5.keep y6) (hb.keep (grown_trans G5 y6)) hnb).mono ?_; rintro e w7 ⟨rfl, y7⟩))
  go_ret
  exact ⟨rfl, below_ofQ (grown_trans (grown_trans G5 y6) y7)⟩
end Go.Proofs.YtaigcjhachkmmaaDoor
