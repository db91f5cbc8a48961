import Derived.Deep.LoopGhost
import Derived.Test.YthdjpbfknbafgaaLi18
import Derived.Test.YthdjpbfknbafgaaRows
import Derived.OpenShut
import Derived.SizedLaws
import Derived.Deep.Slices
import Derived.Test.YthdjpbfknbafgaaLi7
import Derived.Test.YthdjpbfknbafgaaLi10
namespace Go.Proofs.Ythdjpbfknbafgaa
open Go.RowKit
set_option maxRecDepth 100000
set_option linter.unusedVariables false
set_option linter.unusedSimpArgs false

section
open Go.RowKit Go.Shelf
attribute [local go_sem] Oper.semAt_some

theorem take_flat {Ps : List (List Nat)} {i : Nat} {B : List Nat} (h : Ps[i]? = some B) : (Ps.take (i + 1)).flatten = (Ps.take i).flatten ++ B := by
  rw [List.take_add_one, h, List.flatten_append]
  simp
/-- what Listen told of a piece -/
theorem LsA.at {w00 w : World} {np : Nat} {a7 a8 a9 : Option Addr} {c7 c8 c9 : Nat} {Ts : List (List Fa)} {Bs : List Bool} (h : LsA w00 w np a7 a8 a9 c7 c8 c9 Ts Bs) {i : Nat} (hi : i < np) {T : List Fa} (hT : Ts[i]? = some T) {bb : Bool} (hB : Bs[i]? = some bb) (hl : T.length ≤ 140737488351232) :
    ∃ (g7 g8 g9 : Nat) (v7 v8 : Option Addr) (n7 k7 n8 k8 : Nat) (y7 y8 : List Fy), a7 = some ⟨g7, 0, none⟩ ∧ a8 = some ⟨g8, 0, none⟩ ∧ a9 = some ⟨g9, 0, none⟩ ∧ w.cell? ⟨g7, i, none⟩ = some (.slice v7 n7 k7) ∧ RdF w v7 n7 k7 y7 ∧ y7.map (fun y => absF y.1) = T ∧ w.cell? ⟨g8, i, none⟩ = some (.slice v8 n8 k8) ∧ RdF w v8 n8 k8 y8 ∧ y8.map (fun y => absF y.1) = T ∧ w.cell? ⟨g9, i, none⟩ = some (.bool bb) := by
  have one : ∀ {a : Option Addr} {c : Nat} {V : List Value} {dv : Value}, AnsX 33 w w00.heap.size a np c V → OnR w w00.heap.size dv V Ts → ∃ (g : Nat) (v : Option Addr) (n k : Nat) (y : List Fy), a = some ⟨g, 0, none⟩ ∧ w.cell? ⟨g, i, none⟩ = some (.slice v n k) ∧ RdF w v n k y ∧ y.map (fun y => absF y.1) = T := by
    intro a c V dv hX hO
    have hvl := hX.len
    rcases hX.cases with ⟨_, h0, _⟩ | ⟨g, rfl, _, _⟩
    · omega
    · obtain ⟨v, hv⟩ : ∃ v, V[i]? = some v := ⟨_, List.getElem?_eq_getElem (by omega)⟩
      obtain ⟨ys, a, k, rfl, ho, hd, hf⟩ := (hO.2 i v T hv hT).ex
      have hyl : ys.length ≤ 140737488351232 := by
        rw [← hf, List.length_map] at hl
        exact hl
      exact ⟨g, a, ys.length, k, ys, rfl, hX.cell i _ hv, rdF_row ho rfl hyl (fun y hy => ⟨_, (hd y hy).1⟩), hf⟩
  obtain ⟨⟨V, hV, dv, oV⟩, ⟨V', hV', dv', oV'⟩, hK⟩ := h
  obtain ⟨g7, v7, n7, k7, y7, e7, c7', r7, t7⟩ := one hV oV
  obtain ⟨g8, v8, n8, k8, y8, e8, c8', r8, t8⟩ := one hV' oV'
  rcases hK.cases with ⟨_, h0, _⟩ | ⟨g9, e9, _, _⟩
  · omega
  · subst e9
    have hb : (Bs.map Value.bool)[i]? = some (.bool bb) := by rw [List.getElem?_map, hB]; rfl
    exact ⟨g7, g8, g9, v7, v8, n7, k7, n8, k8, y7, y8, e7, e8, rfl, c7', r7, t7, c8', r8, t8, hK.cell i _ hb⟩

set_option maxHeartbeats 16000000 in
theorem sl_blk {u0 u3 u4 u6 u10 u11 u15 u16 u17 u18 u19 u20 u21 u22 u23 u24 u25 u26 u27 u28 u29 u30 u31 u32 u33 u34 u35 u36 u37 u38 u39 u40 u41 u42 u43 u44 u45 u46 u47 u48 u49 u50 u51 u52 u53 u54 u55 u56 u57 u58 u59 u60 u61 u62 u63 u64 u65 u66 u67 u68 u69 u70 u71 u72 u73 u74 u75 u76 u77 u78 u79 u80 u81 u82 u83 u84 u85 u86 u87 u88 u89 u90 u91 u92 u93 u94 u95 u96 u97 u98 u99 u100 u101 u102 u103 u104 u105 u106 u107 u108 u109 u110 u111 u112 u113 u114 u115 u116 u117 u118 u119 u120 u121 u122 u123 u124 : Value} {Q : Exit → Act → World → Prop} (w00 w W : World) (gR np cp c5 c7 c8 c9 nL cL n i lo : Nat) (ap a5 a7 a8 a9 aL : Option Addr) (V : List Value) (r : Rx) (Ps : List (List Nat)) (b : BxS w gR 23 #[.int .i64 (r.L : Nat), .int .i64 (r.F : Nat), .int .i64 (r.H : Nat), .int .i64 (r.M : Nat)]) (hP : RdPs w ap np cp Ps) (hX5 : AnsX 25 w lo a5 np c5 V) (hEA : EaR w lo V Ps) (hLs : LsA w00 w np a7 a8 a9 c7 c8 c9 (toX r s0X Ps) (loX r s0X Ps))
    (hnp : np ≤ 4000000000000) (hmm : sumX Ps ≤ 1048576) (hL1 : 1 ≤ r.L) (hL : r.L ≤ 2048) (hF : r.F ≤ 8) (hH : r.H ≤ 12) (hM : r.M ≤ 8) (hi : i < np)
    (hA : Ans W w.heap.size aL nL cL (Ps.take i).flatten) (hn : n = (tkX r s0X (Ps.take i).flatten (Ps.take i).flatten.length).2.length) (Fr : Frm (fun _ => False) w W)
    (hPa : ∀ c a a' w, a.defers = a'.defers → Q (.panic c) a w → Q (.panic c) a' w)
    (hQ : ∀ W' aM nM cM no {z15 z16 z71 z72 z73 z74 z75 z76 z77 z78 z79 z80 z81 z82 z83 z84 z85 z86 z87 z88 z89 z90 z91 z92 z93 z94 z95 z96 z97 z98 z99 z100 z101 z102 z103 z104 z105 z106 z107 z108 z109 z110 z111 z112 z113 z114 z115 z116 z117 z118 z119 z120 z121 z122 z123 z124 : Value}, Ans W' w.heap.size aM nM cM (Ps.take (i + 1)).flatten → no = (tkX r s0X (Ps.take (i + 1)).flatten (Ps.take (i + 1)).flatten.length).2.length → Frm (fun _ => False) w W' → Q .normal (Act.mk (List.toArray (u0 :: (.slice ap np cp) :: (.pointer (some ⟨gR, 0, none⟩)) :: u3 :: u4 :: (.slice a5 np c5) :: u6 :: (.slice a7 np c7) :: (.slice a8 np c8) :: (.slice a9 np c9) :: u10 :: u11 :: (.slice aM nM cM) :: (.int .i64 (no : Nat)) :: (.int .i64 (i : Nat)) :: z15 :: z16 :: u17 :: u18 :: u19 :: u20 :: u21 :: u22 :: u23 :: u24 :: u25 :: u26 :: u27 :: u28 :: u29 :: u30 :: u31 :: u32 :: u33 :: u34 :: u35 :: u36 :: u37 :: u38 :: u39 :: u40 :: u41 :: u42 :: u43 :: u44 :: u45 :: u46 :: u47 :: u48 :: u49 :: u50 :: u51 :: u52 :: u53 :: u54 :: u55 :: u56 :: u57 :: u58 :: u59 :: u60 :: u61 :: u62 :: u63 :: u64 :: u65 :: u66 :: u67 :: u68 :: u69 :: u70 :: z71 :: z72 :: z73 :: z74 :: z75 :: z76 :: z77 :: z78 :: z79 :: z80 :: z81 :: z82 :: z83 :: z84 :: z85 :: z86 :: z87 :: z88 :: z89 :: z90 :: z91 :: z92 :: z93 :: z94 :: z95 :: z96 :: z97 :: z98 :: z99 :: z100 :: z101 :: z102 :: z103 :: z104 :: z105 :: z106 :: z107 :: z108 :: z109 :: z110 :: z111 :: z112 :: z113 :: z114 :: z115 :: z116 :: z117 :: z118 :: z119 :: z120 :: z121 :: z122 :: z123 :: z124 :: [])) []) W') :
    Code.wp Try.prog (blkT (headT (tailR 19 (Try.f3.body.getD .skip)))) Q (Act.mk (List.toArray (u0 :: (.slice ap np cp) :: (.pointer (some ⟨gR, 0, none⟩)) :: u3 :: u4 :: (.slice a5 np c5) :: u6 :: (.slice a7 np c7) :: (.slice a8 np c8) :: (.slice a9 np c9) :: u10 :: u11 :: (.slice aL nL cL) :: (.int .i64 (n : Nat)) :: (.int .i64 (i : Nat)) :: u15 :: u16 :: u17 :: u18 :: u19 :: u20 :: u21 :: u22 :: u23 :: u24 :: u25 :: u26 :: u27 :: u28 :: u29 :: u30 :: u31 :: u32 :: u33 :: u34 :: u35 :: u36 :: u37 :: u38 :: u39 :: u40 :: u41 :: u42 :: u43 :: u44 :: u45 :: u46 :: u47 :: u48 :: u49 :: u50 :: u51 :: u52 :: u53 :: u54 :: u55 :: u56 :: u57 :: u58 :: u59 :: u60 :: u61 :: u62 :: u63 :: u64 :: u65 :: u66 :: u67 :: u68 :: u69 :: u70 :: u71 :: u72 :: u73 :: u74 :: u75 :: u76 :: u77 :: u78 :: u79 :: u80 :: u81 :: u82 :: u83 :: u84 :: u85 :: u86 :: u87 :: u88 :: u89 :: u90 :: u91 :: u92 :: u93 :: u94 :: u95 :: u96 :: u97 :: u98 :: u99 :: u100 :: u101 :: u102 :: u103 :: u104 :: u105 :: u106 :: u107 :: u108 :: u109 :: u110 :: u111 :: u112 :: u113 :: u114 :: u115 :: u116 :: u117 :: u118 :: u119 :: u120 :: u121 :: u122 :: u123 :: u124 :: [])) []) W := by
  have HQ : Hid _ := @hQ
  clear hQ
  obtain ⟨B, hB⟩ : ∃ B, Ps[i]? = some B := ⟨_, List.getElem?_eq_getElem (by have := hP.len; omega)⟩
  obtain ⟨T, pT, pA, pL⟩ := pc_at r B Ps i s0X hB
  have hfl := take_flat hB
  have hs1 := sumX_take B Ps i hB
  have hs2 := sumX_flat (Ps.take i)
  have hAl := hA.len
  obtain ⟨bp, po, rfl, hc⟩ := hP.at' (by omega)
  obtain ⟨a, m, cap, cI, hR⟩ := hc i B hB
  have hBl := hR.len
  have hTl : T.length ≤ 140737488351232 := by
    have h1 := tkX_len r s0X (Ps.take (i + 1)).flatten (Ps.take (i + 1)).flatten.length
    rw [pA, List.length_append, hfl, List.length_append] at h1
    omega
  obtain ⟨g7, g8, g9, v7, v8, n7, k7, n8, k8, y7, y8, rfl, rfl, rfl, x7, r7, t7, x8, r8, t8, x9⟩ := hLs.at hi pT pL hTl
  have hVl := hX5.len
  obtain ⟨v, hv⟩ : ∃ v, V[i]? = some v := ⟨_, List.getElem?_eq_getElem (by omega)⟩
  obtain ⟨gc, D, rfl, _, hD⟩ := hEA i v B hv hB
  obtain ⟨g5, rfl⟩ : ∃ g5, a5 = some ⟨g5, 0, none⟩ := by
    rcases hX5.cases with ⟨_, h0, _⟩ | ⟨g5, e, _⟩
    · omega
    · exact ⟨g5, e⟩
  have x5 := hX5.cell i _ hv
  rw [hBl] at x5 hD
  have hws := Fr.size
  have G1 := Fr.gr
  conv => enter [2]; whnf
  refine wp_seq_k fun K19 hK19 => ?_
  have HK19 : Hid _ := hK19
  clear hK19
  refine sl_19 W bp po np cp nL cL i w.heap.size m cap aL a (Ps.take i).flatten B hi hnp (cellGS cI G1) (Rd.keepF (p := fun _ => False) hR Fr) hA hws (by omega) ?_
  intro W1 aM cM z71 z72 z73 z74 z75 z76 hA1 hg1
  (try simp only [Exit.inBlock, Exit.then])
  refine HK19.out _ _ ?_
  clear HK19
  rw [← hfl] at hA1
  have F1 : Frm (fun _ => False) w W1 := Fr.trans (Frm.of (p := fun x => (Value.slice aL nL cL).ownBlock = some x) hg1 (fun k e _ => e)) (fun k hk h => by have := hA.new k h; omega)
  refine wp_seq_k fun K20 hK20 => ?_
  have HK20 : Hid _ := hK20
  clear hK20
  refine sl_20 W1 gR (nL + m) cM aM r (Ps.take (i + 1)).flatten (b.keep F1.gr (by simp)) hA1.rd (by omega) hL1 hL hF hH hM ?_
  intro W2 ao no co bb ys z77 z78 z79 z80 z81 z82 hS
  (try simp only [Exit.inBlock, Exit.then])
  refine HK20.out _ _ ?_
  clear HK20
  have F2 : Frm (fun _ => False) w W2 := F1.trans hS.fr (fun _ _ h => h)
  have G2 := F2.gr
  have hnn : no = (tkX r s0X (Ps.take (i + 1)).flatten (Ps.take (i + 1)).flatten.length).2.length := by
    rw [hS.says, List.length_map, hS.len]
  have hno : no ≤ 140737488351232 := by
    have h1 := tkX_len r s0X (Ps.take (i + 1)).flatten (Ps.take (i + 1)).flatten.length
    rw [← hnn, hfl, List.length_append] at h1
    omega
  have hnle : n ≤ no := by rw [hn, hnn, pA, List.length_append]; omega
  have hRF := rdF_row hS.own hS.len hno (fun y hy => ⟨_, hS.dat y hy⟩)
  have hT2 := pc_told (i := i) hS.says pA
  rw [← hn] at hT2
  have x9' := cellGS x9 G2
  rw [← hS.lock] at x9'
  have hA2 := hA1.keep hS.fr.gr
  have FIN : ∀ W3 {z83 z84 z85 z86 z87 z88 z89 z90 z91 z92 z93 z94 z95 z96 z97 z98 z99 z100 z101 z102 z103 z104 z105 z106 z107 z108 z109 z110 z111 z112 z113 z114 z115 z116 z117 z118 z119 z120 z121 z122 z123 z124 : Value}, W2.grownBy W3 none → Q .normal (Act.mk (List.toArray (u0 :: (.slice (some ⟨bp, po, none⟩) np cp) :: (.pointer (some ⟨gR, 0, none⟩)) :: u3 :: u4 :: (.slice (some ⟨g5, 0, none⟩) np c5) :: u6 :: (.slice (some ⟨g7, 0, none⟩) np c7) :: (.slice (some ⟨g8, 0, none⟩) np c8) :: (.slice (some ⟨g9, 0, none⟩) np c9) :: u10 :: u11 :: (.slice aM (nL + m) cM) :: (.int .i64 (no : Nat)) :: (.int .i64 (i : Nat)) :: (.slice ao no co) :: (.bool bb) :: u17 :: u18 :: u19 :: u20 :: u21 :: u22 :: u23 :: u24 :: u25 :: u26 :: u27 :: u28 :: u29 :: u30 :: u31 :: u32 :: u33 :: u34 :: u35 :: u36 :: u37 :: u38 :: u39 :: u40 :: u41 :: u42 :: u43 :: u44 :: u45 :: u46 :: u47 :: u48 :: u49 :: u50 :: u51 :: u52 :: u53 :: u54 :: u55 :: u56 :: u57 :: u58 :: u59 :: u60 :: u61 :: u62 :: u63 :: u64 :: u65 :: u66 :: u67 :: u68 :: u69 :: u70 :: z71 :: z72 :: z73 :: z74 :: z75 :: z76 :: z77 :: z78 :: z79 :: z80 :: z81 :: z82 :: z83 :: z84 :: z85 :: z86 :: z87 :: z88 :: z89 :: z90 :: z91 :: z92 :: z93 :: z94 :: z95 :: z96 :: z97 :: z98 :: z99 :: z100 :: z101 :: z102 :: z103 :: z104 :: z105 :: z106 :: z107 :: z108 :: z109 :: z110 :: z111 :: z112 :: z113 :: z114 :: z115 :: z116 :: z117 :: z118 :: z119 :: z120 :: z121 :: z122 :: z123 :: z124 :: [])) []) W3 := by
    intros
    rename_i h3
    exact HQ.out _ aM (nL + m) cM no (hA2.keep h3) hnn (F2.trans (Frm.of h3 (fun k e _ => by cases e)) (fun _ _ h => h))
  rcases hS.own.2 with ⟨e1, e2⟩ | ⟨gs, cc, cur, e1, _, _, e3, _⟩
  · simp only [Value.slice.injEq] at e1
    obtain ⟨rfl, rfl, rfl⟩ := e1
    refine sl_21n (bb := bb) W2 bp po np cp g5 c5 g7 c7 g8 c8 g9 c9 n i 0 0 n7 k7 n8 k8 gc m cap none v7 v8 a B D ys y7 y8 hi hnp (by omega) (cellGS x7 G2) (r7.keep G2) (cellGS x8 G2) (r8.keep G2) x9' (cellGS x5 G2) (hD.keep G2) (cellGS cI G2) (hR.keep G2) hRF (Nat.le_refl _) hnle (t7.trans hT2.symm) (t8.trans hT2.symm) rfl rfl rfl hPa ?_
    exact FIN
  · simp only [Value.slice.injEq] at e1
    obtain ⟨rfl, _, rfl⟩ := e1
    by_cases hce : co = n
    · refine sl_21e (bb := bb) W2 bp po np cp g5 c5 g7 c7 g8 c8 g9 c9 n i no co n7 k7 n8 k8 gc m cap (some ⟨gs, 0, none⟩) v7 v8 a B D ys y7 y8 hi hnp (by omega) (cellGS x7 G2) (r7.keep G2) (cellGS x8 G2) (r8.keep G2) x9' (cellGS x5 G2) (hD.keep G2) (cellGS cI G2) (hR.keep G2) hRF e3 hnle (t7.trans hT2.symm) (t8.trans hT2.symm) gs rfl hce hPa ?_
      exact FIN
    · refine sl_21 (bb := bb) W2 bp po np cp g5 c5 g7 c7 g8 c8 g9 c9 n i no co n7 k7 n8 k8 gc m cap (some ⟨gs, 0, none⟩) v7 v8 a B D ys y7 y8 hi hnp (by omega) (cellGS x7 G2) (r7.keep G2) (cellGS x8 G2) (r8.keep G2) x9' (cellGS x5 G2) (hD.keep G2) (cellGS cI G2) (hR.keep G2) hRF e3 hnle (t7.trans hT2.symm) (t8.trans hT2.symm) gs rfl (by omega) hPa ?_
      exact FIN
end

section
open Go.RowKit Go.Shelf
attribute [local go_sem] Oper.semAt_some

set_option maxHeartbeats 16000000 in
theorem sl_14 {u0 u3 u4 u6 u10 u11 u12 u13 u14 u15 u16 u17 u18 u19 u20 u21 u22 u23 u24 u25 u26 u27 u28 u29 u30 u31 u32 u33 u34 u35 u36 u37 u38 u39 u40 u41 u42 u43 u44 u45 u46 u47 u48 u49 u50 u51 u52 u53 u54 u55 u56 u57 u58 u59 u60 u61 u62 u63 u64 u65 u66 u67 u68 u69 u70 u71 u72 u73 u74 u75 u76 u77 u78 u79 u80 u81 u82 u83 u84 u85 u86 u87 u88 u89 u90 u91 u92 u93 u94 u95 u96 u97 u98 u99 u100 u101 u102 u103 u104 u105 u106 u107 u108 u109 u110 u111 u112 u113 u114 u115 u116 u117 u118 u119 u120 u121 u122 u123 u124 : Value} {Q : Exit → Act → World → Prop} (w00 w : World) (gR np cp c5 c7 c8 c9 lo : Nat) (ap a5 a7 a8 a9 : Option Addr) (V : List Value) (r : Rx) (Ps : List (List Nat)) (b : BxS w gR 23 #[.int .i64 (r.L : Nat), .int .i64 (r.F : Nat), .int .i64 (r.H : Nat), .int .i64 (r.M : Nat)]) (hP : RdPs w ap np cp Ps) (hX5 : AnsX 25 w lo a5 np c5 V) (hEA : EaR w lo V Ps) (hLs : LsA w00 w np a7 a8 a9 c7 c8 c9 (toX r s0X Ps) (loX r s0X Ps))
    (hnp : np ≤ 4000000000000) (hmm : sumX Ps ≤ 1048576) (hL1 : 1 ≤ r.L) (hL : r.L ≤ 2048) (hF : r.F ≤ 8) (hH : r.H ≤ 12) (hM : r.M ≤ 8)
    (hPa : ∀ c a a' w, a.defers = a'.defers → Q (.panic c) a w → Q (.panic c) a' w)
    (hQ : ∀ W' {z12 z13 z14 z15 z16 z65 z66 z67 z68 z69 z70 z71 z72 z73 z74 z75 z76 z77 z78 z79 z80 z81 z82 z83 z84 z85 z86 z87 z88 z89 z90 z91 z92 z93 z94 z95 z96 z97 z98 z99 z100 z101 z102 z103 z104 z105 z106 z107 z108 z109 z110 z111 z112 z113 z114 z115 z116 z117 z118 z119 z120 z121 z122 z123 z124 : Value}, Frm (fun _ => False) w W' → Q .ret (Act.mk (List.toArray (u0 :: (.slice ap np cp) :: (.pointer (some ⟨gR, 0, none⟩)) :: u3 :: (.bool true) :: (.slice a5 np c5) :: u6 :: (.slice a7 np c7) :: (.slice a8 np c8) :: (.slice a9 np c9) :: u10 :: u11 :: z12 :: z13 :: z14 :: z15 :: z16 :: u17 :: u18 :: u19 :: u20 :: u21 :: u22 :: u23 :: u24 :: u25 :: u26 :: u27 :: u28 :: u29 :: u30 :: u31 :: u32 :: u33 :: u34 :: u35 :: u36 :: u37 :: u38 :: u39 :: u40 :: u41 :: u42 :: u43 :: u44 :: u45 :: u46 :: u47 :: u48 :: u49 :: u50 :: u51 :: u52 :: u53 :: u54 :: u55 :: u56 :: u57 :: u58 :: u59 :: u60 :: u61 :: u62 :: u63 :: u64 :: z65 :: z66 :: z67 :: z68 :: z69 :: z70 :: z71 :: z72 :: z73 :: z74 :: z75 :: z76 :: z77 :: z78 :: z79 :: z80 :: z81 :: z82 :: z83 :: z84 :: z85 :: z86 :: z87 :: z88 :: z89 :: z90 :: z91 :: z92 :: z93 :: z94 :: z95 :: z96 :: z97 :: z98 :: z99 :: z100 :: z101 :: z102 :: z103 :: z104 :: z105 :: z106 :: z107 :: z108 :: z109 :: z110 :: z111 :: z112 :: z113 :: z114 :: z115 :: z116 :: z117 :: z118 :: z119 :: z120 :: z121 :: z122 :: z123 :: z124 :: [])) []) W') :
    Code.wp Try.prog (tailR 14 (Try.f3.body.getD .skip)) Q (Act.mk (List.toArray (u0 :: (.slice ap np cp) :: (.pointer (some ⟨gR, 0, none⟩)) :: u3 :: u4 :: (.slice a5 np c5) :: u6 :: (.slice a7 np c7) :: (.slice a8 np c8) :: (.slice a9 np c9) :: u10 :: u11 :: u12 :: u13 :: u14 :: u15 :: u16 :: u17 :: u18 :: u19 :: u20 :: u21 :: u22 :: u23 :: u24 :: u25 :: u26 :: u27 :: u28 :: u29 :: u30 :: u31 :: u32 :: u33 :: u34 :: u35 :: u36 :: u37 :: u38 :: u39 :: u40 :: u41 :: u42 :: u43 :: u44 :: u45 :: u46 :: u47 :: u48 :: u49 :: u50 :: u51 :: u52 :: u53 :: u54 :: u55 :: u56 :: u57 :: u58 :: u59 :: u60 :: u61 :: u62 :: u63 :: u64 :: u65 :: u66 :: u67 :: u68 :: u69 :: u70 :: u71 :: u72 :: u73 :: u74 :: u75 :: u76 :: u77 :: u78 :: u79 :: u80 :: u81 :: u82 :: u83 :: u84 :: u85 :: u86 :: u87 :: u88 :: u89 :: u90 :: u91 :: u92 :: u93 :: u94 :: u95 :: u96 :: u97 :: u98 :: u99 :: u100 :: u101 :: u102 :: u103 :: u104 :: u105 :: u106 :: u107 :: u108 :: u109 :: u110 :: u111 :: u112 :: u113 :: u114 :: u115 :: u116 :: u117 :: u118 :: u119 :: u120 :: u121 :: u122 :: u123 :: u124 :: [])) []) w := by
  have HQ : Hid _ := @hQ
  clear hQ
  have HPA : Hid _ := hPa
  clear hPa
  have HB : Hid _ := b
  have HP : Hid _ := hP
  have HX5 : Hid _ := hX5
  have HEA : Hid _ := hEA
  have HLS : Hid _ := hLs
  clear b hP hX5 hEA hLs
  conv => enter [2]; whnf
  refine wp_seq_k fun K14 hK14 => ?_
  have HK14 : Hid _ := hK14
  clear hK14
  go_wp2
  (try simp only [Exit.inBlock, Exit.then])
  refine HK14.out _ _ ?_
  clear HK14
  refine wp_seq_k fun K15 hK15 => ?_
  have HK15 : Hid _ := hK15
  clear hK15
  go_wp2
  (try simp only [Exit.inBlock, Exit.then])
  refine HK15.out _ _ ?_
  clear HK15
  refine wp_seq_k fun K16 hK16 => ?_
  have HK16 : Hid _ := hK16
  clear hK16
  go_wp2
  go_loopw [12, 13, 14] (fun v nv iv wr => ∃ (i n nL cL : Nat) (aL : Option Addr), v = .slice aL nL cL ∧ nv = .int .i64 (n : Nat) ∧ iv = .int .i64 (i : Nat) ∧ i ≤ np ∧ Ans wr w.heap.size aL nL cL (Ps.take i).flatten ∧ n = (tkX r s0X (Ps.take i).flatten (Ps.take i).flatten.length).2.length ∧ Frm (fun _ => False) w wr) (fun _ _ iv _ => np - (intOf iv).toNat)
  case atStart => exact ⟨0, 0, 0, 0, none, rfl, rfl, rfl, Nat.zero_le _, ans_nil _ _, rfl, Frm.refl _ _⟩
  case round =>
    obtain ⟨i, n, nL, cL, aL, rfl, rfl, rfl, hi, hA, hn, Fr⟩ := hrel
    by_cases hlt : i < np
    · have hlt' : (i : Int) < (np : Int) := by omega
      have HA : Hid _ := hA
      have HN : Hid _ := hn
      have HFR : Hid _ := Fr
      clear hA hn Fr
      refine wp_seq_k fun K17 hK17 => ?_
      have HK17 : Hid _ := hK17
      clear hK17
      go_wp2
      (try simp only [Exit.inBlock, Exit.then])
      refine HK17.out _ _ ?_
      clear HK17
      refine wp_seq_k fun K18 hK18 => ?_
      have HK18 : Hid _ := hK18
      clear hK18
      refine wp_block ?_
      refine sl_blk w00 w wr gR np cp c5 c7 c8 c9 nL cL n i lo ap a5 a7 a8 a9 aL V r Ps HB.out HP.out HX5.out HEA.out HLS.out hnp hmm hL1 hL hF hH hM hlt HA.out HN.out HFR.out (fun c a a' w h => HPA.out c a a' w h) ?_
      intro W' aM nM cM no z15 z16 z71 z72 z73 z74 z75 z76 z77 z78 z79 z80 z81 z82 z83 z84 z85 z86 z87 z88 z89 z90 z91 z92 z93 z94 z95 z96 z97 z98 z99 z100 z101 z102 z103 z104 z105 z106 z107 z108 z109 z110 z111 z112 z113 z114 z115 z116 z117 z118 z119 z120 z121 z122 z123 z124 hA' hn' F'
      have HA' : Hid _ := hA'
      have HN' : Hid _ := hn'
      have HF' : Hid _ := F'
      clear hA' hn' F' HA HN HFR
      (try simp only [Exit.inBlock, Exit.then])
      refine HK18.out _ _ ?_
      clear HK18
      go_wp2
      go_roundw
      case rel => exact ⟨i + 1, no, nM, cM, aM, rfl, rfl, by go_num, by omega, HA'.out, HN'.out, HF'.out⟩
      case measure => simp [intOf]; omega
    · obtain rfl : i = np := by omega
      have hge : ¬ (i : Int) < (i : Int) := by omega
      have HFR : Hid _ := Fr
      clear hA hn Fr
      refine wp_seq_k fun K17 hK17 => ?_
      have HK17 : Hid _ := hK17
      clear hK17
      go_wp2
      (try simp only [Exit.inBlock, Exit.then])
      (try simp only [Exit.inBlock, Exit.then])
      refine HK16.out _ _ ?_
      clear HK16
      go_wp2
      exact HQ.out _ HFR.out
end

section
open Go.ChangeShapes Go.WideShapes

/-- a type's shape, as a reading goes through it: fields in a row (a struct, an array), slices, numbers; mt: what a reading tells of cells; n: how much is read -/
structure Sh where
  agg : Bool
  mt : World → Bool → List Value → Nat → Prop
def sumN (F : Nat → Nat) : Nat → Nat
  | 0 => 0
  | n + 1 => sumN F n + F n
def Sh.met (w : World) (full : Bool) (s : Sh) (cs : List Value) (n : Nat) : Prop := s.mt w full cs n
def Sh.bool : Sh := ⟨false, fun w full cs n => n = 1 ∧ ∃ b, cs = [.bool b]⟩
def Sh.int (k : IntKind) : Sh := ⟨false, fun w full cs n => n = 1 ∧ ∃ z, cs = [.int k z] ∧ (Lit.int k z).wf = true⟩
def Sh.str : Sh := ⟨false, fun w full cs n => ∃ s : ByteArray, cs = [.string s] ∧ n = s.size + 1 ∧ s.size ≤ maxLen ∧ (full = true → s.size ≤ reachBytes)⟩
def Sh.slice (c b : Nat) (e : Sh) : Sh := ⟨false, fun w full cs n => (n = 1 ∧ cs = [.slice none 0 0]) ∨
      ∃ (a : Addr) (len cap : Nat) (F : Nat → Nat) (C : Nat → List Value), cs = [.slice (some a) len cap] ∧ n = sumN F cap + 1 ∧ len ≤ cap ∧ cap ≤ maxLen ∧ (full = true → cap * b ≤ reachBytes) ∧
        ∀ i, i < cap → (C i).length = c ∧ (∀ j, j < c → w.cell? (a.add (i * c + j)) = (C i)[j]?) ∧ e.mt w full (C i) (F i)⟩
def Sh.fend : Sh := ⟨true, fun w full cs n => cs = [] ∧ n = 1⟩
def Sh.fcons (c : Nat) (s r : Sh) : Sh := ⟨true, fun w full cs n => ∃ n1 n2, n = n1 + n2 ∧ s.mt w full (cs.take c) n1 ∧ r.mt w full (cs.drop c) n2⟩
def Sh.rep (c : Nat) (s : Sh) : Nat → Sh
  | 0 => .fend
  | n + 1 => .fcons c s (Sh.rep c s n)
def fieldsOf (P : Program) (g : TypeId → Option Sh) (top : Nat) : Nat → List Field → Option Sh
  | off, [] => if off = top then some .fend else none
  | off, f :: r => if f.offset = off then (g f.type).bind fun s => (fieldsOf P g top (off + P.cellsOf f.type) r).map fun q => .fcons (P.cellsOf f.type) s q else none
def shapeOf (P : Program) : Nat → TypeId → Option Sh
  | 0, _ => none
  | f + 1, t => match P.underlying t with
    | some .bool => some .bool
    | some (.int k) => some (.int k)
    | some .string => some .str
    | some (.slice e) => (shapeOf P f e).map fun s => .slice (P.cellsOf e) (P.bytesOf e) s
    | some (.struct fs) => fieldsOf P (shapeOf P f) (P.cellsOf t) 0 fs.toList
    | some (.array n e) => if P.cellsOf t = n * P.cellsOf e then (shapeOf P f e).map fun s => Sh.rep (P.cellsOf e) s n else none
    | _ => none
section
variable {H : Type} {enc : TypeId × Value → H} {P : Program} {w : World} {full : Bool}
theorem bulkAll_append (l r : List (DataW H)) : Rows.uptoBulkAll (l ++ r) = Rows.uptoBulkAll l + Rows.uptoBulkAll r := by
  induction l with
  | nil => simp [Rows.uptoBulkAll]
  | cons d l ih => simp only [List.cons_append, Rows.uptoBulkAll, ih]; omega
theorem bulkAll_range (D : Nat → DataW H) (n : Nat) : Rows.uptoBulkAll ((List.range n).map D) = sumN (fun i => Rows.uptoBulk (D i)) n := by
  induction n with
  | zero => rfl
  | succ n ih => rw [List.range_succ, List.map_append, bulkAll_append, ih]; simp [sumN, Rows.uptoBulkAll]
theorem weights_all {e : TypeId} {n : Nat} {d : DataW H} (hn : n ∈ d.weights P e) : ∀ {l : List (DataW H)}, d ∈ l → n ∈ DataW.weightsAll P e l
  | [], h => by cases h
  | x :: l, h => by
    simp only [DataW.weightsAll, List.mem_append]
    rcases List.mem_cons.1 h with rfl | h
    · exact .inl hn
    · exact .inr (weights_all hn h)
theorem fields_met {g : TypeId → Option Sh} {cs : List Value} {m : Nat}
    (hg : ∀ t s, g t = some s → ∀ cs' d ps, DataW.trod enc P w 0 (fun _ => true) true m t cs' = some (d, ps) → (full = true → ∀ n ∈ d.weights P t, n ≤ reachBytes) → s.met w full cs' (Rows.uptoBulk d)) :
    ∀ (fl : List Field) (off : Nat) (s : Sh) (xs : List (DataW H × List MemPlace)), fieldsOf P g cs.length off fl = some s → xs.length = fl.length →
      (∀ (i : Nat) (f : Field), fl[i]? = some f → DataW.trod enc P w 0 (fun _ => true) true m f.type ((cs.drop f.offset).take (P.cellsOf f.type)) = xs[i]?) →
      (full = true → ∀ n ∈ DataW.weightsEach P (fl.map (·.type)) (xs.map (·.1)), n ≤ reachBytes) → s.met w full (cs.drop off) (Rows.uptoBulkAll (xs.map (·.1)) + 1)
  | [], off, s, xs, hs, hl, hx, hw => by
    unfold fieldsOf at hs
    split at hs
    · rename_i ho
      obtain rfl : xs = [] := List.eq_nil_of_length_eq_zero hl
      cases hs
      exact ⟨by simp [ho], rfl⟩
    · cases hs
  | f :: r, off, s, [], hs, hl, hx, hw => by simp at hl
  | f :: r, off, s, x :: xs, hs, hl, hx, hw => by
    unfold fieldsOf at hs
    split at hs
    case isFalse => cases hs
    rename_i ho
    obtain ⟨s1, h1, h2⟩ := Option.bind_eq_some_iff.1 hs
    obtain ⟨q, h3, rfl⟩ := Option.map_eq_some_iff.1 h2
    have k0 := hx 0 f rfl
    refine ⟨Rows.uptoBulk x.1, Rows.uptoBulkAll (xs.map (·.1)) + 1, ?_, ?_, ?_⟩
    · simp only [List.map_cons, Rows.uptoBulkAll]; omega
    · rw [ho] at k0
      refine hg f.type s1 h1 _ x.1 x.2 k0 fun hf n hn => hw hf n ?_
      simp only [List.map_cons, DataW.weightsEach, List.mem_append]
      exact .inl hn
    · have := fields_met hg r (off + P.cellsOf f.type) q xs h3 (by simpa using hl) (fun i f' hf => hx (i + 1) f' hf) (fun hf n hn => hw hf n (by
        simp only [List.map_cons, DataW.weightsEach, List.mem_append]; exact .inr hn))
      rw [List.drop_drop]
      exact this
theorem rep_met {c : Nat} {s : Sh} {cs : List Value} {m : Nat} {e : TypeId}
    (hg : ∀ cs' d ps, DataW.trod enc P w 0 (fun _ => true) true m e cs' = some (d, ps) → (full = true → ∀ n ∈ d.weights P e, n ≤ reachBytes) → s.met w full cs' (Rows.uptoBulk d)) :
    ∀ (k i0 : Nat) (xs : List (DataW H × List MemPlace)), cs.length = (i0 + k) * c → xs.length = k →
      (∀ i, i < k → DataW.trod enc P w 0 (fun _ => true) true m e ((cs.drop ((i0 + i) * c)).take c) = xs[i]?) →
      (full = true → ∀ n ∈ DataW.weightsAll P e (xs.map (·.1)), n ≤ reachBytes) → (Sh.rep c s k).met w full (cs.drop (i0 * c)) (Rows.uptoBulkAll (xs.map (·.1)) + 1)
  | 0, i0, xs, hc, hl, hx, hw => by
    obtain rfl : xs = [] := List.eq_nil_of_length_eq_zero hl
    exact ⟨by simp [hc], rfl⟩
  | k + 1, i0, [], hc, hl, hx, hw => by simp at hl
  | k + 1, i0, x :: xs, hc, hl, hx, hw => by
    refine ⟨Rows.uptoBulk x.1, Rows.uptoBulkAll (xs.map (·.1)) + 1, ?_, ?_, ?_⟩
    · simp only [List.map_cons, Rows.uptoBulkAll]; omega
    · refine hg _ x.1 x.2 (hx 0 (by omega)) fun hf n hn => hw hf n ?_
      simp only [List.map_cons, DataW.weightsAll, List.mem_append]
      exact .inl hn
    · have := rep_met hg k (i0 + 1) xs (by rw [hc]; congr 1; omega) (by simpa using hl) (fun i hi => by
        have := hx (i + 1) (by omega)
        rw [show i0 + (i + 1) = i0 + 1 + i by omega] at this
        simpa using this) (fun hf n hn => hw hf n (by
        simp only [List.map_cons, DataW.weightsAll, List.mem_append]; exact .inr hn))
      rw [List.drop_drop]
      rw [show i0 * c + c = (i0 + 1) * c by rw [Nat.add_mul]; omega]
      exact this
theorem met_of_trod : ∀ (f : Nat) (t : TypeId) (s : Sh), shapeOf P f t = some s → ∀ (fuel : Nat) (cs : List Value) (d : DataW H) (ps : List MemPlace),
    DataW.trod enc P w 0 (fun _ => true) true fuel t cs = some (d, ps) → (full = true → ∀ n ∈ d.weights P t, n ≤ reachBytes) → s.met w full cs (Rows.uptoBulk d)
  | 0, t, s, hs, _, _, _, _, _, _ => by cases hs
  | f + 1, t, s, hs, fuel, cs, d, ps, h, hw => by
    unfold shapeOf at hs
    split at hs
    · rename_i hu
      cases hs
      obtain ⟨b, rfl, hx⟩ := DataW.trod_bool hu h
      cases hx
      exact ⟨rfl, b, rfl⟩
    · rename_i k hu
      cases hs
      obtain ⟨z, rfl, hx, hz⟩ := DataW.trod_int hu h
      cases hx
      exact ⟨rfl, z, rfl, hz⟩
    · rename_i hu
      cases hs
      obtain ⟨b, rfl, hx, hz⟩ := DataW.trod_string hu h
      cases hx
      have hb : b.data.toList.length = b.size := Array.length_toList
      refine ⟨b, rfl, by simp only [Rows.uptoBulk]; rw [hb], hz, fun hf => ?_⟩
      have := hw hf b.data.toList.length (by simp only [DataW.weights]; exact List.mem_singleton.2 rfl)
      rw [hb] at this
      exact this
    · rename_i e hu
      obtain ⟨s1, h1, rfl⟩ := Option.map_eq_some_iff.1 hs
      rcases Go.Deep.open_slice hu h with ⟨rfl, hx⟩ | ⟨a, len, cap, m, n, D, Pl, rfl, _, hl, hm, hmm, hx, hel⟩
      · cases hx
        exact .inl ⟨by simp [Rows.uptoBulk], rfl⟩
      · simp only [if_true] at hmm
        subst hmm
        cases hx
        have hall : (List.range len).map D ++ (List.range (m - len)).map (fun j => D (len + j)) = (List.range m).map D := by
          have e1 : m = len + (m - len) := by omega
          conv => rhs; rw [e1, List.range_add]
          simp [List.map_append, Function.comp_def]
        have hD : ∀ i, i < m → D i ∈ (List.range len).map D ∨ D i ∈ (List.range (m - len)).map (fun j => D (len + j)) := by
          intro i hi
          have : D i ∈ (List.range m).map D := List.mem_map.2 ⟨i, List.mem_range.2 hi, rfl⟩
          rw [← hall] at this
          exact List.mem_append.1 this
        have each : ∀ i, i < m → ∃ c : List Value, c.length = P.cellsOf e ∧ (∀ j, j < P.cellsOf e → w.cell? (a.add (i * P.cellsOf e + j)) = c[j]?) ∧ s1.met w full c (Rows.uptoBulk (D i)) := by
          intro i hi
          obtain ⟨c, g1, g2⟩ := hel i hi
          obtain ⟨_, g3, g4⟩ := World.cells?_some g1
          refine ⟨c, g3, fun j hj => ?_, met_of_trod f e s1 h1 n c (D i) (Pl i) g2 fun hf k hk => hw hf k ?_⟩
          · rw [← g4 j hj, Go.Deep.add_add]
          · simp only [DataW.weights, hu, List.mem_cons, List.mem_append]
            rcases hD i hi with q | q
            · exact .inr (.inl (weights_all hk q))
            · exact .inr (.inr (weights_all hk q))
        obtain ⟨C, hC⟩ := Go.Deep.choose_lt each
        refine .inr ⟨a, len, m, fun i => Rows.uptoBulk (D i), C, rfl, ?_, hl, hm, fun hf => ?_, hC⟩
        · simp only [Rows.uptoBulk]
          rw [← bulkAll_append, hall, bulkAll_range]
        · have := hw hf ((((List.range len).map D).length + ((List.range (m - len)).map (fun j => D (len + j))).length) * P.bytesOf e) (by
            simp only [DataW.weights, hu]; exact List.mem_cons_self)
          simp only [List.length_map, List.length_range] at this
          rw [show len + (m - len) = m by omega] at this
          exact this
    · rename_i fs hu
      obtain ⟨xs, n, hn, hx, hcl, hxl, hf⟩ := DataW.trod_struct hu h
      cases hx
      rw [← hcl] at hs
      have := fields_met (enc := enc) (P := P) (w := w) (full := full) (cs := cs) (m := n) (fun t' s' h' cs' d' ps' => met_of_trod f t' s' h' n cs' d' ps') fs.toList 0 s xs hs (by simpa using hxl) (fun i f' hf' => hf i f' (by simpa using hf')) (fun hfu k hk => hw hfu k (by simp only [DataW.weights, hu]; exact hk))
      simpa [Rows.uptoBulk] using this
    · rename_i n e hu
      split at hs
      case isFalse => cases hs
      rename_i hc
      obtain ⟨s1, h1, rfl⟩ := Option.map_eq_some_iff.1 hs
      obtain ⟨xs, m, hm, hx, hcl, hxl, hf⟩ := DataW.trod_array hu h
      cases hx
      have := rep_met (enc := enc) (P := P) (w := w) (full := full) (c := P.cellsOf e) (s := s1) (cs := cs) (m := m) (e := e) (fun cs' d' ps' => met_of_trod f e s1 h1 m cs' d' ps') n 0 xs (by rw [hcl, hc]; simp) hxl (fun i hi => by simpa using hf i hi) (fun hfu k hk => hw hfu k (by simp only [DataW.weights, hu]; exact hk))
      simpa [Rows.uptoBulk] using this
    · cases hs
/-- an argument -/
def Sh.shown (w : World) (full : Bool) (s : Sh) (v : Value) (n : Nat) : Prop := match s.agg with
  | true => ∃ cs, v = .agg cs ∧ s.met w full cs.toList n
  | false => s.met w full [v] n
theorem fields_agg {g : TypeId → Option Sh} {top : Nat} : ∀ {fl : List Field} {off : Nat} {s : Sh}, fieldsOf P g top off fl = some s → s.agg = true
  | [], off, s, h => by
    unfold fieldsOf at h
    split at h
    · cases h; rfl
    · cases h
  | f :: r, off, s, h => by
    unfold fieldsOf at h
    split at h
    · obtain ⟨s1, h1, h2⟩ := Option.bind_eq_some_iff.1 h
      obtain ⟨q, h3, rfl⟩ := Option.map_eq_some_iff.1 h2
      rfl
    · cases h
theorem rep_agg (c : Nat) (s : Sh) (n : Nat) : (Sh.rep c s n).agg = true := by
  cases n with
  | zero => rfl
  | succ n => rfl
theorem shown_agg {s : Sh} {cs : Array Value} {n : Nat} (hs : s.agg = true) (h : s.met w full cs.toList n) : s.shown w full (.agg cs) n := by
  unfold Sh.shown
  rw [hs]
  exact ⟨cs, rfl, h⟩
theorem shown_of {f : Nat} {t : TypeId} {s : Sh} (hs : shapeOf P f t = some s) {r : Reach} {base : Nat} {v : Value} {d : DataW H} {ps : List MemPlace} (hv : Value.okWide P w r base t v)
    (h : DataW.Trod enc P w 0 (fun _ => true) true t v d ps) (hw : full = true → ∀ n ∈ d.weights P t, n ≤ reachBytes) : s.shown w full v (Rows.uptoBulk d) := by
  obtain ⟨fuel, hf⟩ := h
  have hm := met_of_trod (full := full) f t s hs fuel _ d ps hf hw
  cases f with
  | zero => cases hs
  | succ f =>
    unfold shapeOf at hs
    split at hs
    · rename_i hu
      cases hs
      obtain ⟨b, rfl⟩ := okWide_bool hu hv
      exact hm
    · rename_i k hu
      cases hs
      obtain ⟨z, rfl⟩ := okWide_int hu hv
      exact hm
    · rename_i hu
      cases hs
      obtain ⟨z, rfl⟩ := okWide_string hu hv
      exact hm
    · rename_i e hu
      obtain ⟨s1, h1, rfl⟩ := Option.map_eq_some_iff.1 hs
      obtain ⟨a, l, c, rfl⟩ := okWide_slice hu hv
      exact hm
    · rename_i fs hu
      obtain ⟨cs, rfl, _⟩ := okWide_struct hu hv
      exact shown_agg (fields_agg hs) hm
    · rename_i n e hu
      split at hs
      case isFalse => cases hs
      obtain ⟨s1, h1, rfl⟩ := Option.map_eq_some_iff.1 hs
      have hv2 := hv
      simp only [Value.okWide, hu] at hv2
      obtain ⟨cs, rfl, _⟩ := hv2
      exact shown_agg (rep_agg _ _ _) hm
    · cases hs
end
end

section
theorem sumN_le {F : Nat → Nat} {n : Nat} (h : ∀ i, i < n → 1 ≤ F i) : n ≤ sumN F n := by
  induction n with
  | zero => exact Nat.le_refl _
  | succ n ih =>
    have h1 := ih (fun i hi => h i (by omega))
    have h2 := h n (by omega)
    simp only [sumN]; omega
/-- a slice of numbers of one kind: its cells -/
theorem met_ints {w : World} {full : Bool} {k : IntKind} {b n : Nat} {cs : List Value} (h : (Sh.slice 1 b (.int k)).met w full cs n) :
    ∃ a len cap zs, cs = [.slice a len cap] ∧ ((a = none ∧ len = 0 ∧ cap = 0 ∧ zs = []) ∨ ∃ x, a = some x ∧ len ≤ cap ∧ cap ≤ maxLen ∧ zs.length = cap ∧ (∀ i, i < zs.length → w.cell? (x.add i) = some (.int k (zs.getD i 0))) ∧ ∀ n ∈ zs, (Lit.int k n).wf = true) ∧
      (full = true → cap * b ≤ reachBytes) ∧ cap + 1 ≤ n := by
  rcases h with ⟨rfl, rfl⟩ | ⟨x, len, cap, F, C, rfl, rfl, hl, hm, hf, hc⟩
  · exact ⟨none, 0, 0, [], rfl, .inl ⟨rfl, rfl, rfl, rfl⟩, fun _ => by rw [Nat.zero_mul]; exact Nat.zero_le _, Nat.le_refl _⟩
  · have each : ∀ i, i < cap → ∃ z : Int, w.cell? (x.add i) = some (.int k z) ∧ (Lit.int k z).wf = true ∧ F i = 1 := by
      intro i hi
      obtain ⟨h1, h2, h3, z, h4, h5⟩ := hc i hi
      have := h2 0 (by omega)
      rw [h4] at this
      rw [Nat.mul_one, Nat.add_zero] at this
      exact ⟨z, this, h5, h3⟩
    obtain ⟨Z, hZ⟩ := Go.Deep.choose_lt each
    have hget : ∀ i, i < cap → ((List.range cap).map Z).getD i 0 = Z i := by
      intro i hi
      rw [List.getD_eq_getElem?_getD, List.getElem?_map, List.getElem?_range hi]; rfl
    refine ⟨some x, len, cap, (List.range cap).map Z, rfl, .inr ⟨x, rfl, hl, hm, by simp, fun i hi => ?_, fun z hz => ?_⟩, hf, ?_⟩
    · have hi' : i < cap := by simpa using hi
      rw [hget i hi']
      exact (hZ i hi').1
    · obtain ⟨i, hi, rfl⟩ := List.mem_map.1 hz
      exact (hZ i (List.mem_range.1 hi)).2.1
    · have := sumN_le (F := F) (n := cap) (fun i hi => by rw [(hZ i hi).2.2]; exact Nat.le_refl _)
      omega
/-- a slice of bytes -/
theorem met_bytes {w : World} {full : Bool} {n : Nat} {cs : List Value} (h : (Sh.slice 1 1 (.int .u8)).met w full cs n) :
    ∃ a len cap L, cs = [.slice a len cap] ∧ Rd w a len cap L ∧ (full = true → cap ≤ 140737488351232) ∧ cap + 1 ≤ n := by
  obtain ⟨a, len, cap, zs, rfl, hr, hf, hn⟩ := met_ints h
  obtain ⟨L, hL, _⟩ := rd_of_row hr
  exact ⟨a, len, cap, L, rfl, hL, fun h => by have := hf h; unfold reachBytes at this; omega, hn⟩
end

section
theorem shown_rule {w : World} {full : Bool} {n : Nat} {v : Value} (h : (Sh.fcons 1 (.int .i64) (.fcons 1 (.int .i64) (.fcons 1 (.int .i64) (.fcons 1 (.int .i64) .fend)))).shown w full v n) :
    ∃ L F H M : Int, v = .agg #[.int .i64 L, .int .i64 F, .int .i64 H, .int .i64 M] ∧ (-9223372036854775808 ≤ L ∧ L ≤ 9223372036854775807) ∧ (-9223372036854775808 ≤ F ∧ F ≤ 9223372036854775807) ∧ (-9223372036854775808 ≤ H ∧ H ≤ 9223372036854775807) ∧ (-9223372036854775808 ≤ M ∧ M ≤ 9223372036854775807) := by
  obtain ⟨cs, rfl, n0, m0, rfl, ⟨_, L, e0, k0⟩, n1, m1, rfl, ⟨_, F, e1, k1⟩, n2, m2, rfl, ⟨_, H, e2, k2⟩, n3, m3, rfl, ⟨_, M, e3, k3⟩, e4, _⟩ := h
  refine ⟨L, F, H, M, ?_, bounds_i64 k0, bounds_i64 k1, bounds_i64 k2, bounds_i64 k3⟩
  congr 1
  match cs with
  | ⟨[]⟩ => simp at e0
  | ⟨[_]⟩ => simp at e1
  | ⟨[_, _]⟩ => simp at e2
  | ⟨[_, _, _]⟩ => simp at e3
  | ⟨[x0, x1, x2, x3]⟩ => simp_all
  | ⟨x0 :: x1 :: x2 :: x3 :: x4 :: r⟩ => simp at e4
end
end Go.Proofs.Ythdjpbfknbafgaa
