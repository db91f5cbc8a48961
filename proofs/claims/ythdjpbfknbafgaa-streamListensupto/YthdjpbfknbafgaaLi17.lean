import Derived.Deep.LoopGhost
import Derived.Test.YthdjpbfknbafgaaLi16
namespace Go.Proofs.Ythdjpbfknbafgaa
open Go.RowKit
set_option maxRecDepth 100000
set_option linter.unusedVariables false
set_option linter.unusedSimpArgs false

section
open Go.RowKit Go.Shelf
attribute [local go_sem] Oper.semAt_some

theorem RdF.keep {w w2 : World} {a : Option Addr} {n c : Nat} {ys : List Fy} (h : RdF w a n c ys) (hg : w.grownBy w2 none) : RdF w2 a n c ys :=
  ⟨h.len, h.max, fun h0 => by
    obtain ⟨g, o, e, hc⟩ := h.at' h0
    exact ⟨g, o, e, fun j y hy => ⟨cellGS (hc j y hy).1 hg, cellGS (hc j y hy).2.1 hg, cellGS (hc j y hy).2.2.1 hg, cellGS (hc j y hy).2.2.2 hg⟩⟩, fun y hy => (h.dat y hy).keep hg⟩
set_option maxHeartbeats 16000000 in
theorem sl_21 {u0 u2 u3 u4 u6 u10 u11 u12 u17 u18 u19 u20 u21 u22 u23 u24 u25 u26 u27 u28 u29 u30 u31 u32 u33 u34 u35 u36 u37 u38 u39 u40 u41 u42 u43 u44 u45 u46 u47 u48 u49 u50 u51 u52 u53 u54 u55 u56 u57 u58 u59 u60 u61 u62 u63 u64 u65 u66 u67 u68 u69 u70 u71 u72 u73 u74 u75 u76 u77 u78 u79 u80 u81 u82 u83 u84 u85 u86 u87 u88 u89 u90 u91 u92 u93 u94 u95 u96 u97 u98 u99 u100 u101 u102 u103 u104 u105 u106 u107 u108 u109 u110 u111 u112 u113 u114 u115 u116 u117 u118 u119 u120 u121 u122 u123 u124 : Value} {Q : Exit → Act → World → Prop} (W : World) (bp po np cp g5 c5 g7 c7 g8 c8 g9 c9 n i no co n7 k7 n8 k8 gc m cap : Nat) (ao v7 v8 a : Option Addr) (bb : Bool) (B D : List Nat) (ys y7 y8 : List Fy) (hi : i < np) (hnp : np ≤ 4000000000000)
    (hmm : m ≤ 4194304) (x7 : W.cell? ⟨g7, i, none⟩ = some (.slice v7 n7 k7)) (r7 : RdF W v7 n7 k7 y7) (x8 : W.cell? ⟨g8, i, none⟩ = some (.slice v8 n8 k8)) (r8 : RdF W v8 n8 k8 y8) (x9 : W.cell? ⟨g9, i, none⟩ = some (.bool bb)) (x5 : W.cell? ⟨g5, i, none⟩ = some (.slice (some ⟨gc, 0, none⟩) m (m + 5))) (hD : Roomy W gc m B D) (x1 : W.cell? ⟨bp, po + i, none⟩ = some (.slice a m cap)) (hR : Rd W a m cap B)
    (hS : RdF W ao no co ys) (hco : no ≤ co) (hn : n ≤ no) (e7 : y7.map (fun y => absF y.1) = (ys.drop n).map (fun y => absF y.1)) (e8 : y8.map (fun y => absF y.1) = (ys.drop n).map (fun y => absF y.1)) (gs : Nat) (ha : ao = some ⟨gs, 0, none⟩) (hlt : n < co)
    (hPa : ∀ c a a' w, a.defers = a'.defers → Q (.panic c) a w → Q (.panic c) a' w)
    (hQ : ∀ W' {z83 z84 z85 z86 z87 z88 z89 z90 z91 z92 z93 z94 z95 z96 z97 z98 z99 z100 z101 z102 z103 z104 z105 z106 z107 z108 z109 z110 z111 z112 z113 z114 z115 z116 z117 z118 z119 z120 z121 z122 z123 z124 : Value}, W.grownBy W' none → Q .normal (Act.mk (List.toArray (u0 :: (.slice (some ⟨bp, po, none⟩) np cp) :: u2 :: u3 :: u4 :: (.slice (some ⟨g5, 0, none⟩) np c5) :: u6 :: (.slice (some ⟨g7, 0, none⟩) np c7) :: (.slice (some ⟨g8, 0, none⟩) np c8) :: (.slice (some ⟨g9, 0, none⟩) np c9) :: u10 :: u11 :: u12 :: (.int .i64 (no : Nat)) :: (.int .i64 (i : Nat)) :: (.slice ao no co) :: (.bool bb) :: u17 :: u18 :: u19 :: u20 :: u21 :: u22 :: u23 :: u24 :: u25 :: u26 :: u27 :: u28 :: u29 :: u30 :: u31 :: u32 :: u33 :: u34 :: u35 :: u36 :: u37 :: u38 :: u39 :: u40 :: u41 :: u42 :: u43 :: u44 :: u45 :: u46 :: u47 :: u48 :: u49 :: u50 :: u51 :: u52 :: u53 :: u54 :: u55 :: u56 :: u57 :: u58 :: u59 :: u60 :: u61 :: u62 :: u63 :: u64 :: u65 :: u66 :: u67 :: u68 :: u69 :: u70 :: u71 :: u72 :: u73 :: u74 :: u75 :: u76 :: u77 :: u78 :: u79 :: u80 :: u81 :: u82 :: z83 :: z84 :: z85 :: z86 :: z87 :: z88 :: z89 :: z90 :: z91 :: z92 :: z93 :: z94 :: z95 :: z96 :: z97 :: z98 :: z99 :: z100 :: z101 :: z102 :: z103 :: z104 :: z105 :: z106 :: z107 :: z108 :: z109 :: z110 :: z111 :: z112 :: z113 :: z114 :: z115 :: z116 :: z117 :: z118 :: z119 :: z120 :: z121 :: z122 :: z123 :: z124 :: [])) []) W') :
    Code.wp Try.prog (tailR 21 (Try.f3.body.getD .skip)) Q (Act.mk (List.toArray (u0 :: (.slice (some ⟨bp, po, none⟩) np cp) :: u2 :: u3 :: u4 :: (.slice (some ⟨g5, 0, none⟩) np c5) :: u6 :: (.slice (some ⟨g7, 0, none⟩) np c7) :: (.slice (some ⟨g8, 0, none⟩) np c8) :: (.slice (some ⟨g9, 0, none⟩) np c9) :: u10 :: u11 :: u12 :: (.int .i64 (n : Nat)) :: (.int .i64 (i : Nat)) :: (.slice ao no co) :: (.bool bb) :: u17 :: u18 :: u19 :: u20 :: u21 :: u22 :: u23 :: u24 :: u25 :: u26 :: u27 :: u28 :: u29 :: u30 :: u31 :: u32 :: u33 :: u34 :: u35 :: u36 :: u37 :: u38 :: u39 :: u40 :: u41 :: u42 :: u43 :: u44 :: u45 :: u46 :: u47 :: u48 :: u49 :: u50 :: u51 :: u52 :: u53 :: u54 :: u55 :: u56 :: u57 :: u58 :: u59 :: u60 :: u61 :: u62 :: u63 :: u64 :: u65 :: u66 :: u67 :: u68 :: u69 :: u70 :: u71 :: u72 :: u73 :: u74 :: u75 :: u76 :: u77 :: u78 :: u79 :: u80 :: u81 :: u82 :: u83 :: u84 :: u85 :: u86 :: u87 :: u88 :: u89 :: u90 :: u91 :: u92 :: u93 :: u94 :: u95 :: u96 :: u97 :: u98 :: u99 :: u100 :: u101 :: u102 :: u103 :: u104 :: u105 :: u106 :: u107 :: u108 :: u109 :: u110 :: u111 :: u112 :: u113 :: u114 :: u115 :: u116 :: u117 :: u118 :: u119 :: u120 :: u121 :: u122 :: u123 :: u124 :: [])) []) W := by
  have HQ : Hid _ := @hQ
  clear hQ
  have hil : (i : Int) < (np : Int) := by omega
  have hni : (n : Int) ≤ (no : Int) := by omega
  have hnc : (n : Int) ≤ (co : Int) := by omega
  have hnc2 : (n : Int) < (co : Int) := by omega
  have hnc3 : ¬ co = n := by omega
  subst ha
  have G0 := grown_drew W none
  replace x7 := cellGS x7 G0
  replace x8 := cellGS x8 G0
  replace x9 := cellGS x9 G0
  replace x5 := cellGS x5 G0
  replace x1 := cellGS x1 G0
  replace r7 := r7.keep G0
  replace r8 := r8.keep G0
  replace hS := hS.keep G0
  replace hD := hD.keep G0
  replace hR := hR.keep G0
  have RS := hS.drop (k := n) (a' := some ⟨gs, n * 4, none⟩) hn (fun g o e => by cases e; rw [Nat.zero_add]) (co - n)
  obtain ⟨zs, hzs⟩ : ∃ zs, ys.drop n = zs := ⟨_, rfl⟩
  rw [hzs] at RS e7 e8
  clear hzs hS
  obtain ⟨sn, hsn⟩ : ∃ sn, no - n = sn := ⟨_, rfl⟩
  obtain ⟨sc, hsc⟩ : ∃ sc, co - n = sc := ⟨_, rfl⟩
  obtain ⟨so, hso⟩ : ∃ so, n * 4 = so := ⟨_, rfl⟩
  rw [hsn, hsc, hso] at RS
  have E7 : Hid _ := e7
  have E8 : Hid _ := e8
  have RS0 : Hid _ := RS
  clear e7 e8
  conv => enter [2]; whnf
  refine wp_seq_k fun K21 hK21 => ?_
  have HK21 : Hid _ := hK21
  clear hK21
  refine wp_seq_k fun K22 hK22 => ?_
  have HK22 : Hid _ := hK22
  clear hK22
  have SS : W.drew.grownBy W.drew none := World.grownBy.refl _ _
  refine wp_regionM (fun wz => W.drew.grownBy wz none) [] #[false, false, false, false, false, false, false, false, false, false, false, false, false, false, false, false, false, false, false, false, false, false, false, false, false, false, false, false, false, false, false, false, false, false, false, false, false, false, false, false] rfl (by kernel_rfl) ?_
  generalize W.drew = wd at *
  refine wpAnyY_takeF 0 (.slice (some ⟨g7, 0, none⟩) np c7) rfl (by kernel_rfl) (fun _ _ _ h => hPa _ _ _ _ (by rfl) h) rfl (by intro wz; go_simp; try rfl) ?_
  try simp only [List.getElem_toArray, List.getElem_cons_succ, List.getElem_cons_zero, Act.put, List.setIfInBounds_toArray, List.set_cons_zero, List.set_cons_succ]
  refine wpAnyY_takeF 1 (.int .i64 (i : Nat)) rfl (by kernel_rfl) (fun _ _ _ h => hPa _ _ _ _ (by rfl) h) rfl (by intro wz; go_simp; try rfl) ?_
  try simp only [List.getElem_toArray, List.getElem_cons_succ, List.getElem_cons_zero, Act.put, List.setIfInBounds_toArray, List.set_cons_zero, List.set_cons_succ]
  refine wpAnyY_takeF 2 (.pointer (some ⟨g7, i, none⟩)) rfl (by kernel_rfl) (fun _ _ _ h => hPa _ _ _ _ (by rfl) h) rfl (by intro wz; go_simp; try rfl) ?_
  try simp only [List.getElem_toArray, List.getElem_cons_succ, List.getElem_cons_zero, Act.put, List.setIfInBounds_toArray, List.set_cons_zero, List.set_cons_succ]
  refine wpAnyY_take [] 3 (.slice v7 n7 k7) rfl (by kernel_rfl) (fun _ _ _ h => hPa _ _ _ _ (by rfl) h) SS rfl (by intro wz hz; have z := cellGS x7 hz; go_simp) ?_
  try simp only [List.getElem_toArray, List.getElem_cons_succ, List.getElem_cons_zero, Act.put, List.setIfInBounds_toArray, List.set_cons_zero, List.set_cons_succ]
  refine wpAnyY_takeF 4 (.slice (some ⟨gs, 0, none⟩) no co) rfl (by kernel_rfl) (fun _ _ _ h => hPa _ _ _ _ (by rfl) h) rfl (by intro wz; go_simp; try rfl) ?_
  try simp only [List.getElem_toArray, List.getElem_cons_succ, List.getElem_cons_zero, Act.put, List.setIfInBounds_toArray, List.set_cons_zero, List.set_cons_succ]
  refine wpAnyY_takeF 5 (.int .i64 (n : Nat)) rfl (by kernel_rfl) (fun _ _ _ h => hPa _ _ _ _ (by rfl) h) rfl (by intro wz; go_simp; try rfl) ?_
  try simp only [List.getElem_toArray, List.getElem_cons_succ, List.getElem_cons_zero, Act.put, List.setIfInBounds_toArray, List.set_cons_zero, List.set_cons_succ]
  refine wpAnyY_takeF 6 (.slice (some ⟨gs, so, none⟩) sn sc) rfl (by kernel_rfl) (fun _ _ _ h => hPa _ _ _ _ (by rfl) h) rfl (by intro wz; go_simp; try rfl) ?_
  try simp only [List.getElem_toArray, List.getElem_cons_succ, List.getElem_cons_zero, Act.put, List.setIfInBounds_toArray, List.set_cons_zero, List.set_cons_succ]
  refine wpAnyY_oneB 7 rfl (by kernel_rfl) (fun KK hKK => ?_)
  go_simp
  go_at_call 11
  refine (sameFound_any v7 (some ⟨gs, so, none⟩) n7 k7 sn sc y7 zs wd r7 RS E7.out).mono ?_
  rintro e wa ⟨rfl, g_wa⟩
  dsimp only
  refine hKK _ _ (fun h _ => grown_trans h g_wa) ?_
  try simp only [List.getElem_toArray, List.getElem_cons_succ, List.getElem_cons_zero, Act.put, List.setIfInBounds_toArray, List.set_cons_zero, List.set_cons_succ]
  have SS := g_wa
  refine wpAnyY_takeF 8 (.bool false) rfl (by kernel_rfl) (fun _ _ _ h => hPa _ _ _ _ (by rfl) h) rfl (by intro wz; go_simp; try rfl) ?_
  try simp only [List.getElem_toArray, List.getElem_cons_succ, List.getElem_cons_zero, Act.put, List.setIfInBounds_toArray, List.set_cons_zero, List.set_cons_succ]
  refine wpAnyY_takeF 9 (.bool false) rfl (by kernel_rfl) (fun _ _ _ h => hPa _ _ _ _ (by rfl) h) rfl (by intro wz; go_simp; try rfl) ?_
  try simp only [List.getElem_toArray, List.getElem_cons_succ, List.getElem_cons_zero, Act.put, List.setIfInBounds_toArray, List.set_cons_zero, List.set_cons_succ]
  refine wpAnyY_takeF 10 (.slice (some ⟨g8, 0, none⟩) np c8) rfl (by kernel_rfl) (fun _ _ _ h => hPa _ _ _ _ (by rfl) h) rfl (by intro wz; go_simp; try rfl) ?_
  try simp only [List.getElem_toArray, List.getElem_cons_succ, List.getElem_cons_zero, Act.put, List.setIfInBounds_toArray, List.set_cons_zero, List.set_cons_succ]
  refine wpAnyY_takeF 11 (.int .i64 (i : Nat)) rfl (by kernel_rfl) (fun _ _ _ h => hPa _ _ _ _ (by rfl) h) rfl (by intro wz; go_simp; try rfl) ?_
  try simp only [List.getElem_toArray, List.getElem_cons_succ, List.getElem_cons_zero, Act.put, List.setIfInBounds_toArray, List.set_cons_zero, List.set_cons_succ]
  refine wpAnyY_takeF 12 (.pointer (some ⟨g8, i, none⟩)) rfl (by kernel_rfl) (fun _ _ _ h => hPa _ _ _ _ (by rfl) h) rfl (by intro wz; go_simp; try rfl) ?_
  try simp only [List.getElem_toArray, List.getElem_cons_succ, List.getElem_cons_zero, Act.put, List.setIfInBounds_toArray, List.set_cons_zero, List.set_cons_succ]
  refine wpAnyY_take [] 13 (.slice v8 n8 k8) rfl (by kernel_rfl) (fun _ _ _ h => hPa _ _ _ _ (by rfl) h) SS rfl (by intro wz hz; have z := cellGS x8 hz; go_simp) ?_
  try simp only [List.getElem_toArray, List.getElem_cons_succ, List.getElem_cons_zero, Act.put, List.setIfInBounds_toArray, List.set_cons_zero, List.set_cons_succ]
  refine wpAnyY_takeF 14 (.slice (some ⟨gs, 0, none⟩) no co) rfl (by kernel_rfl) (fun _ _ _ h => hPa _ _ _ _ (by rfl) h) rfl (by intro wz; go_simp; try rfl) ?_
  try simp only [List.getElem_toArray, List.getElem_cons_succ, List.getElem_cons_zero, Act.put, List.setIfInBounds_toArray, List.set_cons_zero, List.set_cons_succ]
  refine wpAnyY_takeF 15 (.int .i64 (n : Nat)) rfl (by kernel_rfl) (fun _ _ _ h => hPa _ _ _ _ (by rfl) h) rfl (by intro wz; go_simp; try rfl) ?_
  try simp only [List.getElem_toArray, List.getElem_cons_succ, List.getElem_cons_zero, Act.put, List.setIfInBounds_toArray, List.set_cons_zero, List.set_cons_succ]
  refine wpAnyY_takeF 16 (.slice (some ⟨gs, so, none⟩) sn sc) rfl (by kernel_rfl) (fun _ _ _ h => hPa _ _ _ _ (by rfl) h) rfl (by intro wz; go_simp; try rfl) ?_
  try simp only [List.getElem_toArray, List.getElem_cons_succ, List.getElem_cons_zero, Act.put, List.setIfInBounds_toArray, List.set_cons_zero, List.set_cons_succ]
  have r8 := r8.keep g_wa
  have RS := RS.keep g_wa
  refine wpAnyY_oneB 17 rfl (by kernel_rfl) (fun KK hKK => ?_)
  go_simp
  go_at_call 11
  refine (sameFound_any v8 (some ⟨gs, so, none⟩) n8 k8 sn sc y8 zs wa r8 RS E8.out).mono ?_
  rintro e wb ⟨rfl, g_wb⟩
  dsimp only
  refine hKK _ _ (fun h _ => grown_trans h g_wb) ?_
  try simp only [List.getElem_toArray, List.getElem_cons_succ, List.getElem_cons_zero, Act.put, List.setIfInBounds_toArray, List.set_cons_zero, List.set_cons_succ]
  have SS := grown_trans g_wa g_wb
  refine wpAnyY_takeF 18 (.bool false) rfl (by kernel_rfl) (fun _ _ _ h => hPa _ _ _ _ (by rfl) h) rfl (by intro wz; go_simp; try rfl) ?_
  try simp only [List.getElem_toArray, List.getElem_cons_succ, List.getElem_cons_zero, Act.put, List.setIfInBounds_toArray, List.set_cons_zero, List.set_cons_succ]
  refine wpAnyY_takeF 19 (.bool false) rfl (by kernel_rfl) (fun _ _ _ h => hPa _ _ _ _ (by rfl) h) rfl (by intro wz; go_simp; try rfl) ?_
  try simp only [List.getElem_toArray, List.getElem_cons_succ, List.getElem_cons_zero, Act.put, List.setIfInBounds_toArray, List.set_cons_zero, List.set_cons_succ]
  refine wpAnyY_takeF 20 (.bool false) rfl (by kernel_rfl) (fun _ _ _ h => hPa _ _ _ _ (by rfl) h) rfl (by intro wz; go_simp; try rfl) ?_
  try simp only [List.getElem_toArray, List.getElem_cons_succ, List.getElem_cons_zero, Act.put, List.setIfInBounds_toArray, List.set_cons_zero, List.set_cons_succ]
  refine wpAnyY_takeF 21 (.slice (some ⟨g9, 0, none⟩) np c9) rfl (by kernel_rfl) (fun _ _ _ h => hPa _ _ _ _ (by rfl) h) rfl (by intro wz; go_simp; try rfl) ?_
  try simp only [List.getElem_toArray, List.getElem_cons_succ, List.getElem_cons_zero, Act.put, List.setIfInBounds_toArray, List.set_cons_zero, List.set_cons_succ]
  refine wpAnyY_takeF 22 (.int .i64 (i : Nat)) rfl (by kernel_rfl) (fun _ _ _ h => hPa _ _ _ _ (by rfl) h) rfl (by intro wz; go_simp; try rfl) ?_
  try simp only [List.getElem_toArray, List.getElem_cons_succ, List.getElem_cons_zero, Act.put, List.setIfInBounds_toArray, List.set_cons_zero, List.set_cons_succ]
  refine wpAnyY_takeF 23 (.pointer (some ⟨g9, i, none⟩)) rfl (by kernel_rfl) (fun _ _ _ h => hPa _ _ _ _ (by rfl) h) rfl (by intro wz; go_simp; try rfl) ?_
  try simp only [List.getElem_toArray, List.getElem_cons_succ, List.getElem_cons_zero, Act.put, List.setIfInBounds_toArray, List.set_cons_zero, List.set_cons_succ]
  refine wpAnyY_take [] 24 (.bool bb) rfl (by kernel_rfl) (fun _ _ _ h => hPa _ _ _ _ (by rfl) h) SS rfl (by intro wz hz; have z := cellGS x9 hz; go_simp) ?_
  try simp only [List.getElem_toArray, List.getElem_cons_succ, List.getElem_cons_zero, Act.put, List.setIfInBounds_toArray, List.set_cons_zero, List.set_cons_succ]
  refine wpAnyY_takeF 25 (.bool bb) rfl (by kernel_rfl) (fun _ _ _ h => hPa _ _ _ _ (by rfl) h) rfl (by intro wz; go_simp; try rfl) ?_
  try simp only [List.getElem_toArray, List.getElem_cons_succ, List.getElem_cons_zero, Act.put, List.setIfInBounds_toArray, List.set_cons_zero, List.set_cons_succ]
  refine wpAnyY_takeF 26 (.bool false) rfl (by kernel_rfl) (fun _ _ _ h => hPa _ _ _ _ (by rfl) h) rfl (by intro wz; go_simp; try rfl) ?_
  try simp only [List.getElem_toArray, List.getElem_cons_succ, List.getElem_cons_zero, Act.put, List.setIfInBounds_toArray, List.set_cons_zero, List.set_cons_succ]
  refine wpAnyY_takeF 27 (.bool false) rfl (by kernel_rfl) (fun _ _ _ h => hPa _ _ _ _ (by rfl) h) rfl (by intro wz; go_simp; try rfl) ?_
  try simp only [List.getElem_toArray, List.getElem_cons_succ, List.getElem_cons_zero, Act.put, List.setIfInBounds_toArray, List.set_cons_zero, List.set_cons_succ]
  refine wpAnyY_takeF 28 (.bool false) rfl (by kernel_rfl) (fun _ _ _ h => hPa _ _ _ _ (by rfl) h) rfl (by intro wz; go_simp; try rfl) ?_
  try simp only [List.getElem_toArray, List.getElem_cons_succ, List.getElem_cons_zero, Act.put, List.setIfInBounds_toArray, List.set_cons_zero, List.set_cons_succ]
  refine wpAnyY_takeF 29 (.slice (some ⟨g5, 0, none⟩) np c5) rfl (by kernel_rfl) (fun _ _ _ h => hPa _ _ _ _ (by rfl) h) rfl (by intro wz; go_simp; try rfl) ?_
  try simp only [List.getElem_toArray, List.getElem_cons_succ, List.getElem_cons_zero, Act.put, List.setIfInBounds_toArray, List.set_cons_zero, List.set_cons_succ]
  refine wpAnyY_takeF 30 (.int .i64 (i : Nat)) rfl (by kernel_rfl) (fun _ _ _ h => hPa _ _ _ _ (by rfl) h) rfl (by intro wz; go_simp; try rfl) ?_
  try simp only [List.getElem_toArray, List.getElem_cons_succ, List.getElem_cons_zero, Act.put, List.setIfInBounds_toArray, List.set_cons_zero, List.set_cons_succ]
  refine wpAnyY_takeF 31 (.pointer (some ⟨g5, i, none⟩)) rfl (by kernel_rfl) (fun _ _ _ h => hPa _ _ _ _ (by rfl) h) rfl (by intro wz; go_simp; try rfl) ?_
  try simp only [List.getElem_toArray, List.getElem_cons_succ, List.getElem_cons_zero, Act.put, List.setIfInBounds_toArray, List.set_cons_zero, List.set_cons_succ]
  refine wpAnyY_take [] 32 (.slice (some ⟨gc, 0, none⟩) m (m + 5)) rfl (by kernel_rfl) (fun _ _ _ h => hPa _ _ _ _ (by rfl) h) SS rfl (by intro wz hz; have z := cellGS x5 hz; go_simp) ?_
  try simp only [List.getElem_toArray, List.getElem_cons_succ, List.getElem_cons_zero, Act.put, List.setIfInBounds_toArray, List.set_cons_zero, List.set_cons_succ]
  refine wpAnyY_takeF 33 (.slice (some ⟨bp, po, none⟩) np cp) rfl (by kernel_rfl) (fun _ _ _ h => hPa _ _ _ _ (by rfl) h) rfl (by intro wz; go_simp; try rfl) ?_
  try simp only [List.getElem_toArray, List.getElem_cons_succ, List.getElem_cons_zero, Act.put, List.setIfInBounds_toArray, List.set_cons_zero, List.set_cons_succ]
  refine wpAnyY_takeF 34 (.int .i64 (i : Nat)) rfl (by kernel_rfl) (fun _ _ _ h => hPa _ _ _ _ (by rfl) h) rfl (by intro wz; go_simp; try rfl) ?_
  try simp only [List.getElem_toArray, List.getElem_cons_succ, List.getElem_cons_zero, Act.put, List.setIfInBounds_toArray, List.set_cons_zero, List.set_cons_succ]
  refine wpAnyY_takeF 35 (.pointer (some ⟨bp, po + i, none⟩)) rfl (by kernel_rfl) (fun _ _ _ h => hPa _ _ _ _ (by rfl) h) rfl (by intro wz; go_simp; try rfl) ?_
  try simp only [List.getElem_toArray, List.getElem_cons_succ, List.getElem_cons_zero, Act.put, List.setIfInBounds_toArray, List.set_cons_zero, List.set_cons_succ]
  refine wpAnyY_take [] 36 (.slice a m cap) rfl (by kernel_rfl) (fun _ _ _ h => hPa _ _ _ _ (by rfl) h) SS rfl (by intro wz hz; have z := cellGS x1 hz; go_simp) ?_
  try simp only [List.getElem_toArray, List.getElem_cons_succ, List.getElem_cons_zero, Act.put, List.setIfInBounds_toArray, List.set_cons_zero, List.set_cons_succ]
  refine wpAnyY_oneB 37 rfl (by kernel_rfl) (fun KK hKK => ?_)
  go_simp
  go_at_call 12
  refine (left_any gc a m cap B D wb (hD.keep SS) (hR.keep SS) (by omega)).mono ?_
  rintro e wc ⟨rfl, g_wc⟩
  dsimp only
  refine hKK _ _ (fun h _ => grown_trans h g_wc) ?_
  try simp only [List.getElem_toArray, List.getElem_cons_succ, List.getElem_cons_zero, Act.put, List.setIfInBounds_toArray, List.set_cons_zero, List.set_cons_succ]
  refine wpAnyY_takeF 38 (.bool false) rfl (by kernel_rfl) (fun _ _ _ h => hPa _ _ _ _ (by rfl) h) rfl (by intro wz; go_simp; try rfl) ?_
  try simp only [List.getElem_toArray, List.getElem_cons_succ, List.getElem_cons_zero, Act.put, List.setIfInBounds_toArray, List.set_cons_zero, List.set_cons_succ]
  refine wpAnyY_takeF 39 (.bool false) rfl (by kernel_rfl) (fun _ _ _ h => hPa _ _ _ _ (by rfl) h) rfl (by intro wz; go_simp; try rfl) ?_
  try simp only [List.getElem_toArray, List.getElem_cons_succ, List.getElem_cons_zero, Act.put, List.setIfInBounds_toArray, List.set_cons_zero, List.set_cons_succ]
  have G4 := grown_trans SS g_wc
  refine wpAnyY_doneB (by kernel_rfl) ?_ _
  (try simp only [Exit.inBlock, Exit.then])
  refine HK22.out _ _ ?_
  clear HK22
  go_wp2
  (try simp only [Exit.inBlock, Exit.then])
  refine HK21.out _ _ ?_
  clear HK21
  go_wp2
  exact HQ.out wc (grown_trans G0 G4)
end
end Go.Proofs.Ythdjpbfknbafgaa
