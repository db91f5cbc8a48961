import Derived.Deep.LoopGhost
import Derived.Test.YthdjpbfknbafgaaLi13
namespace Go.Proofs.Ythdjpbfknbafgaa
open Go.RowKit
set_option maxRecDepth 100000
set_option linter.unusedVariables false
set_option linter.unusedSimpArgs false

section
open Go.RowKit Go.Shelf
attribute [local go_sem] Oper.semAt_some

/-- what the search has told so far, in memory of its own -/
structure SrO (w0 : World) (g : Nat) (r : Rx) (ao : Option Addr) (no co : Nat) (ys : List Fy) (W : World) : Prop where
  own : W.ownsRow w0.heap.size 42 4 (.slice ao no co) no (flY ys)
  len : ys.length = no
  dat : ∀ y, y ∈ ys → Ans W w0.heap.size y.1.a y.1.n y.2 y.1.D
  frm : Frm (fun _ => False) w0 W
  box : BxS W g 23 #[.int .i64 (r.L : Nat), .int .i64 (r.F : Nat), .int .i64 (r.H : Nat), .int .i64 (r.M : Nat)]
theorem SrO.keepF {w0 W W' : World} {g no co : Nat} {r : Rx} {ao : Option Addr} {ys : List Fy} (h : SrO w0 g r ao no co ys W) (hF : Frm (fun _ => False) W W') : SrO w0 g r ao no co ys W' :=
  ⟨row_frm h.own hF (fun _ _ h => h), h.len, fun y hy => (h.dat y hy).frm hF (fun _ _ h => h), h.frm.trans hF (fun _ _ h => h), (hF.block g (BxS.lt h.box) (fun h => h)).trans h.box⟩
/-- where the search stands -/
def SrI (r : Rx) (B : List Nat) (q : Nat) (lk t : Bool) (m : Nat) (T : List Fa) : Prop := (lk = false ∧ Srch r B q T) ∨ (lk = true ∧ ExW r B q t m T ∧ m ≤ r.M)
theorem tk_told {r : Rx} {B : List Nat} {k : Nat} {s : Mx} {T : List Fa} (h : tkX r s0X B k = (s, T)) (hk : k ≤ B.length) : T.length ≤ B.length := by
  have := tkX_len r s0X B k
  rw [h] at this
  exact Nat.le_trans this hk
theorem SrI.len {r : Rx} {B : List Nat} {q m : Nat} {lk t : Bool} {T : List Fa} (h : SrI r B q lk t m T) : T.length ≤ B.length := by
  rcases h with ⟨_, ⟨_, h⟩ | ⟨e, _, h1, h⟩⟩ | ⟨_, ⟨_, h1, h⟩, _⟩
  · exact tk_told h (Nat.le_refl _)
  · exact tk_told h h1
  · exact tk_told h h1

set_option maxHeartbeats 32000000 in
theorem se_4 {u0 u3 u4 u5 u11 u12 u13 u14 u15 u16 u17 u18 u19 u20 u21 u22 u23 u24 u25 u26 u27 u28 u29 u30 u31 u32 u33 u34 u35 u36 u37 u38 u39 u40 u41 u42 u43 u44 u45 u46 u47 u48 u49 u50 u51 u52 u53 u54 u55 u56 u57 u58 u59 u60 u61 u62 u63 u64 u65 u66 u67 u68 u69 u70 u71 u72 u73 u74 u75 u76 u77 u78 u79 u80 u81 u82 u83 u84 u85 u86 u87 u88 u89 u90 u91 u92 u93 u94 u95 u96 u97 u98 u99 u100 u101 u102 u103 u104 u105 u106 u107 u108 u109 u110 u111 u112 u113 u114 u115 u116 u117 u118 u119 u120 u121 u122 u123 u124 u125 u126 u127 u128 u129 u130 u131 u132 u133 u134 : Value} {Q : Exit → Act → World → Prop} (w0 W : World) (g n c no co q m : Nat) (a ao : Option Addr) (lk t : Bool) (B : List Nat) (r : Rx) (ys : List Fy) (hR : Rd w0 a n c B) (hn : n ≤ 1048576) (hq : q ≤ n) (hL1 : 1 ≤ r.L) (hL : r.L ≤ 2048) (hF8 : r.F ≤ 8) (hH12 : r.H ≤ 12) (hM8 : r.M ≤ 8) (hgl : w0.heap.size ≤ g)
    (hO0 : SrO w0 g r ao no co ys W) (hI : SrI r B q lk t m (ys.map (fun y => absF y.1)))
    (hPa : ∀ c a a' w, a.defers = a'.defers → Q (.panic c) a w → Q (.panic c) a' w)
    (hRet : ∀ W' bb {z0 z1 z2 z3 z6 z7 z8 z9 z10 z11 z12 z13 z14 z15 z16 z17 z18 z19 z20 z21 z22 z23 z24 z25 z26 z27 z28 z29 z30 z31 z32 z33 z34 z35 z36 z37 z38 z39 z40 z41 z42 z43 z44 z45 z46 z47 z48 z49 z50 z51 z52 z53 z54 z55 z56 z57 z58 z59 z60 z61 z62 z63 z64 z65 z66 z67 z68 z69 z70 z71 z72 z73 z74 z75 z76 z77 z78 z79 z80 z81 z82 z83 z84 z85 z86 z87 z88 z89 z90 z91 z92 z93 z94 z95 z96 z97 z98 z99 z100 z101 z102 z103 z104 z105 z106 z107 z108 z109 z110 z111 z112 z113 z114 z115 z116 z117 z118 z119 z120 z121 z122 z123 z124 z125 z126 z127 z128 z129 z130 z131 z132 z133 z134 : Value}, SrO w0 g r ao no co ys W' → (tkX r s0X B B.length).2 = ys.map (fun y => absF y.1) → bb = ((tkX r s0X B B.length).1.mode != 0) → Q .ret (Act.mk (List.toArray (z0 :: z1 :: z2 :: z3 :: (.slice ao no co) :: (.bool bb) :: z6 :: z7 :: z8 :: z9 :: z10 :: z11 :: z12 :: z13 :: z14 :: z15 :: z16 :: z17 :: z18 :: z19 :: z20 :: z21 :: z22 :: z23 :: z24 :: z25 :: z26 :: z27 :: z28 :: z29 :: z30 :: z31 :: z32 :: z33 :: z34 :: z35 :: z36 :: z37 :: z38 :: z39 :: z40 :: z41 :: z42 :: z43 :: z44 :: z45 :: z46 :: z47 :: z48 :: z49 :: z50 :: z51 :: z52 :: z53 :: z54 :: z55 :: z56 :: z57 :: z58 :: z59 :: z60 :: z61 :: z62 :: z63 :: z64 :: z65 :: z66 :: z67 :: z68 :: z69 :: z70 :: z71 :: z72 :: z73 :: z74 :: z75 :: z76 :: z77 :: z78 :: z79 :: z80 :: z81 :: z82 :: z83 :: z84 :: z85 :: z86 :: z87 :: z88 :: z89 :: z90 :: z91 :: z92 :: z93 :: z94 :: z95 :: z96 :: z97 :: z98 :: z99 :: z100 :: z101 :: z102 :: z103 :: z104 :: z105 :: z106 :: z107 :: z108 :: z109 :: z110 :: z111 :: z112 :: z113 :: z114 :: z115 :: z116 :: z117 :: z118 :: z119 :: z120 :: z121 :: z122 :: z123 :: z124 :: z125 :: z126 :: z127 :: z128 :: z129 :: z130 :: z131 :: z132 :: z133 :: z134 :: [])) []) W')
    (hNx : ∀ W' ao' no' co' ys' q' lk' t' m' {z0 z3 z4 z5 z11 z12 z13 z14 z15 z16 z17 z18 z19 z20 z21 z22 z23 z24 z25 z26 z27 z28 z29 z30 z31 z32 z33 z34 z35 z36 z37 z38 z39 z40 z41 z42 z43 z44 z45 z46 z47 z48 z49 z50 z51 z52 z53 z54 z55 z56 z57 z58 z59 z60 z61 z62 z63 z64 z65 z66 z67 z68 z69 z70 z71 z72 z73 z74 z75 z76 z77 z78 z79 z80 z81 z82 z83 z84 z85 z86 z87 z88 z89 z90 z91 z92 z93 z94 z95 z96 z97 z98 z99 z100 z101 z102 z103 z104 z105 z106 z107 z108 z109 z110 z111 z112 z113 z114 z115 z116 z117 z118 z119 z120 z121 z122 z123 z124 z125 z126 z127 z128 z129 z130 z131 z132 z133 z134 : Value}, SrO w0 g r ao' no' co' ys' W' → SrI r B q' lk' t' m' (ys'.map (fun y => absF y.1)) → q' ≤ n → 2 * (n + 100 - q') + (if lk' then 1 else 0) < 2 * (n + 100 - q) + (if lk then 1 else 0) → Q .normal (Act.mk (List.toArray (z0 :: (.slice a n c) :: (.pointer (some ⟨g, 0, none⟩)) :: z3 :: z4 :: z5 :: ((.slice ao' no' co')) :: (.int .i64 (q' : Nat)) :: (.bool lk') :: (.bool t') :: (.int .i64 (m' : Nat)) :: z11 :: z12 :: z13 :: z14 :: z15 :: z16 :: z17 :: z18 :: z19 :: z20 :: z21 :: z22 :: z23 :: z24 :: z25 :: z26 :: z27 :: z28 :: z29 :: z30 :: z31 :: z32 :: z33 :: z34 :: z35 :: z36 :: z37 :: z38 :: z39 :: z40 :: z41 :: z42 :: z43 :: z44 :: z45 :: z46 :: z47 :: z48 :: z49 :: z50 :: z51 :: z52 :: z53 :: z54 :: z55 :: z56 :: z57 :: z58 :: z59 :: z60 :: z61 :: z62 :: z63 :: z64 :: z65 :: z66 :: z67 :: z68 :: z69 :: z70 :: z71 :: z72 :: z73 :: z74 :: z75 :: z76 :: z77 :: z78 :: z79 :: z80 :: z81 :: z82 :: z83 :: z84 :: z85 :: z86 :: z87 :: z88 :: z89 :: z90 :: z91 :: z92 :: z93 :: z94 :: z95 :: z96 :: z97 :: z98 :: z99 :: z100 :: z101 :: z102 :: z103 :: z104 :: z105 :: z106 :: z107 :: z108 :: z109 :: z110 :: z111 :: z112 :: z113 :: z114 :: z115 :: z116 :: z117 :: z118 :: z119 :: z120 :: z121 :: z122 :: z123 :: z124 :: z125 :: z126 :: z127 :: z128 :: z129 :: z130 :: z131 :: z132 :: z133 :: z134 :: [])) []) W' ∧ Q (.exit 1) (Act.mk (List.toArray (z0 :: (.slice a n c) :: (.pointer (some ⟨g, 0, none⟩)) :: z3 :: z4 :: z5 :: ((.slice ao' no' co')) :: (.int .i64 (q' : Nat)) :: (.bool lk') :: (.bool t') :: (.int .i64 (m' : Nat)) :: z11 :: z12 :: z13 :: z14 :: z15 :: z16 :: z17 :: z18 :: z19 :: z20 :: z21 :: z22 :: z23 :: z24 :: z25 :: z26 :: z27 :: z28 :: z29 :: z30 :: z31 :: z32 :: z33 :: z34 :: z35 :: z36 :: z37 :: z38 :: z39 :: z40 :: z41 :: z42 :: z43 :: z44 :: z45 :: z46 :: z47 :: z48 :: z49 :: z50 :: z51 :: z52 :: z53 :: z54 :: z55 :: z56 :: z57 :: z58 :: z59 :: z60 :: z61 :: z62 :: z63 :: z64 :: z65 :: z66 :: z67 :: z68 :: z69 :: z70 :: z71 :: z72 :: z73 :: z74 :: z75 :: z76 :: z77 :: z78 :: z79 :: z80 :: z81 :: z82 :: z83 :: z84 :: z85 :: z86 :: z87 :: z88 :: z89 :: z90 :: z91 :: z92 :: z93 :: z94 :: z95 :: z96 :: z97 :: z98 :: z99 :: z100 :: z101 :: z102 :: z103 :: z104 :: z105 :: z106 :: z107 :: z108 :: z109 :: z110 :: z111 :: z112 :: z113 :: z114 :: z115 :: z116 :: z117 :: z118 :: z119 :: z120 :: z121 :: z122 :: z123 :: z124 :: z125 :: z126 :: z127 :: z128 :: z129 :: z130 :: z131 :: z132 :: z133 :: z134 :: [])) []) W') :
    Code.wp Try.prog (tailR 4 (Try.f10.body.getD .skip)) Q (Act.mk (List.toArray (u0 :: (.slice a n c) :: (.pointer (some ⟨g, 0, none⟩)) :: u3 :: u4 :: u5 :: (.slice ao no co) :: (.int .i64 (q : Nat)) :: (.bool lk) :: (.bool t) :: (.int .i64 (m : Nat)) :: u11 :: u12 :: u13 :: u14 :: u15 :: u16 :: u17 :: u18 :: u19 :: u20 :: u21 :: u22 :: u23 :: u24 :: u25 :: u26 :: u27 :: u28 :: u29 :: u30 :: u31 :: u32 :: u33 :: u34 :: u35 :: u36 :: u37 :: u38 :: u39 :: u40 :: u41 :: u42 :: u43 :: u44 :: u45 :: u46 :: u47 :: u48 :: u49 :: u50 :: u51 :: u52 :: u53 :: u54 :: u55 :: u56 :: u57 :: u58 :: u59 :: u60 :: u61 :: u62 :: u63 :: u64 :: u65 :: u66 :: u67 :: u68 :: u69 :: u70 :: u71 :: u72 :: u73 :: u74 :: u75 :: u76 :: u77 :: u78 :: u79 :: u80 :: u81 :: u82 :: u83 :: u84 :: u85 :: u86 :: u87 :: u88 :: u89 :: u90 :: u91 :: u92 :: u93 :: u94 :: u95 :: u96 :: u97 :: u98 :: u99 :: u100 :: u101 :: u102 :: u103 :: u104 :: u105 :: u106 :: u107 :: u108 :: u109 :: u110 :: u111 :: u112 :: u113 :: u114 :: u115 :: u116 :: u117 :: u118 :: u119 :: u120 :: u121 :: u122 :: u123 :: u124 :: u125 :: u126 :: u127 :: u128 :: u129 :: u130 :: u131 :: u132 :: u133 :: u134 :: [])) []) W := by
  conv => enter [2]; whnf
  have hBl := hR.len
  have hno : no ≤ 1048576 := by
    have h1 := hI.len
    rw [List.length_map, hO0.len] at h1
    omega
  have hR0 := Rd.keepF (p := fun _ => False) hR hO0.frm
  have FINQ : ∀ (W' : World) (q' m' : Nat) (t' : Bool), SrO w0 g r ao no co ys W' → FrW r B q' t' m' (ys.map (fun y => absF y.1)) → m' ≤ r.M → q' ≤ n → q ≤ q' + 1 → ∀ {u0 u3 u4 u5 u11 u12 u13 u14 u15 u16 u17 u18 u19 u20 u21 u22 u23 u24 u25 u26 u27 u28 u29 u30 u31 u32 u33 u34 u35 u36 u37 u38 u39 u40 u41 u42 u43 u44 u45 u46 u47 u48 u49 u50 u51 u52 u53 u54 u55 u56 u57 u58 u59 u60 u61 u62 u63 u64 u65 u66 u67 u68 u69 u70 u71 u72 u73 u74 u75 u76 u77 u78 u79 u80 u81 u82 u83 u84 u85 u86 u87 u88 u89 u90 u91 u92 u93 u94 u95 u96 u97 u98 u99 u100 u101 u102 u103 u104 u105 u106 u107 u108 u109 u110 u111 u112 u113 u114 u115 u116 u117 u118 u119 u120 u121 u122 u123 u124 u125 u126 u127 u128 u129 u130 u131 u132 u133 u134 : Value}, Code.wp Try.prog (tailR 29 (Try.f10.body.getD .skip)) Q (Act.mk (List.toArray (u0 :: (.slice a n c) :: (.pointer (some ⟨g, 0, none⟩)) :: u3 :: u4 :: u5 :: (.slice ao no co) :: (.int .i64 (q' : Nat)) :: (.bool true) :: (.bool t') :: (.int .i64 (m' : Nat)) :: u11 :: u12 :: u13 :: u14 :: u15 :: u16 :: u17 :: u18 :: u19 :: u20 :: u21 :: u22 :: u23 :: u24 :: u25 :: u26 :: u27 :: u28 :: u29 :: u30 :: u31 :: u32 :: u33 :: u34 :: u35 :: u36 :: u37 :: u38 :: u39 :: u40 :: u41 :: u42 :: u43 :: u44 :: u45 :: u46 :: u47 :: u48 :: u49 :: u50 :: u51 :: u52 :: u53 :: u54 :: u55 :: u56 :: u57 :: u58 :: u59 :: u60 :: u61 :: u62 :: u63 :: u64 :: u65 :: u66 :: u67 :: u68 :: u69 :: u70 :: u71 :: u72 :: u73 :: u74 :: u75 :: u76 :: u77 :: u78 :: u79 :: u80 :: u81 :: u82 :: u83 :: u84 :: u85 :: u86 :: u87 :: u88 :: u89 :: u90 :: u91 :: u92 :: u93 :: u94 :: u95 :: u96 :: u97 :: u98 :: u99 :: u100 :: u101 :: u102 :: u103 :: u104 :: u105 :: u106 :: u107 :: u108 :: u109 :: u110 :: u111 :: u112 :: u113 :: u114 :: u115 :: u116 :: u117 :: u118 :: u119 :: u120 :: u121 :: u122 :: u123 :: u124 :: u125 :: u126 :: u127 :: u128 :: u129 :: u130 :: u131 :: u132 :: u133 :: u134 :: [])) []) W' := by
    intro W' q' m' t' hO' hFr hm' hq' hqq
    intros
    refine se_29 w0 W' g n c no co q' m' a ao t' B r ys hR hn hq' hL1 hL hO'.box hO'.own hO'.len hO'.dat hno hO'.frm hgl ?_ ?_
    · intro hend
      intros
      obtain ⟨e1, e2⟩ := fr_end hFr (by rw [hBl]; exact hend)
      exact hRet W' true hO' e1 (by rw [e2]; rfl)
    · intro hend ao2 no2 co2 ys2 W2
      intros
      rename_i h1 h2 h3 h4 h5 h6
      have hx := fr_all hL1 hFr (by rw [hBl]; exact hend)
      rw [← h4] at hx
      refine (hNx W2 ao2 no2 co2 ys2 (q' + 32 + 8 * r.L) true t' m' ⟨h1, h2, h3, h5, h6⟩ (.inr ⟨rfl, hx, hm'⟩) hend ?_).1
      cases lk <;> simp <;> omega
  have FIN : Hid _ := @FINQ
  have HRET : Hid _ := @hRet
  have HNX : Hid _ := @hNx
  clear FINQ hRet hNx
  refine wp_seq_k fun K50 hK50 => ?_
  have HK50 : Hid _ := hK50
  clear hK50
  refine wp_seq_k fun K4 hK4 => ?_
  have HK4 : Hid _ := hK4
  clear hK4
  go_wp2
  (try simp only [Exit.inBlock, Exit.then])
  refine HK4.out _ _ ?_
  clear HK4
  rcases hI with ⟨hlk, hS⟩ | ⟨hlk, hE, hmM⟩
  · subst hlk
    refine wp_cond_true rfl ?_
    refine wp_seq_k fun K5 hK5 => ?_
    have HK5 : Hid _ := hK5
    clear hK5
    by_cases hend : n < q + 32
    · have hei : (n : Int) < (q : Int) + 32 := by omega
      go_wp2
      obtain ⟨e1, e2⟩ := srch_end hS (by rw [hBl]; exact hend)
      exact HRET.out W false hO0 e1 (by rw [e2]; rfl)
    · have hei : ¬ (n : Int) < (q : Int) + 32 := by omega
      go_wp2
      (try simp only [Exit.inBlock, Exit.then])
      refine HK5.out _ _ ?_
      clear HK5
      clear hei
      refine wp_seq_k fun K7 hK7 => ?_
      have HK7 : Hid _ := hK7
      clear hK7
      obtain ⟨wv, hwv⟩ : ∃ wv, rwV B (q : Int) false = wv := ⟨_, rfl⟩
      have hw1 : wv = wrB B q false := by rw [← hwv]; exact rw_in (by rw [hBl]; omega)
      have SS : W.drew.grownBy W.drew none := World.grownBy.refl _ _
      refine wp_regionM (fun wz => W.drew.grownBy wz none) [] #[false, false, false, false, false, false] rfl (by kernel_rfl) ?_
      have Fd : Frm (fun _ => False) W W.drew := Frm.of (grown_drew _ none) (fun k e _ => by cases e)
      have hO := hO0.keepF Fd
      have hRd := Rd.keepF (p := fun _ => False) hR0 Fd
      have cl : W.drew.cell? ⟨g, 1, none⟩ = some (.int .i64 (r.F : Nat)) := hO.box.cell 1 (by show 1 < 4; decide)
      generalize W.drew = wd at *
      have hC := rwrong_any a n c ((q : Int)) (false) B wd hRd (by omega) (by omega) (by omega)
      rw [hwv] at hC
      refine wpAnyY_takeF 0 (.slice a n c) rfl (by kernel_rfl) (fun _ _ _ h => hPa _ _ _ _ (by rfl) h) rfl (by intro wz; go_simp; try rfl) ?_
      try simp only [List.getElem_toArray, List.getElem_cons_succ, List.getElem_cons_zero, Act.put, List.setIfInBounds_toArray, List.set_cons_zero, List.set_cons_succ]
      refine wpAnyY_takeF 1 (.int .i64 (q : Nat)) rfl (by kernel_rfl) (fun _ _ _ h => hPa _ _ _ _ (by rfl) h) rfl (by intro wz; go_simp; try rfl) ?_
      try simp only [List.getElem_toArray, List.getElem_cons_succ, List.getElem_cons_zero, Act.put, List.setIfInBounds_toArray, List.set_cons_zero, List.set_cons_succ]
      refine wpAnyY_takeF 3 (.pointer (some ⟨g, 1, none⟩)) rfl (by kernel_rfl) (fun _ _ _ h => hPa _ _ _ _ (by rfl) h) rfl (by intro wz; go_simp; try rfl) ?_
      try simp only [List.getElem_toArray, List.getElem_cons_succ, List.getElem_cons_zero, Act.put, List.setIfInBounds_toArray, List.set_cons_zero, List.set_cons_succ]
      refine wpAnyY_take [] 4 (.int .i64 (r.F : Nat)) rfl (by kernel_rfl) (fun _ _ _ h => hPa _ _ _ _ (by rfl) h) SS rfl (by intro wz hz; have z := cellGS cl hz; go_simp) ?_
      try simp only [List.getElem_toArray, List.getElem_cons_succ, List.getElem_cons_zero, Act.put, List.setIfInBounds_toArray, List.set_cons_zero, List.set_cons_succ]
      refine wpAnyY_oneB 2 rfl (by kernel_rfl) (fun KK hKK => ?_)
      go_simp
      go_at_call 19
      refine hC.mono ?_
      rintro e wz ⟨rfl, hw⟩
      have hw := hw.symm
      subst hw
      dsimp only
      refine hKK _ _ (fun h _ => h) ?_
      try simp only [List.getElem_toArray, List.getElem_cons_succ, List.getElem_cons_zero, Act.put, List.setIfInBounds_toArray, List.set_cons_zero, List.set_cons_succ]
      refine wpAnyY_takeF 5 (.bool (decide ((wv : Int) ≤ (r.F : Int)))) rfl (by kernel_rfl) (fun _ _ _ h => hPa _ _ _ _ (by rfl) h) rfl (by intro wz; go_simp; try rfl) ?_
      try simp only [List.getElem_toArray, List.getElem_cons_succ, List.getElem_cons_zero, Act.put, List.setIfInBounds_toArray, List.set_cons_zero, List.set_cons_succ]
      refine wpAnyY_doneB (by kernel_rfl) ?_ _
      (try simp only [Exit.inBlock, Exit.then])
      refine HK7.out _ _ ?_
      clear HK7
      by_cases hle : wv ≤ r.F
      · have hd : decide ((wv : Int) ≤ (r.F : Int)) = true := decide_eq_true (by omega)
        simp only [hd]
        refine wp_cond_true rfl ?_
        go_wp2
        (try simp only [Exit.inBlock, Exit.then])
        refine HK50.out _ _ ?_
        clear HK50
        exact FIN.out wd q 0 false hO (srch_hit hS (by rw [hBl]; omega) (fun h => by cases h) (by rw [← hw1]; exact hle)) (Nat.zero_le _) hq (by omega)
      · have hd : decide ((wv : Int) ≤ (r.F : Int)) = false := decide_eq_false (by omega)
        simp only [hd]
        refine wp_cond_false rfl ?_
        have hO0 := hO
        have hR0 := hRd
        rename_i W0
        clear hC cl Fd hwv SS
        have hnF : ¬ wrB B q false ≤ r.F := by rw [← hw1]; exact hle
        clear hw1 hle hd
        obtain ⟨W, hWe⟩ : ∃ W, W = wd := ⟨_, rfl⟩
        rw [← hWe] at hO0 hR0 ⊢
        clear hO hRd hWe
        obtain ⟨wv, hwv⟩ : ∃ wv, rwV B (q : Int) true = wv := ⟨_, rfl⟩
        have hw1 : wv = wrB B q true := by rw [← hwv]; exact rw_in (by rw [hBl]; omega)
        refine wp_seq_k fun K9 hK9 => ?_
        have HK9 : Hid _ := hK9
        clear hK9
        have SS : W.drew.grownBy W.drew none := World.grownBy.refl _ _
        refine wp_regionM (fun wz => W.drew.grownBy wz none) [] #[false, false, false, false, false, false] rfl (by kernel_rfl) ?_
        have Fd : Frm (fun _ => False) W W.drew := Frm.of (grown_drew _ none) (fun k e _ => by cases e)
        have hO := hO0.keepF Fd
        have hRd := Rd.keepF (p := fun _ => False) hR0 Fd
        have cl : W.drew.cell? ⟨g, 1, none⟩ = some (.int .i64 (r.F : Nat)) := hO.box.cell 1 (by show 1 < 4; decide)
        generalize W.drew = we at *
        have hC := rwrong_any a n c ((q : Int)) (true) B we hRd (by omega) (by omega) (by omega)
        rw [hwv] at hC
        refine wpAnyY_takeF 0 (.slice a n c) rfl (by kernel_rfl) (fun _ _ _ h => hPa _ _ _ _ (by rfl) h) rfl (by intro wz; go_simp; try rfl) ?_
        try simp only [List.getElem_toArray, List.getElem_cons_succ, List.getElem_cons_zero, Act.put, List.setIfInBounds_toArray, List.set_cons_zero, List.set_cons_succ]
        refine wpAnyY_takeF 1 (.int .i64 (q : Nat)) rfl (by kernel_rfl) (fun _ _ _ h => hPa _ _ _ _ (by rfl) h) rfl (by intro wz; go_simp; try rfl) ?_
        try simp only [List.getElem_toArray, List.getElem_cons_succ, List.getElem_cons_zero, Act.put, List.setIfInBounds_toArray, List.set_cons_zero, List.set_cons_succ]
        refine wpAnyY_takeF 3 (.pointer (some ⟨g, 1, none⟩)) rfl (by kernel_rfl) (fun _ _ _ h => hPa _ _ _ _ (by rfl) h) rfl (by intro wz; go_simp; try rfl) ?_
        try simp only [List.getElem_toArray, List.getElem_cons_succ, List.getElem_cons_zero, Act.put, List.setIfInBounds_toArray, List.set_cons_zero, List.set_cons_succ]
        refine wpAnyY_take [] 4 (.int .i64 (r.F : Nat)) rfl (by kernel_rfl) (fun _ _ _ h => hPa _ _ _ _ (by rfl) h) SS rfl (by intro wz hz; have z := cellGS cl hz; go_simp) ?_
        try simp only [List.getElem_toArray, List.getElem_cons_succ, List.getElem_cons_zero, Act.put, List.setIfInBounds_toArray, List.set_cons_zero, List.set_cons_succ]
        refine wpAnyY_oneB 2 rfl (by kernel_rfl) (fun KK hKK => ?_)
        go_simp
        go_at_call 19
        refine hC.mono ?_
        rintro e wz ⟨rfl, hw⟩
        have hw := hw.symm
        subst hw
        dsimp only
        refine hKK _ _ (fun h _ => h) ?_
        try simp only [List.getElem_toArray, List.getElem_cons_succ, List.getElem_cons_zero, Act.put, List.setIfInBounds_toArray, List.set_cons_zero, List.set_cons_succ]
        refine wpAnyY_takeF 5 (.bool (decide ((wv : Int) ≤ (r.F : Int)))) rfl (by kernel_rfl) (fun _ _ _ h => hPa _ _ _ _ (by rfl) h) rfl (by intro wz; go_simp; try rfl) ?_
        try simp only [List.getElem_toArray, List.getElem_cons_succ, List.getElem_cons_zero, Act.put, List.setIfInBounds_toArray, List.set_cons_zero, List.set_cons_succ]
        refine wpAnyY_doneB (by kernel_rfl) ?_ _
        (try simp only [Exit.inBlock, Exit.then])
        refine HK9.out _ _ ?_
        clear HK9
        by_cases hle : wv ≤ r.F
        · have hd : decide ((wv : Int) ≤ (r.F : Int)) = true := decide_eq_true (by omega)
          simp only [hd]
          refine wp_cond_true rfl ?_
          go_wp2
          (try simp only [Exit.inBlock, Exit.then])
          refine HK50.out _ _ ?_
          clear HK50
          exact FIN.out we q 0 true hO (srch_hit hS (by rw [hBl]; omega) (fun _ => hnF) (by rw [← hw1]; exact hle)) (Nat.zero_le _) hq (by omega)
        · have hd : decide ((wv : Int) ≤ (r.F : Int)) = false := decide_eq_false (by omega)
          simp only [hd]
          refine wp_cond_false rfl ?_
          have hms := srch_miss hS (by rw [hBl]; omega) hnF (by rw [← hw1]; exact hle)
          obtain ⟨q2, hq2⟩ : ∃ q2, q2 = q + 1 := ⟨_, rfl⟩
          have hqi : (q : Int) + 1 = (q2 : Int) := by omega
          rw [← hq2] at hms
          have HQ2 : Hid _ := hq2
          clear hq2
          go_wp2
          exact (HNX.out we ao no co ys q2 false t m hO (.inl ⟨rfl, hms⟩) (by have := HQ2.out; omega) (by have := HQ2.out; simp; omega)).2
  · subst hlk
    refine wp_cond_false rfl ?_
    have hE1 := hE.1
    obtain ⟨wv, hwv⟩ : ∃ wv, rwV B (q : Int) t = wv := ⟨_, rfl⟩
    have hC := rwrong_any a n c (q : Int) t B W hR0 (by omega) (by omega) (by omega)
    rw [hwv] at hC
    refine wp_seq_k fun K12 hK12 => ?_
    have HK12 : Hid _ := hK12
    clear hK12
    go_wp2_with (go_at_call 19; refine hC.mono ?_; rintro e wz ⟨rfl, hw⟩; have hw := hw.symm; subst hw)
    (try simp only [Exit.inBlock, Exit.then])
    refine HK12.out _ _ ?_
    clear HK12
    have cl : W.cell? ⟨g, 2, none⟩ = some (.int .i64 (r.H : Nat)) := hO0.box.cell 2 (by show 2 < 4; decide)
    clear hC
    have HWV : Hid _ := hwv
    clear hwv
    by_cases hgt : r.H < wv
    · have hgi : (r.H : Int) < (wv : Int) := by omega
      refine wp_seq_k fun K13 hK13 => ?_
      have HK13 : Hid _ := hK13
      clear hK13
      go_wp2
      (try simp only [Exit.inBlock, Exit.then])
      refine HK13.out _ _ ?_
      clear HK13
      refine wp_cond_true rfl ?_
      clear hgi cl
      have hnH : q + 32 ≤ B.length → ¬ wrB B q t ≤ r.H := fun h => by
        have h1 := HWV.out
        rw [rw_in h] at h1
        omega
      clear HWV hgt
      refine wp_seq_k fun K14 hK14 => ?_
      have HK14 : Hid _ := hK14
      clear hK14
      by_cases hend : n < q + 33
      · have hei : (n : Int) < (q : Int) + 33 := by omega
        go_wp2
        obtain ⟨e1, e2⟩ := ex_end2 hE (by rw [hBl]; exact hend) hnH
        exact HRET.out W true hO0 e1 (by rw [e2]; rfl)
      · have hei : ¬ (n : Int) < (q : Int) + 33 := by omega
        go_wp2
        (try simp only [Exit.inBlock, Exit.then])
        refine HK14.out _ _ ?_
        clear HK14
        clear hei
        have hX := ex_dec hE (by rw [hBl]; omega) (hnH (by rw [hBl]; omega))
        have HX : Hid _ := hX
        clear hX hnH hE
        obtain ⟨q1, hq1⟩ : ∃ q1, q1 = q - 1 := ⟨_, rfl⟩
        have hq1i : (q : Int) - 1 = (q1 : Int) := by omega
        have HQ1 : Hid _ := hq1
        have hq1b : q1 ≤ 1048576 := by omega
        have hq1w : IntKind.i64.wrap (q1 : Int) = (q1 : Int) := wrap_i64_in _ (by omega) (by omega)
        clear hq1
        have hOW := hO0
        have hRW := hR0
        clear hO0 hR0
        refine wp_seq_k fun K16 hK16 => ?_
        have HK16 : Hid _ := hK16
        clear hK16
        obtain ⟨wv1, hwv1⟩ : ∃ wv, rwV B ((q1 : Int)) (t) = wv := ⟨_, rfl⟩
        have SS : W.drew.grownBy W.drew none := World.grownBy.refl _ _
        refine wp_regionM (fun wz => W.drew.grownBy wz none) [] #[false, false, false, false, false, false, false, false] rfl (by kernel_rfl) ?_
        have Fd : Frm (fun _ => False) W W.drew := Frm.of (grown_drew _ none) (fun k e _ => by cases e)
        have hOwa := hOW.keepF Fd
        have hRwa := Rd.keepF (p := fun _ => False) hRW Fd
        have cl : W.drew.cell? ⟨g, 1, none⟩ = some (.int .i64 (r.F : Nat)) := hOwa.box.cell 1 (by show 1 < 4; decide)
        generalize W.drew = wa at *
        have hC := rwrong_any a n c ((q1 : Int)) (t) B wa hRwa (by omega) (by omega) (by omega)
        rw [hwv1] at hC
        refine wpAnyY_takeF 0 (.slice a n c) rfl (by kernel_rfl) (fun _ _ _ h => hPa _ _ _ _ (by rfl) h) rfl (by intro wz; go_simp; try rfl) ?_
        try simp only [List.getElem_toArray, List.getElem_cons_succ, List.getElem_cons_zero, Act.put, List.setIfInBounds_toArray, List.set_cons_zero, List.set_cons_succ]
        refine wpAnyY_takeF 1 (.int .i64 (q : Nat)) rfl (by kernel_rfl) (fun _ _ _ h => hPa _ _ _ _ (by rfl) h) rfl (by intro wz; go_simp; try rfl) ?_
        try simp only [List.getElem_toArray, List.getElem_cons_succ, List.getElem_cons_zero, Act.put, List.setIfInBounds_toArray, List.set_cons_zero, List.set_cons_succ]
        refine wpAnyY_takeF 2 (.int .i64 (q1 : Nat)) rfl (by kernel_rfl) (fun _ _ _ h => hPa _ _ _ _ (by rfl) h) rfl (by intro wz; go_simp; try rfl) ?_
        try simp only [List.getElem_toArray, List.getElem_cons_succ, List.getElem_cons_zero, Act.put, List.setIfInBounds_toArray, List.set_cons_zero, List.set_cons_succ]
        refine wpAnyY_takeF 3 (.bool t) rfl (by kernel_rfl) (fun _ _ _ h => hPa _ _ _ _ (by rfl) h) rfl (by intro wz; go_simp; try rfl) ?_
        try simp only [List.getElem_toArray, List.getElem_cons_succ, List.getElem_cons_zero, Act.put, List.setIfInBounds_toArray, List.set_cons_zero, List.set_cons_succ]
        refine wpAnyY_takeF 5 (.pointer (some ⟨g, 1, none⟩)) rfl (by kernel_rfl) (fun _ _ _ h => hPa _ _ _ _ (by rfl) h) rfl (by intro wz; go_simp; try rfl) ?_
        try simp only [List.getElem_toArray, List.getElem_cons_succ, List.getElem_cons_zero, Act.put, List.setIfInBounds_toArray, List.set_cons_zero, List.set_cons_succ]
        refine wpAnyY_take [] 6 (.int .i64 (r.F : Nat)) rfl (by kernel_rfl) (fun _ _ _ h => hPa _ _ _ _ (by rfl) h) SS rfl (by intro wz hz; have z := cellGS cl hz; go_simp) ?_
        try simp only [List.getElem_toArray, List.getElem_cons_succ, List.getElem_cons_zero, Act.put, List.setIfInBounds_toArray, List.set_cons_zero, List.set_cons_succ]
        refine wpAnyY_oneB 4 rfl (by kernel_rfl) (fun KK hKK => ?_)
        go_simp
        go_at_call 19
        refine hC.mono ?_
        rintro e wz ⟨rfl, hw⟩
        have hw := hw.symm
        subst hw
        dsimp only
        refine hKK _ _ (fun h _ => h) ?_
        try simp only [List.getElem_toArray, List.getElem_cons_succ, List.getElem_cons_zero, Act.put, List.setIfInBounds_toArray, List.set_cons_zero, List.set_cons_succ]
        refine wpAnyY_takeF 7 (.bool (decide ((wv1 : Int) ≤ (r.F : Int)))) rfl (by kernel_rfl) (fun _ _ _ h => hPa _ _ _ _ (by rfl) h) rfl (by intro wz; go_simp; try rfl) ?_
        try simp only [List.getElem_toArray, List.getElem_cons_succ, List.getElem_cons_zero, Act.put, List.setIfInBounds_toArray, List.set_cons_zero, List.set_cons_succ]
        refine wpAnyY_doneB (by kernel_rfl) ?_ _
        clear hC cl Fd SS
        (try simp only [Exit.inBlock, Exit.then])
        refine HK16.out _ _ ?_
        clear HK16
        have hv1 : wv1 = wrB B (q - 1) t := by rw [← hwv1, ← HQ1.out]; exact rw_in (by rw [hBl]; have := HQ1.out; omega)
        have HV1 : Hid _ := hv1
        clear hwv1 hv1
        by_cases hle : wv1 ≤ r.F
        · have hd : decide ((wv1 : Int) ≤ (r.F : Int)) = true := decide_eq_true (by omega)
          simp only [hd]
          refine wp_cond_true rfl ?_
          clear hd
          go_wp2
          (try simp only [Exit.inBlock, Exit.then])
          refine HK50.out _ _ ?_
          clear HK50
          exact FIN.out wa q1 0 t hOwa (by rw [HQ1.out]; exact HX.out.1 (by rw [← HV1.out]; exact hle)) (Nat.zero_le _) (by have := HQ1.out; omega) (by have := HQ1.out; omega)
        · have hd : decide ((wv1 : Int) ≤ (r.F : Int)) = false := decide_eq_false (by omega)
          simp only [hd]
          refine wp_cond_false rfl ?_
          clear hd
          have HA1 : Hid (¬ wrB B (q - 1) t ≤ r.F) := (by show ¬ _; rw [← HV1.out]; exact hle)
          clear hle HV1 hq1i hq1b hq1w
          obtain ⟨q2, hq2⟩ : ∃ q2, q2 = q + 1 := ⟨_, rfl⟩
          have hq2i : (q : Int) + 1 = (q2 : Int) := by omega
          have hq2b : q2 ≤ 1048577 := by omega
          have hq2w : IntKind.i64.wrap (q2 : Int) = (q2 : Int) := wrap_i64_in _ (by omega) (by omega)
          have HQ2 : Hid _ := hq2
          clear hq2
          refine wp_seq_k fun K19 hK19 => ?_
          have HK19 : Hid _ := hK19
          clear hK19
          obtain ⟨wv2, hwv2⟩ : ∃ wv, rwV B ((q2 : Int)) (t) = wv := ⟨_, rfl⟩
          have SS : wa.drew.grownBy wa.drew none := World.grownBy.refl _ _
          refine wp_regionM (fun wz => wa.drew.grownBy wz none) [] #[false, false, false, false, false, false, false, false] rfl (by kernel_rfl) ?_
          have Fd : Frm (fun _ => False) wa wa.drew := Frm.of (grown_drew _ none) (fun k e _ => by cases e)
          have hOwb := hOwa.keepF Fd
          have hRwb := Rd.keepF (p := fun _ => False) hRwa Fd
          have cl : wa.drew.cell? ⟨g, 1, none⟩ = some (.int .i64 (r.F : Nat)) := hOwb.box.cell 1 (by show 1 < 4; decide)
          generalize wa.drew = wb at *
          have hC := rwrong_any a n c ((q2 : Int)) (t) B wb hRwb (by omega) (by omega) (by omega)
          rw [hwv2] at hC
          refine wpAnyY_takeF 0 (.slice a n c) rfl (by kernel_rfl) (fun _ _ _ h => hPa _ _ _ _ (by rfl) h) rfl (by intro wz; go_simp; try rfl) ?_
          try simp only [List.getElem_toArray, List.getElem_cons_succ, List.getElem_cons_zero, Act.put, List.setIfInBounds_toArray, List.set_cons_zero, List.set_cons_succ]
          refine wpAnyY_takeF 1 (.int .i64 (q : Nat)) rfl (by kernel_rfl) (fun _ _ _ h => hPa _ _ _ _ (by rfl) h) rfl (by intro wz; go_simp; try rfl) ?_
          try simp only [List.getElem_toArray, List.getElem_cons_succ, List.getElem_cons_zero, Act.put, List.setIfInBounds_toArray, List.set_cons_zero, List.set_cons_succ]
          refine wpAnyY_takeF 2 (.int .i64 (q2 : Nat)) rfl (by kernel_rfl) (fun _ _ _ h => hPa _ _ _ _ (by rfl) h) rfl (by intro wz; go_simp; try rfl) ?_
          try simp only [List.getElem_toArray, List.getElem_cons_succ, List.getElem_cons_zero, Act.put, List.setIfInBounds_toArray, List.set_cons_zero, List.set_cons_succ]
          refine wpAnyY_takeF 3 (.bool t) rfl (by kernel_rfl) (fun _ _ _ h => hPa _ _ _ _ (by rfl) h) rfl (by intro wz; go_simp; try rfl) ?_
          try simp only [List.getElem_toArray, List.getElem_cons_succ, List.getElem_cons_zero, Act.put, List.setIfInBounds_toArray, List.set_cons_zero, List.set_cons_succ]
          refine wpAnyY_takeF 5 (.pointer (some ⟨g, 1, none⟩)) rfl (by kernel_rfl) (fun _ _ _ h => hPa _ _ _ _ (by rfl) h) rfl (by intro wz; go_simp; try rfl) ?_
          try simp only [List.getElem_toArray, List.getElem_cons_succ, List.getElem_cons_zero, Act.put, List.setIfInBounds_toArray, List.set_cons_zero, List.set_cons_succ]
          refine wpAnyY_take [] 6 (.int .i64 (r.F : Nat)) rfl (by kernel_rfl) (fun _ _ _ h => hPa _ _ _ _ (by rfl) h) SS rfl (by intro wz hz; have z := cellGS cl hz; go_simp) ?_
          try simp only [List.getElem_toArray, List.getElem_cons_succ, List.getElem_cons_zero, Act.put, List.setIfInBounds_toArray, List.set_cons_zero, List.set_cons_succ]
          refine wpAnyY_oneB 4 rfl (by kernel_rfl) (fun KK hKK => ?_)
          go_simp
          go_at_call 19
          refine hC.mono ?_
          rintro e wz ⟨rfl, hw⟩
          have hw := hw.symm
          subst hw
          dsimp only
          refine hKK _ _ (fun h _ => h) ?_
          try simp only [List.getElem_toArray, List.getElem_cons_succ, List.getElem_cons_zero, Act.put, List.setIfInBounds_toArray, List.set_cons_zero, List.set_cons_succ]
          refine wpAnyY_takeF 7 (.bool (decide ((wv2 : Int) ≤ (r.F : Int)))) rfl (by kernel_rfl) (fun _ _ _ h => hPa _ _ _ _ (by rfl) h) rfl (by intro wz; go_simp; try rfl) ?_
          try simp only [List.getElem_toArray, List.getElem_cons_succ, List.getElem_cons_zero, Act.put, List.setIfInBounds_toArray, List.set_cons_zero, List.set_cons_succ]
          refine wpAnyY_doneB (by kernel_rfl) ?_ _
          clear hC cl Fd SS
          (try simp only [Exit.inBlock, Exit.then])
          refine HK19.out _ _ ?_
          clear HK19
          have hv2 : wv2 = wrB B (q + 1) t := by rw [← hwv2, ← HQ2.out]; exact rw_in (by rw [hBl]; have := HQ2.out; omega)
          have HV2 : Hid _ := hv2
          clear hwv2 hv2
          by_cases hle : wv2 ≤ r.F
          · have hd : decide ((wv2 : Int) ≤ (r.F : Int)) = true := decide_eq_true (by omega)
            simp only [hd]
            refine wp_cond_true rfl ?_
            clear hd
            go_wp2
            (try simp only [Exit.inBlock, Exit.then])
            refine HK50.out _ _ ?_
            clear HK50
            exact FIN.out wb q2 0 t hOwb (by rw [HQ2.out]; exact HX.out.2.1 HA1.out (by rw [← HV2.out]; exact hle)) (Nat.zero_le _) (by have := HQ2.out; omega) (by have := HQ2.out; omega)
          · have hd : decide ((wv2 : Int) ≤ (r.F : Int)) = false := decide_eq_false (by omega)
            simp only [hd]
            refine wp_cond_false rfl ?_
            clear hd
            have HA2 : Hid (¬ wrB B (q + 1) t ≤ r.F) := (by show ¬ _; rw [← HV2.out]; exact hle)
            clear hle HV2 hq2i hq2b hq2w
            obtain ⟨nt, hnt⟩ : ∃ nt, (!t) = nt := ⟨_, rfl⟩
            have HNT : Hid _ := hnt
            refine wp_seq_k fun K22 hK22 => ?_
            have HK22 : Hid _ := hK22
            clear hK22
            obtain ⟨wv3, hwv3⟩ : ∃ wv, rwV B ((q : Int)) (nt) = wv := ⟨_, rfl⟩
            have SS : wb.drew.grownBy wb.drew none := World.grownBy.refl _ _
            refine wp_regionM (fun wz => wb.drew.grownBy wz none) [] #[false, false, false, false, false, false, false, false] rfl (by kernel_rfl) ?_
            have Fd : Frm (fun _ => False) wb wb.drew := Frm.of (grown_drew _ none) (fun k e _ => by cases e)
            have hOwc := hOwb.keepF Fd
            have hRwc := Rd.keepF (p := fun _ => False) hRwb Fd
            have cl : wb.drew.cell? ⟨g, 2, none⟩ = some (.int .i64 (r.H : Nat)) := hOwc.box.cell 2 (by show 2 < 4; decide)
            generalize wb.drew = wc at *
            have hC := rwrong_any a n c ((q : Int)) (nt) B wc hRwc (by omega) (by omega) (by omega)
            rw [hwv3] at hC
            refine wpAnyY_takeF 0 (.slice a n c) rfl (by kernel_rfl) (fun _ _ _ h => hPa _ _ _ _ (by rfl) h) rfl (by intro wz; go_simp; try rfl) ?_
            try simp only [List.getElem_toArray, List.getElem_cons_succ, List.getElem_cons_zero, Act.put, List.setIfInBounds_toArray, List.set_cons_zero, List.set_cons_succ]
            refine wpAnyY_takeF 1 (.int .i64 (q : Nat)) rfl (by kernel_rfl) (fun _ _ _ h => hPa _ _ _ _ (by rfl) h) rfl (by intro wz; go_simp; try rfl) ?_
            try simp only [List.getElem_toArray, List.getElem_cons_succ, List.getElem_cons_zero, Act.put, List.setIfInBounds_toArray, List.set_cons_zero, List.set_cons_succ]
            refine wpAnyY_takeF 2 (.bool t) rfl (by kernel_rfl) (fun _ _ _ h => hPa _ _ _ _ (by rfl) h) rfl (by intro wz; go_simp; try rfl) ?_
            try simp only [List.getElem_toArray, List.getElem_cons_succ, List.getElem_cons_zero, Act.put, List.setIfInBounds_toArray, List.set_cons_zero, List.set_cons_succ]
            refine wpAnyY_takeF 3 (.bool nt) rfl (by kernel_rfl) (fun _ _ _ h => hPa _ _ _ _ (by rfl) h) rfl (by intro wz; go_simp; try rfl) ?_
            try simp only [List.getElem_toArray, List.getElem_cons_succ, List.getElem_cons_zero, Act.put, List.setIfInBounds_toArray, List.set_cons_zero, List.set_cons_succ]
            refine wpAnyY_takeF 5 (.pointer (some ⟨g, 2, none⟩)) rfl (by kernel_rfl) (fun _ _ _ h => hPa _ _ _ _ (by rfl) h) rfl (by intro wz; go_simp; try rfl) ?_
            try simp only [List.getElem_toArray, List.getElem_cons_succ, List.getElem_cons_zero, Act.put, List.setIfInBounds_toArray, List.set_cons_zero, List.set_cons_succ]
            refine wpAnyY_take [] 6 (.int .i64 (r.H : Nat)) rfl (by kernel_rfl) (fun _ _ _ h => hPa _ _ _ _ (by rfl) h) SS rfl (by intro wz hz; have z := cellGS cl hz; go_simp) ?_
            try simp only [List.getElem_toArray, List.getElem_cons_succ, List.getElem_cons_zero, Act.put, List.setIfInBounds_toArray, List.set_cons_zero, List.set_cons_succ]
            refine wpAnyY_oneB 4 rfl (by kernel_rfl) (fun KK hKK => ?_)
            go_simp
            go_at_call 19
            refine hC.mono ?_
            rintro e wz ⟨rfl, hw⟩
            have hw := hw.symm
            subst hw
            dsimp only
            refine hKK _ _ (fun h _ => h) ?_
            try simp only [List.getElem_toArray, List.getElem_cons_succ, List.getElem_cons_zero, Act.put, List.setIfInBounds_toArray, List.set_cons_zero, List.set_cons_succ]
            refine wpAnyY_takeF 7 (.bool (decide ((wv3 : Int) ≤ (r.H : Int)))) rfl (by kernel_rfl) (fun _ _ _ h => hPa _ _ _ _ (by rfl) h) rfl (by intro wz; go_simp; try rfl) ?_
            try simp only [List.getElem_toArray, List.getElem_cons_succ, List.getElem_cons_zero, Act.put, List.setIfInBounds_toArray, List.set_cons_zero, List.set_cons_succ]
            refine wpAnyY_doneB (by kernel_rfl) ?_ _
            clear hC cl Fd SS
            (try simp only [Exit.inBlock, Exit.then])
            refine HK22.out _ _ ?_
            clear HK22
            have hv3 : wv3 = wrB B q (!t) := by rw [← hwv3, HNT.out]; exact rw_in (by rw [hBl]; omega)
            have HV3 : Hid _ := hv3
            clear hwv3 hv3
            by_cases hle : wv3 ≤ r.H
            · have hd : decide ((wv3 : Int) ≤ (r.H : Int)) = true := decide_eq_true (by omega)
              simp only [hd]
              refine wp_cond_true rfl ?_
              clear hd
              go_wp2
              (try simp only [Exit.inBlock, Exit.then])
              refine HK50.out _ _ ?_
              clear HK50
              exact FIN.out wc q 0 nt hOwc (by rw [← HNT.out]; exact HX.out.2.2.1 HA1.out HA2.out (by rw [← HV3.out]; exact hle)) (Nat.zero_le _) hq (by omega)
            · have hd : decide ((wv3 : Int) ≤ (r.H : Int)) = false := decide_eq_false (by omega)
              simp only [hd]
              refine wp_cond_false rfl ?_
              clear hd
              have HA3 : Hid (¬ wrB B q (!t) ≤ r.H) := (by show ¬ _; rw [← HV3.out]; exact hle)
              clear hle HV3 hnt
              obtain ⟨m1, hm1⟩ : ∃ m1, m1 = m + 1 := ⟨_, rfl⟩
              have hm1i : (m : Int) + 1 = (m1 : Int) := by omega
              have hm1b : m1 ≤ 9 := by omega
              have HM1 : Hid _ := hm1
              clear hm1
              have c3 : wc.cell? ⟨g, 3, none⟩ = some (.int .i64 (r.M : Nat)) := hOwc.box.cell 3 (by show 3 < 4; decide)
              by_cases hmm : r.M < m1
              · have hmi : (r.M : Int) < (m1 : Int) := by omega
                go_wp2
                exact (HNX.out wc ao no co ys q false t m1 hOwc (.inl ⟨rfl, HX.out.2.2.2.2 HA1.out HA2.out HA3.out (by have := HM1.out; omega)⟩) hq (by simp)).2
              · have hmi : ¬ (r.M : Int) < (m1 : Int) := by omega
                go_wp2
                (try simp only [Exit.inBlock, Exit.then])
                refine HK50.out _ _ ?_
                clear HK50
                exact FIN.out wc q m1 t hOwc (by rw [HM1.out]; exact HX.out.2.2.2.1 HA1.out HA2.out HA3.out (by have := HM1.out; omega)) (by omega) hq (by omega)
    · have hgi : ¬ (r.H : Int) < (wv : Int) := by omega
      refine wp_seq_k fun K13 hK13 => ?_
      have HK13 : Hid _ := hK13
      clear hK13
      go_wp2
      (try simp only [Exit.inBlock, Exit.then])
      refine HK13.out _ _ ?_
      clear HK13
      refine wp_cond_false rfl ?_
      have hin : q + 32 ≤ n := by
        rcases Nat.lt_or_ge n (q + 32) with h | h
        · have h1 := HWV.out
          rw [rw_out (by rw [hBl]; exact h)] at h1
          omega
        · exact h
      have hwH : wrB B q t ≤ r.H := by
        have h1 := HWV.out
        rw [rw_in (by rw [hBl]; exact hin)] at h1
        omega
      clear cl hgi
      go_wp2
      (try simp only [Exit.inBlock, Exit.then])
      refine HK50.out _ _ ?_
      clear HK50
      exact FIN.out W q 0 t hO0 (ex_here2 hE (by rw [hBl]; exact hin) hwH) (Nat.zero_le _) hq (by omega)
end
end Go.Proofs.Ythdjpbfknbafgaa
