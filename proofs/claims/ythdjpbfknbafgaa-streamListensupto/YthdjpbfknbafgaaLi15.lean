import Derived.Deep.LoopGhost
import Derived.Test.YthdjpbfknbafgaaLi14
import Derived.RangeFuncBox
import Derived.Test.YthdjpbfknbafgaaLi11
import Derived.Test.YthdjpbfknbafgaaLi12
namespace Go.Proofs.Ythdjpbfknbafgaa
open Go.RowKit
set_option maxRecDepth 100000
set_option linter.unusedVariables false
set_option linter.unusedSimpArgs false

section
open Go.RowKit Go.Shelf
attribute [local go_sem] Oper.semAt_some

/-- what Search answers -/
structure SrA (r : Rx) (B : List Nat) (w0 w' : World) (ao : Option Addr) (no co : Nat) (bb : Bool) (ys : List Fy) : Prop where
  own : w'.ownsRow w0.heap.size 42 4 (.slice ao no co) no (flY ys)
  len : ys.length = no
  dat : ∀ y, y ∈ ys → Ans w' w0.heap.size y.1.a y.1.n y.2 y.1.D
  says : (tkX r s0X B B.length).2 = ys.map (fun y => absF y.1)
  lock : bb = ((tkX r s0X B B.length).1.mode != 0)
  fr : Frm (fun _ => False) w0 w'
set_option maxHeartbeats 16000000 in
theorem searchL_any (r : Rx) (a : Option Addr) (n c : Nat) (B : List Nat) (w0 : World) (hR : Rd w0 a n c B) (hn : n ≤ 1048576) (hL1 : 1 ≤ r.L) (hL : r.L ≤ 2048) (hF : r.F ≤ 8) (hH : r.H ≤ 12) (hM : r.M ≤ 8) :
    Calls Try.prog 10 #[ruV r.L r.F r.H r.M, .slice a n c] w0 fun e w' => ∃ ao no co bb ys, e = .returned (.tuple #[.slice ao no co, .bool bb]) ∧ SrA r B w0 w' ao no co bb ys := by
  have gA := World.grownBy_alloc w0 (.cells #[.int .i64 (r.L : Nat), .int .i64 (r.F : Nat), .int .i64 (r.H : Nat), .int .i64 (r.M : Nat)] 23) none
  have F01 : Frm (fun _ => False) w0 _ := Frm.of gA (fun k e _ => by cases e)
  have hbx : BxS (w0.alloc (.cells #[.int .i64 (r.L : Nat), .int .i64 (r.F : Nat), .int .i64 (r.H : Nat), .int .i64 (r.M : Nat)] 23)) w0.heap.size 23 #[.int .i64 (r.L : Nat), .int .i64 (r.F : Nat), .int .i64 (r.H : Nat), .int .i64 (r.M : Nat)] := heap_alloc_new w0 (.cells #[.int .i64 (r.L : Nat), .int .i64 (r.F : Nat), .int .i64 (r.H : Nat), .int .i64 (r.M : Nat)] 23)
  have hS0 : SrO w0 w0.heap.size r none 0 0 [] (w0.alloc (.cells #[.int .i64 (r.L : Nat), .int .i64 (r.F : Nat), .int .i64 (r.H : Nat), .int .i64 (r.M : Nat)] 23)) := ⟨World.ownsRow_nil _ _ _ _, rfl, (fun y h => by cases h), F01, hbx⟩
  have HS0 : Hid _ := hS0
  have HF : Hid _ := F01
  clear hS0 hbx gA F01
  unfold ruV
  go_enter Try.func10, Try.ntmps10
  conv => enter [2]; whnf
  refine wp_seq_k fun K0 hK0 => ?_
  have HK0 : Hid _ := hK0
  clear hK0
  go_wp2
  (try simp only [Exit.inBlock, Exit.then])
  refine HK0.out _ _ ?_
  clear HK0
  refine wp_seq_k fun K1 hK1 => ?_
  have HK1 : Hid _ := hK1
  clear hK1
  go_wp2
  (try simp only [Exit.inBlock, Exit.then])
  refine HK1.out _ _ ?_
  clear HK1
  refine wp_seq_k fun K2 hK2 => ?_
  have HK2 : Hid _ := hK2
  clear hK2
  go_wp2
  (try simp only [Exit.inBlock, Exit.then])
  refine HK2.out _ _ ?_
  clear HK2
  refine wp_seq_k fun K3 hK3 => ?_
  have HK3 : Hid _ := hK3
  clear hK3
  go_wp2
  (try simp only [Exit.inBlock, Exit.then])
  refine HK3.out _ _ ?_
  clear HK3
  refine wp_block ?_
  refine wp_loop_ghost (fun z A W => ∃ (ao : Option Addr) (no co : Nat) (ys : List Fy) (q : Nat) (lk t : Bool) (m : Nat) (u : Nat → Value), A = (Act.mk (List.toArray ((u 0) :: (.slice a n c) :: (.pointer (some ⟨w0.heap.size, 0, none⟩)) :: (u 3) :: (u 4) :: (u 5) :: (.slice ao no co) :: (.int .i64 (q : Nat)) :: (.bool lk) :: (.bool t) :: (.int .i64 (m : Nat)) :: (u 11) :: (u 12) :: (u 13) :: (u 14) :: (u 15) :: (u 16) :: (u 17) :: (u 18) :: (u 19) :: (u 20) :: (u 21) :: (u 22) :: (u 23) :: (u 24) :: (u 25) :: (u 26) :: (u 27) :: (u 28) :: (u 29) :: (u 30) :: (u 31) :: (u 32) :: (u 33) :: (u 34) :: (u 35) :: (u 36) :: (u 37) :: (u 38) :: (u 39) :: (u 40) :: (u 41) :: (u 42) :: (u 43) :: (u 44) :: (u 45) :: (u 46) :: (u 47) :: (u 48) :: (u 49) :: (u 50) :: (u 51) :: (u 52) :: (u 53) :: (u 54) :: (u 55) :: (u 56) :: (u 57) :: (u 58) :: (u 59) :: (u 60) :: (u 61) :: (u 62) :: (u 63) :: (u 64) :: (u 65) :: (u 66) :: (u 67) :: (u 68) :: (u 69) :: (u 70) :: (u 71) :: (u 72) :: (u 73) :: (u 74) :: (u 75) :: (u 76) :: (u 77) :: (u 78) :: (u 79) :: (u 80) :: (u 81) :: (u 82) :: (u 83) :: (u 84) :: (u 85) :: (u 86) :: (u 87) :: (u 88) :: (u 89) :: (u 90) :: (u 91) :: (u 92) :: (u 93) :: (u 94) :: (u 95) :: (u 96) :: (u 97) :: (u 98) :: (u 99) :: (u 100) :: (u 101) :: (u 102) :: (u 103) :: (u 104) :: (u 105) :: (u 106) :: (u 107) :: (u 108) :: (u 109) :: (u 110) :: (u 111) :: (u 112) :: (u 113) :: (u 114) :: (u 115) :: (u 116) :: (u 117) :: (u 118) :: (u 119) :: (u 120) :: (u 121) :: (u 122) :: (u 123) :: (u 124) :: (u 125) :: (u 126) :: (u 127) :: (u 128) :: (u 129) :: (u 130) :: (u 131) :: (u 132) :: (u 133) :: (u 134) :: [])) []) ∧ SrO w0 w0.heap.size r ao no co ys W ∧ SrI r B q lk t m (ys.map (fun y => absF y.1)) ∧ q ≤ n ∧ z = 2 * (n + 100 - q) + (if lk then 1 else 0)) (2 * (n + 100 - 0) + 0) ?_ ?_
  · refine ⟨none, 0, 0, [], 0, false, false, 0, (fun k => if k = 0 then .agg #[.int .i64 (r.L : Nat), .int .i64 (r.F : Nat), .int .i64 (r.H : Nat), .int .i64 (r.M : Nat)] else if k = 4 then .slice none 0 0 else if k = 5 then .bool false else undef), ?_⟩
    refine ⟨rfl, ?_⟩
    exact ⟨HS0.out, .inl ⟨rfl, srch_start r B⟩, Nat.zero_le _, by simp⟩
  · rintro z A W ⟨ao, no, co, ys, q, lk, t, m, u, rfl, hO, hI, hq, hz0⟩
    subst hz0
    refine wp_block ?_
    refine se_4 w0 W w0.heap.size n c no co q m a ao lk t B r ys hR hn hq hL1 hL hF hH hM (Nat.le_refl _) hO hI ?_ ?_ ?_
    · intro cc a1 a2 w e h
      cases a1
      cases a2
      simp only at e
      subst e
      exact h
    · intro W' bb z0 z1 z2 z3 z6 z7 z8 z9 z10 z11 z12 z13 z14 z15 z16 z17 z18 z19 z20 z21 z22 z23 z24 z25 z26 z27 z28 z29 z30 z31 z32 z33 z34 z35 z36 z37 z38 z39 z40 z41 z42 z43 z44 z45 z46 z47 z48 z49 z50 z51 z52 z53 z54 z55 z56 z57 z58 z59 z60 z61 z62 z63 z64 z65 z66 z67 z68 z69 z70 z71 z72 z73 z74 z75 z76 z77 z78 z79 z80 z81 z82 z83 z84 z85 z86 z87 z88 z89 z90 z91 z92 z93 z94 z95 z96 z97 z98 z99 z100 z101 z102 z103 z104 z105 z106 z107 z108 z109 z110 z111 z112 z113 z114 z115 z116 z117 z118 z119 z120 z121 z122 z123 z124 z125 z126 z127 z128 z129 z130 z131 z132 z133 z134 hO' e1 e2
      simp only [Exit.inBlock, Exit.then]
      refine bodyPost_ret (results_tmp2 (t := 4) (u := 5) (by kernel_rfl) _ _ _) rfl ?_
      exact ⟨ao, no, co, bb, ys, rfl, hO'.own, hO'.len, hO'.dat, e1, e2, hO'.frm⟩
    · intro W' ao' no' co' ys' q' lk' t' m' z0 z3 z4 z5 z11 z12 z13 z14 z15 z16 z17 z18 z19 z20 z21 z22 z23 z24 z25 z26 z27 z28 z29 z30 z31 z32 z33 z34 z35 z36 z37 z38 z39 z40 z41 z42 z43 z44 z45 z46 z47 z48 z49 z50 z51 z52 z53 z54 z55 z56 z57 z58 z59 z60 z61 z62 z63 z64 z65 z66 z67 z68 z69 z70 z71 z72 z73 z74 z75 z76 z77 z78 z79 z80 z81 z82 z83 z84 z85 z86 z87 z88 z89 z90 z91 z92 z93 z94 z95 z96 z97 z98 z99 z100 z101 z102 z103 z104 z105 z106 z107 z108 z109 z110 z111 z112 z113 z114 z115 z116 z117 z118 z119 z120 z121 z122 z123 z124 z125 z126 z127 z128 z129 z130 z131 z132 z133 z134 hO' hI' hq' hz
      have key : ∃ z', z' < 2 * (n + 100 - q) + (if lk = true then 1 else 0) ∧ (fun z A W => ∃ (ao : Option Addr) (no co : Nat) (ys : List Fy) (q : Nat) (lk t : Bool) (m : Nat) (u : Nat → Value), A = (Act.mk (List.toArray ((u 0) :: (.slice a n c) :: (.pointer (some ⟨w0.heap.size, 0, none⟩)) :: (u 3) :: (u 4) :: (u 5) :: (.slice ao no co) :: (.int .i64 (q : Nat)) :: (.bool lk) :: (.bool t) :: (.int .i64 (m : Nat)) :: (u 11) :: (u 12) :: (u 13) :: (u 14) :: (u 15) :: (u 16) :: (u 17) :: (u 18) :: (u 19) :: (u 20) :: (u 21) :: (u 22) :: (u 23) :: (u 24) :: (u 25) :: (u 26) :: (u 27) :: (u 28) :: (u 29) :: (u 30) :: (u 31) :: (u 32) :: (u 33) :: (u 34) :: (u 35) :: (u 36) :: (u 37) :: (u 38) :: (u 39) :: (u 40) :: (u 41) :: (u 42) :: (u 43) :: (u 44) :: (u 45) :: (u 46) :: (u 47) :: (u 48) :: (u 49) :: (u 50) :: (u 51) :: (u 52) :: (u 53) :: (u 54) :: (u 55) :: (u 56) :: (u 57) :: (u 58) :: (u 59) :: (u 60) :: (u 61) :: (u 62) :: (u 63) :: (u 64) :: (u 65) :: (u 66) :: (u 67) :: (u 68) :: (u 69) :: (u 70) :: (u 71) :: (u 72) :: (u 73) :: (u 74) :: (u 75) :: (u 76) :: (u 77) :: (u 78) :: (u 79) :: (u 80) :: (u 81) :: (u 82) :: (u 83) :: (u 84) :: (u 85) :: (u 86) :: (u 87) :: (u 88) :: (u 89) :: (u 90) :: (u 91) :: (u 92) :: (u 93) :: (u 94) :: (u 95) :: (u 96) :: (u 97) :: (u 98) :: (u 99) :: (u 100) :: (u 101) :: (u 102) :: (u 103) :: (u 104) :: (u 105) :: (u 106) :: (u 107) :: (u 108) :: (u 109) :: (u 110) :: (u 111) :: (u 112) :: (u 113) :: (u 114) :: (u 115) :: (u 116) :: (u 117) :: (u 118) :: (u 119) :: (u 120) :: (u 121) :: (u 122) :: (u 123) :: (u 124) :: (u 125) :: (u 126) :: (u 127) :: (u 128) :: (u 129) :: (u 130) :: (u 131) :: (u 132) :: (u 133) :: (u 134) :: [])) []) ∧ SrO w0 w0.heap.size r ao no co ys W ∧ SrI r B q lk t m (ys.map (fun y => absF y.1)) ∧ q ≤ n ∧ z = 2 * (n + 100 - q) + (if lk then 1 else 0)) z' (Act.mk (List.toArray (z0 :: (.slice a n c) :: (.pointer (some ⟨w0.heap.size, 0, none⟩)) :: z3 :: z4 :: z5 :: (.slice ao' no' co') :: (.int .i64 (q' : Nat)) :: (.bool lk') :: (.bool t') :: (.int .i64 (m' : Nat)) :: z11 :: z12 :: z13 :: z14 :: z15 :: z16 :: z17 :: z18 :: z19 :: z20 :: z21 :: z22 :: z23 :: z24 :: z25 :: z26 :: z27 :: z28 :: z29 :: z30 :: z31 :: z32 :: z33 :: z34 :: z35 :: z36 :: z37 :: z38 :: z39 :: z40 :: z41 :: z42 :: z43 :: z44 :: z45 :: z46 :: z47 :: z48 :: z49 :: z50 :: z51 :: z52 :: z53 :: z54 :: z55 :: z56 :: z57 :: z58 :: z59 :: z60 :: z61 :: z62 :: z63 :: z64 :: z65 :: z66 :: z67 :: z68 :: z69 :: z70 :: z71 :: z72 :: z73 :: z74 :: z75 :: z76 :: z77 :: z78 :: z79 :: z80 :: z81 :: z82 :: z83 :: z84 :: z85 :: z86 :: z87 :: z88 :: z89 :: z90 :: z91 :: z92 :: z93 :: z94 :: z95 :: z96 :: z97 :: z98 :: z99 :: z100 :: z101 :: z102 :: z103 :: z104 :: z105 :: z106 :: z107 :: z108 :: z109 :: z110 :: z111 :: z112 :: z113 :: z114 :: z115 :: z116 :: z117 :: z118 :: z119 :: z120 :: z121 :: z122 :: z123 :: z124 :: z125 :: z126 :: z127 :: z128 :: z129 :: z130 :: z131 :: z132 :: z133 :: z134 :: [])) []) W' := by
        refine ⟨_, hz, ao', no', co', ys', q', lk', t', m', (fun k => [z0, undef, undef, z3, z4, z5, undef, undef, undef, undef, undef, z11, z12, z13, z14, z15, z16, z17, z18, z19, z20, z21, z22, z23, z24, z25, z26, z27, z28, z29, z30, z31, z32, z33, z34, z35, z36, z37, z38, z39, z40, z41, z42, z43, z44, z45, z46, z47, z48, z49, z50, z51, z52, z53, z54, z55, z56, z57, z58, z59, z60, z61, z62, z63, z64, z65, z66, z67, z68, z69, z70, z71, z72, z73, z74, z75, z76, z77, z78, z79, z80, z81, z82, z83, z84, z85, z86, z87, z88, z89, z90, z91, z92, z93, z94, z95, z96, z97, z98, z99, z100, z101, z102, z103, z104, z105, z106, z107, z108, z109, z110, z111, z112, z113, z114, z115, z116, z117, z118, z119, z120, z121, z122, z123, z124, z125, z126, z127, z128, z129, z130, z131, z132, z133, z134].getD k undef), ?_⟩
        exact ⟨rfl, hO', hI', hq', rfl⟩
      exact ⟨key, key⟩
end

section
open Go.RowKit Go.Shelf
attribute [local go_sem] Oper.semAt_some

/-- a row of frames as it is read -/
structure RdF (w : World) (p : Option Addr) (n c : Nat) (ys : List Fy) : Prop where
  len : ys.length = n
  max : n ≤ 140737488351232
  at' : 0 < n → ∃ g o, p = some ⟨g, o, none⟩ ∧ ∀ j y, ys[j]? = some y → w.cell? ⟨g, o + j * 4, none⟩ = some (.int .i64 (y.1.p : Nat)) ∧ w.cell? ⟨g, o + j * 4 + 1, none⟩ = some (.bool y.1.tu) ∧ w.cell? ⟨g, o + j * 4 + 2, none⟩ = some (.int .i64 (y.1.mi : Nat)) ∧ w.cell? ⟨g, o + j * 4 + 3, none⟩ = some (.slice y.1.a y.1.n y.2)
  dat : ∀ y, y ∈ ys → Rd w y.1.a y.1.n y.2 y.1.D
set_option maxHeartbeats 16000000 in
theorem sameFound_any (a b : Option Addr) (n c m d : Nat) (ys zs : List Fy) (w : World) (h : RdF w a n c ys) (k : RdF w b m d zs) (he : ys.map (fun y => absF y.1) = zs.map (fun y => absF y.1)) :
    Calls Try.prog 11 #[.slice a n c, .slice b m d] w fun e w' => e = .returned (.bool true) ∧ w.grownBy w' none := by
  have hl1 := h.len
  have hl2 := k.len
  have hnm : n = m := by have := congrArg List.length he; rw [List.length_map, List.length_map] at this; omega
  subst hnm
  have hmx := h.max
  go_enter Try.func11, Try.ntmps11
  refine wp_seq_k fun K0 hK0 => ?_
  have HK0 : Hid _ := hK0
  clear hK0
  go_wp2
  (try simp only [Exit.inBlock, Exit.then])
  refine HK0.out _ _ ?_
  clear HK0
  refine wp_seq_k fun K1 hK1 => ?_
  have HK1 : Hid _ := hK1
  clear hK1
  go_wp2
  (try simp only [Exit.inBlock, Exit.then])
  refine HK1.out _ _ ?_
  clear HK1
  refine wp_seq_k fun K2 hK2 => ?_
  have HK2 : Hid _ := hK2
  clear hK2
  go_wp2
  go_loopw [5] (fun iv wr => ∃ j : Nat, j ≤ n ∧ iv = .int .i64 j ∧ w.grownBy wr none) (fun iv _ => n - (intOf iv).toNat)
  case atStart => exact ⟨0, by omega, rfl, World.grownBy.refl _ _⟩
  case round =>
    obtain ⟨j, hj, rfl, hgr⟩ := hrel
    by_cases hlt : j < n
    · obtain ⟨ga, oa, rfl, ca⟩ := h.at' (by omega)
      obtain ⟨gb, ob, rfl, cb⟩ := k.at' (by omega)
      obtain ⟨y, hy⟩ : ∃ y, ys[j]? = some y := ⟨_, List.getElem?_eq_getElem (by omega)⟩
      obtain ⟨z, hz⟩ : ∃ z, zs[j]? = some z := ⟨_, List.getElem?_eq_getElem (by omega)⟩
      have hd : absF y.1 = absF z.1 := by
        have e1 : (ys.map (fun y => absF y.1))[j]? = some (absF y.1) := by rw [List.getElem?_map, hy]; rfl
        have e2 : (zs.map (fun y => absF y.1))[j]? = some (absF z.1) := by rw [List.getElem?_map, hz]; rfl
        rw [he, e2] at e1
        exact (Option.some.inj e1).symm
      obtain ⟨a0, a1, a2, a3⟩ := ca j y hy
      obtain ⟨b0, b1, b2, b3⟩ := cb j z hz
      have hA := h.dat y (List.mem_of_getElem? hy)
      have hB := k.dat z (List.mem_of_getElem? hz)
      obtain ⟨⟨yp, yt, ym, ya, yn, yD⟩, yc⟩ := y
      obtain ⟨⟨zp, zt, zm, za, zn, zD⟩, zc⟩ := z
      unfold absF at hd
      simp only [Prod.mk.injEq] at hd
      obtain ⟨rfl, rfl, rfl, rfl⟩ := hd
      simp only at a0 a1 a2 a3 b0 b1 b2 b3 hA hB
      have l1 : (j : Int) < (n : Int) := by omega
      have HE : Hid _ := he
      clear ca cb hy hz he
      have Fw : Frm (fun _ => False) w wr.drew := Frm.of (grown_trans hgr (grown_drew wr none)) (fun k e _ => by cases e)
      have Gd := grown_trans hgr (grown_drew wr none)
      refine wp_seq_k fun K5 hK5 => ?_
      have HK5 : Hid _ := hK5
      clear hK5
      go_wp2
      (try simp only [Exit.inBlock, Exit.then])
      refine HK5.out _ _ ?_
      clear HK5
      refine wp_seq_k fun K6 hK6 => ?_
      have HK6 : Hid _ := hK6
      clear hK6
      refine wp_block ?_
      refine wp_seq_k fun K7 hK7 => ?_
      have HK7 : Hid _ := hK7
      clear hK7
      have SS : wr.drew.grownBy wr.drew none := World.grownBy.refl _ _
      have a0 := cellGS a0 Gd
      have a1 := cellGS a1 Gd
      have a2 := cellGS a2 Gd
      have a3 := cellGS a3 Gd
      have b0 := cellGS b0 Gd
      have b1 := cellGS b1 Gd
      have b2 := cellGS b2 Gd
      have b3 := cellGS b3 Gd
      have hA := Rd.keepF (p := fun _ => False) hA Fw
      have hB := Rd.keepF (p := fun _ => False) hB Fw
      refine wp_regionM (fun wz => wr.drew.grownBy wz none) [] #[false, false, false, false, false, false, false, false, false, false, false, false, false, false, false, false, false, false, false, false, false, false, false, false, false, false, false, false, false, false, false, false, false, false, false, false, false, false, false, false, false, false, false, false, false, false, false, false, false, false, false] rfl (by kernel_rfl) ?_
      generalize wr.drew = w2 at *
      refine wpAnyY_takeF 0 (.slice (some ⟨ga, oa, none⟩) n c) rfl (by kernel_rfl) (fun _ _ _ h => h) rfl (by intro wz; go_simp; try rfl) ?_
      try simp only [List.getElem_toArray, List.getElem_cons_succ, List.getElem_cons_zero, Act.put, List.setIfInBounds_toArray, List.set_cons_zero, List.set_cons_succ]
      refine wpAnyY_takeF 1 (.int .i64 (j : Nat)) rfl (by kernel_rfl) (fun _ _ _ h => h) rfl (by intro wz; go_simp; try rfl) ?_
      try simp only [List.getElem_toArray, List.getElem_cons_succ, List.getElem_cons_zero, Act.put, List.setIfInBounds_toArray, List.set_cons_zero, List.set_cons_succ]
      refine wpAnyY_takeF 2 (.pointer (some ⟨ga, oa + j * 4, none⟩)) rfl (by kernel_rfl) (fun _ _ _ h => h) rfl (by intro wz; go_simp; try rfl) ?_
      try simp only [List.getElem_toArray, List.getElem_cons_succ, List.getElem_cons_zero, Act.put, List.setIfInBounds_toArray, List.set_cons_zero, List.set_cons_succ]
      refine wpAnyY_takeF 3 (.pointer (some ⟨ga, oa + j * 4, none⟩)) rfl (by kernel_rfl) (fun _ _ _ h => h) rfl (by intro wz; go_simp; try rfl) ?_
      try simp only [List.getElem_toArray, List.getElem_cons_succ, List.getElem_cons_zero, Act.put, List.setIfInBounds_toArray, List.set_cons_zero, List.set_cons_succ]
      refine wpAnyY_take [] 4 (.int .i64 (yp : Nat)) rfl (by kernel_rfl) (fun _ _ _ h => h) SS rfl (by intro wz hz; have z := cellGS a0 hz; go_simp) ?_
      try simp only [List.getElem_toArray, List.getElem_cons_succ, List.getElem_cons_zero, Act.put, List.setIfInBounds_toArray, List.set_cons_zero, List.set_cons_succ]
      refine wpAnyY_takeF 5 (.slice (some ⟨gb, ob, none⟩) n d) rfl (by kernel_rfl) (fun _ _ _ h => h) rfl (by intro wz; go_simp; try rfl) ?_
      try simp only [List.getElem_toArray, List.getElem_cons_succ, List.getElem_cons_zero, Act.put, List.setIfInBounds_toArray, List.set_cons_zero, List.set_cons_succ]
      refine wpAnyY_takeF 6 (.int .i64 (j : Nat)) rfl (by kernel_rfl) (fun _ _ _ h => h) rfl (by intro wz; go_simp; try rfl) ?_
      try simp only [List.getElem_toArray, List.getElem_cons_succ, List.getElem_cons_zero, Act.put, List.setIfInBounds_toArray, List.set_cons_zero, List.set_cons_succ]
      refine wpAnyY_takeF 7 (.pointer (some ⟨gb, ob + j * 4, none⟩)) rfl (by kernel_rfl) (fun _ _ _ h => h) rfl (by intro wz; go_simp; try rfl) ?_
      try simp only [List.getElem_toArray, List.getElem_cons_succ, List.getElem_cons_zero, Act.put, List.setIfInBounds_toArray, List.set_cons_zero, List.set_cons_succ]
      refine wpAnyY_takeF 8 (.pointer (some ⟨gb, ob + j * 4, none⟩)) rfl (by kernel_rfl) (fun _ _ _ h => h) rfl (by intro wz; go_simp; try rfl) ?_
      try simp only [List.getElem_toArray, List.getElem_cons_succ, List.getElem_cons_zero, Act.put, List.setIfInBounds_toArray, List.set_cons_zero, List.set_cons_succ]
      refine wpAnyY_take [] 9 (.int .i64 (yp : Nat)) rfl (by kernel_rfl) (fun _ _ _ h => h) SS rfl (by intro wz hz; have z := cellGS b0 hz; go_simp) ?_
      try simp only [List.getElem_toArray, List.getElem_cons_succ, List.getElem_cons_zero, Act.put, List.setIfInBounds_toArray, List.set_cons_zero, List.set_cons_succ]
      refine wpAnyY_takeF 10 (.bool false) rfl (by kernel_rfl) (fun _ _ _ h => h) rfl (by intro wz; go_simp; try rfl) ?_
      try simp only [List.getElem_toArray, List.getElem_cons_succ, List.getElem_cons_zero, Act.put, List.setIfInBounds_toArray, List.set_cons_zero, List.set_cons_succ]
      refine wpAnyY_takeF 11 (.bool false) rfl (by kernel_rfl) (fun _ _ _ h => h) rfl (by intro wz; go_simp; try rfl) ?_
      try simp only [List.getElem_toArray, List.getElem_cons_succ, List.getElem_cons_zero, Act.put, List.setIfInBounds_toArray, List.set_cons_zero, List.set_cons_succ]
      refine wpAnyY_takeF 12 (.slice (some ⟨ga, oa, none⟩) n c) rfl (by kernel_rfl) (fun _ _ _ h => h) rfl (by intro wz; go_simp; try rfl) ?_
      try simp only [List.getElem_toArray, List.getElem_cons_succ, List.getElem_cons_zero, Act.put, List.setIfInBounds_toArray, List.set_cons_zero, List.set_cons_succ]
      refine wpAnyY_takeF 13 (.int .i64 (j : Nat)) rfl (by kernel_rfl) (fun _ _ _ h => h) rfl (by intro wz; go_simp; try rfl) ?_
      try simp only [List.getElem_toArray, List.getElem_cons_succ, List.getElem_cons_zero, Act.put, List.setIfInBounds_toArray, List.set_cons_zero, List.set_cons_succ]
      refine wpAnyY_takeF 14 (.pointer (some ⟨ga, oa + j * 4, none⟩)) rfl (by kernel_rfl) (fun _ _ _ h => h) rfl (by intro wz; go_simp; try rfl) ?_
      try simp only [List.getElem_toArray, List.getElem_cons_succ, List.getElem_cons_zero, Act.put, List.setIfInBounds_toArray, List.set_cons_zero, List.set_cons_succ]
      refine wpAnyY_takeF 15 (.pointer (some ⟨ga, oa + j * 4 + 1, none⟩)) rfl (by kernel_rfl) (fun _ _ _ h => h) rfl (by intro wz; go_simp; try rfl) ?_
      try simp only [List.getElem_toArray, List.getElem_cons_succ, List.getElem_cons_zero, Act.put, List.setIfInBounds_toArray, List.set_cons_zero, List.set_cons_succ]
      refine wpAnyY_take [] 16 (.bool yt) rfl (by kernel_rfl) (fun _ _ _ h => h) SS rfl (by intro wz hz; have z := cellGS a1 hz; go_simp) ?_
      try simp only [List.getElem_toArray, List.getElem_cons_succ, List.getElem_cons_zero, Act.put, List.setIfInBounds_toArray, List.set_cons_zero, List.set_cons_succ]
      refine wpAnyY_takeF 17 (.slice (some ⟨gb, ob, none⟩) n d) rfl (by kernel_rfl) (fun _ _ _ h => h) rfl (by intro wz; go_simp; try rfl) ?_
      try simp only [List.getElem_toArray, List.getElem_cons_succ, List.getElem_cons_zero, Act.put, List.setIfInBounds_toArray, List.set_cons_zero, List.set_cons_succ]
      refine wpAnyY_takeF 18 (.int .i64 (j : Nat)) rfl (by kernel_rfl) (fun _ _ _ h => h) rfl (by intro wz; go_simp; try rfl) ?_
      try simp only [List.getElem_toArray, List.getElem_cons_succ, List.getElem_cons_zero, Act.put, List.setIfInBounds_toArray, List.set_cons_zero, List.set_cons_succ]
      refine wpAnyY_takeF 19 (.pointer (some ⟨gb, ob + j * 4, none⟩)) rfl (by kernel_rfl) (fun _ _ _ h => h) rfl (by intro wz; go_simp; try rfl) ?_
      try simp only [List.getElem_toArray, List.getElem_cons_succ, List.getElem_cons_zero, Act.put, List.setIfInBounds_toArray, List.set_cons_zero, List.set_cons_succ]
      refine wpAnyY_takeF 20 (.pointer (some ⟨gb, ob + j * 4 + 1, none⟩)) rfl (by kernel_rfl) (fun _ _ _ h => h) rfl (by intro wz; go_simp; try rfl) ?_
      try simp only [List.getElem_toArray, List.getElem_cons_succ, List.getElem_cons_zero, Act.put, List.setIfInBounds_toArray, List.set_cons_zero, List.set_cons_succ]
      refine wpAnyY_take [] 21 (.bool yt) rfl (by kernel_rfl) (fun _ _ _ h => h) SS rfl (by intro wz hz; have z := cellGS b1 hz; go_simp) ?_
      try simp only [List.getElem_toArray, List.getElem_cons_succ, List.getElem_cons_zero, Act.put, List.setIfInBounds_toArray, List.set_cons_zero, List.set_cons_succ]
      refine wpAnyY_takeF 22 (.bool false) rfl (by kernel_rfl) (fun _ _ _ h => h) rfl (by intro wz; go_simp; try rfl) ?_
      try simp only [List.getElem_toArray, List.getElem_cons_succ, List.getElem_cons_zero, Act.put, List.setIfInBounds_toArray, List.set_cons_zero, List.set_cons_succ]
      refine wpAnyY_takeF 23 (.bool false) rfl (by kernel_rfl) (fun _ _ _ h => h) rfl (by intro wz; go_simp; try rfl) ?_
      try simp only [List.getElem_toArray, List.getElem_cons_succ, List.getElem_cons_zero, Act.put, List.setIfInBounds_toArray, List.set_cons_zero, List.set_cons_succ]
      refine wpAnyY_takeF 24 (.bool false) rfl (by kernel_rfl) (fun _ _ _ h => h) rfl (by intro wz; go_simp; try rfl) ?_
      try simp only [List.getElem_toArray, List.getElem_cons_succ, List.getElem_cons_zero, Act.put, List.setIfInBounds_toArray, List.set_cons_zero, List.set_cons_succ]
      refine wpAnyY_takeF 25 (.slice (some ⟨ga, oa, none⟩) n c) rfl (by kernel_rfl) (fun _ _ _ h => h) rfl (by intro wz; go_simp; try rfl) ?_
      try simp only [List.getElem_toArray, List.getElem_cons_succ, List.getElem_cons_zero, Act.put, List.setIfInBounds_toArray, List.set_cons_zero, List.set_cons_succ]
      refine wpAnyY_takeF 26 (.int .i64 (j : Nat)) rfl (by kernel_rfl) (fun _ _ _ h => h) rfl (by intro wz; go_simp; try rfl) ?_
      try simp only [List.getElem_toArray, List.getElem_cons_succ, List.getElem_cons_zero, Act.put, List.setIfInBounds_toArray, List.set_cons_zero, List.set_cons_succ]
      refine wpAnyY_takeF 27 (.pointer (some ⟨ga, oa + j * 4, none⟩)) rfl (by kernel_rfl) (fun _ _ _ h => h) rfl (by intro wz; go_simp; try rfl) ?_
      try simp only [List.getElem_toArray, List.getElem_cons_succ, List.getElem_cons_zero, Act.put, List.setIfInBounds_toArray, List.set_cons_zero, List.set_cons_succ]
      refine wpAnyY_takeF 28 (.pointer (some ⟨ga, oa + j * 4 + 2, none⟩)) rfl (by kernel_rfl) (fun _ _ _ h => h) rfl (by intro wz; go_simp; try rfl) ?_
      try simp only [List.getElem_toArray, List.getElem_cons_succ, List.getElem_cons_zero, Act.put, List.setIfInBounds_toArray, List.set_cons_zero, List.set_cons_succ]
      refine wpAnyY_take [] 29 (.int .i64 (ym : Nat)) rfl (by kernel_rfl) (fun _ _ _ h => h) SS rfl (by intro wz hz; have z := cellGS a2 hz; go_simp) ?_
      try simp only [List.getElem_toArray, List.getElem_cons_succ, List.getElem_cons_zero, Act.put, List.setIfInBounds_toArray, List.set_cons_zero, List.set_cons_succ]
      refine wpAnyY_takeF 30 (.slice (some ⟨gb, ob, none⟩) n d) rfl (by kernel_rfl) (fun _ _ _ h => h) rfl (by intro wz; go_simp; try rfl) ?_
      try simp only [List.getElem_toArray, List.getElem_cons_succ, List.getElem_cons_zero, Act.put, List.setIfInBounds_toArray, List.set_cons_zero, List.set_cons_succ]
      refine wpAnyY_takeF 31 (.int .i64 (j : Nat)) rfl (by kernel_rfl) (fun _ _ _ h => h) rfl (by intro wz; go_simp; try rfl) ?_
      try simp only [List.getElem_toArray, List.getElem_cons_succ, List.getElem_cons_zero, Act.put, List.setIfInBounds_toArray, List.set_cons_zero, List.set_cons_succ]
      refine wpAnyY_takeF 32 (.pointer (some ⟨gb, ob + j * 4, none⟩)) rfl (by kernel_rfl) (fun _ _ _ h => h) rfl (by intro wz; go_simp; try rfl) ?_
      try simp only [List.getElem_toArray, List.getElem_cons_succ, List.getElem_cons_zero, Act.put, List.setIfInBounds_toArray, List.set_cons_zero, List.set_cons_succ]
      refine wpAnyY_takeF 33 (.pointer (some ⟨gb, ob + j * 4 + 2, none⟩)) rfl (by kernel_rfl) (fun _ _ _ h => h) rfl (by intro wz; go_simp; try rfl) ?_
      try simp only [List.getElem_toArray, List.getElem_cons_succ, List.getElem_cons_zero, Act.put, List.setIfInBounds_toArray, List.set_cons_zero, List.set_cons_succ]
      refine wpAnyY_take [] 34 (.int .i64 (ym : Nat)) rfl (by kernel_rfl) (fun _ _ _ h => h) SS rfl (by intro wz hz; have z := cellGS b2 hz; go_simp) ?_
      try simp only [List.getElem_toArray, List.getElem_cons_succ, List.getElem_cons_zero, Act.put, List.setIfInBounds_toArray, List.set_cons_zero, List.set_cons_succ]
      refine wpAnyY_takeF 35 (.bool false) rfl (by kernel_rfl) (fun _ _ _ h => h) rfl (by intro wz; go_simp; try rfl) ?_
      try simp only [List.getElem_toArray, List.getElem_cons_succ, List.getElem_cons_zero, Act.put, List.setIfInBounds_toArray, List.set_cons_zero, List.set_cons_succ]
      refine wpAnyY_takeF 36 (.bool false) rfl (by kernel_rfl) (fun _ _ _ h => h) rfl (by intro wz; go_simp; try rfl) ?_
      try simp only [List.getElem_toArray, List.getElem_cons_succ, List.getElem_cons_zero, Act.put, List.setIfInBounds_toArray, List.set_cons_zero, List.set_cons_succ]
      refine wpAnyY_takeF 37 (.bool false) rfl (by kernel_rfl) (fun _ _ _ h => h) rfl (by intro wz; go_simp; try rfl) ?_
      try simp only [List.getElem_toArray, List.getElem_cons_succ, List.getElem_cons_zero, Act.put, List.setIfInBounds_toArray, List.set_cons_zero, List.set_cons_succ]
      refine wpAnyY_takeF 38 (.slice (some ⟨ga, oa, none⟩) n c) rfl (by kernel_rfl) (fun _ _ _ h => h) rfl (by intro wz; go_simp; try rfl) ?_
      try simp only [List.getElem_toArray, List.getElem_cons_succ, List.getElem_cons_zero, Act.put, List.setIfInBounds_toArray, List.set_cons_zero, List.set_cons_succ]
      refine wpAnyY_takeF 39 (.int .i64 (j : Nat)) rfl (by kernel_rfl) (fun _ _ _ h => h) rfl (by intro wz; go_simp; try rfl) ?_
      try simp only [List.getElem_toArray, List.getElem_cons_succ, List.getElem_cons_zero, Act.put, List.setIfInBounds_toArray, List.set_cons_zero, List.set_cons_succ]
      refine wpAnyY_takeF 40 (.pointer (some ⟨ga, oa + j * 4, none⟩)) rfl (by kernel_rfl) (fun _ _ _ h => h) rfl (by intro wz; go_simp; try rfl) ?_
      try simp only [List.getElem_toArray, List.getElem_cons_succ, List.getElem_cons_zero, Act.put, List.setIfInBounds_toArray, List.set_cons_zero, List.set_cons_succ]
      refine wpAnyY_takeF 41 (.pointer (some ⟨ga, oa + j * 4 + 3, none⟩)) rfl (by kernel_rfl) (fun _ _ _ h => h) rfl (by intro wz; go_simp; try rfl) ?_
      try simp only [List.getElem_toArray, List.getElem_cons_succ, List.getElem_cons_zero, Act.put, List.setIfInBounds_toArray, List.set_cons_zero, List.set_cons_succ]
      refine wpAnyY_take [] 42 (.slice ya yn yc) rfl (by kernel_rfl) (fun _ _ _ h => h) SS rfl (by intro wz hz; have z := cellGS a3 hz; go_simp) ?_
      try simp only [List.getElem_toArray, List.getElem_cons_succ, List.getElem_cons_zero, Act.put, List.setIfInBounds_toArray, List.set_cons_zero, List.set_cons_succ]
      refine wpAnyY_takeF 43 (.slice (some ⟨gb, ob, none⟩) n d) rfl (by kernel_rfl) (fun _ _ _ h => h) rfl (by intro wz; go_simp; try rfl) ?_
      try simp only [List.getElem_toArray, List.getElem_cons_succ, List.getElem_cons_zero, Act.put, List.setIfInBounds_toArray, List.set_cons_zero, List.set_cons_succ]
      refine wpAnyY_takeF 44 (.int .i64 (j : Nat)) rfl (by kernel_rfl) (fun _ _ _ h => h) rfl (by intro wz; go_simp; try rfl) ?_
      try simp only [List.getElem_toArray, List.getElem_cons_succ, List.getElem_cons_zero, Act.put, List.setIfInBounds_toArray, List.set_cons_zero, List.set_cons_succ]
      refine wpAnyY_takeF 45 (.pointer (some ⟨gb, ob + j * 4, none⟩)) rfl (by kernel_rfl) (fun _ _ _ h => h) rfl (by intro wz; go_simp; try rfl) ?_
      try simp only [List.getElem_toArray, List.getElem_cons_succ, List.getElem_cons_zero, Act.put, List.setIfInBounds_toArray, List.set_cons_zero, List.set_cons_succ]
      refine wpAnyY_takeF 46 (.pointer (some ⟨gb, ob + j * 4 + 3, none⟩)) rfl (by kernel_rfl) (fun _ _ _ h => h) rfl (by intro wz; go_simp; try rfl) ?_
      try simp only [List.getElem_toArray, List.getElem_cons_succ, List.getElem_cons_zero, Act.put, List.setIfInBounds_toArray, List.set_cons_zero, List.set_cons_succ]
      refine wpAnyY_take [] 47 (.slice za zn zc) rfl (by kernel_rfl) (fun _ _ _ h => h) SS rfl (by intro wz hz; have z := cellGS b3 hz; go_simp) ?_
      try simp only [List.getElem_toArray, List.getElem_cons_succ, List.getElem_cons_zero, Act.put, List.setIfInBounds_toArray, List.set_cons_zero, List.set_cons_succ]
      refine wpAnyY_oneB 48 rfl (by kernel_rfl) (fun KK hKK => ?_)
      go_simp
      go_at_call 22
      refine (sameBytes_any ya za yn zn yc zc yD w2 hA hB).mono ?_
      rintro e w3 ⟨rfl, hw⟩
      have hw := hw.symm
      subst hw
      dsimp only
      refine hKK _ _ (fun h _ => h) ?_
      try simp only [List.getElem_toArray, List.getElem_cons_succ, List.getElem_cons_zero, Act.put, List.setIfInBounds_toArray, List.set_cons_zero, List.set_cons_succ]
      refine wpAnyY_takeF 49 (.bool false) rfl (by kernel_rfl) (fun _ _ _ h => h) rfl (by intro wz; go_simp; try rfl) ?_
      try simp only [List.getElem_toArray, List.getElem_cons_succ, List.getElem_cons_zero, Act.put, List.setIfInBounds_toArray, List.set_cons_zero, List.set_cons_succ]
      refine wpAnyY_takeF 50 (.bool false) rfl (by kernel_rfl) (fun _ _ _ h => h) rfl (by intro wz; go_simp; try rfl) ?_
      try simp only [List.getElem_toArray, List.getElem_cons_succ, List.getElem_cons_zero, Act.put, List.setIfInBounds_toArray, List.set_cons_zero, List.set_cons_succ]
      refine wpAnyY_doneB (by kernel_rfl) ?_ _
      (try simp only [Exit.inBlock, Exit.then])
      refine HK7.out _ _ ?_
      clear HK7
      go_wp2
      try simp only [Exit.inBlock, Exit.then]
      (try simp only [Exit.inBlock, Exit.then])
      refine HK6.out _ _ ?_
      clear HK6
      go_wp2
      go_roundw
      case rel => exact ⟨j + 1, by omega, by go_num, Gd⟩
      case measure => simp [intOf]; omega
    · obtain rfl : j = n := by omega
      have l1 : ¬ (j : Int) < (j : Int) := by omega
      go_wp2
      (try simp only [Exit.inBlock, Exit.then])
      refine HK2.out _ _ ?_
      clear HK2
      go_wp2
      go_ret
      exact ⟨rfl, hgr⟩
end

section
open Go.RowKit Go.Shelf
/-- what is told at a piece: what all bits up to it tell, behind what was told before -/
theorem pc_at (r : Rx) (B : List Nat) : ∀ (Ps : List (List Nat)) (i : Nat) (s : Mx), Ps[i]? = some B → ∃ T, (toX r s Ps)[i]? = some T ∧ (tkX r s (Ps.take (i + 1)).flatten (Ps.take (i + 1)).flatten.length).2 = (tkX r s (Ps.take i).flatten (Ps.take i).flatten.length).2 ++ T ∧ (loX r s Ps)[i]? = some ((tkX r s (Ps.take (i + 1)).flatten (Ps.take (i + 1)).flatten.length).1.mode != 0)
  | [], i, s, h => by cases h
  | A :: Ps, 0, s, h => by
    have e : A = B := Option.some.inj h
    subst e
    refine ⟨(tkX r s A A.length).2, rfl, ?_, ?_⟩
    · show (tkX r s (A ++ []) (A ++ []).length).2 = [] ++ _
      rw [List.append_nil]
      rfl
    · show some _ = some ((tkX r s (A ++ []) (A ++ []).length).1.mode != 0)
      rw [List.append_nil]
  | A :: Ps, i + 1, s, h => by
    obtain ⟨T, h1, h2, h3⟩ := pc_at r B Ps i (tkX r s A A.length).1 h
    have e := fun k => tkX_add r s A (Ps.take k).flatten (Ps.take k).flatten.length
    refine ⟨T, h1, ?_, ?_⟩
    · show (tkX r s (A ++ (Ps.take (i + 1)).flatten) (A ++ (Ps.take (i + 1)).flatten).length).2 = (tkX r s (A ++ (Ps.take i).flatten) (A ++ (Ps.take i).flatten).length).2 ++ T
      rw [List.length_append, List.length_append, e, e]
      show _ ++ _ = (_ ++ _) ++ T
      rw [h2, List.append_assoc]
    · show (loX r _ Ps)[i]? = some ((tkX r s (A ++ (Ps.take (i + 1)).flatten) (A ++ (Ps.take (i + 1)).flatten).length).1.mode != 0)
      rw [List.length_append, e, h3]
theorem pc_told {r : Rx} {Ps : List (List Nat)} {i : Nat} {ys : List Fy} {T : List Fa} (h : (tkX r s0X (Ps.take (i + 1)).flatten (Ps.take (i + 1)).flatten.length).2 = ys.map (fun y => absF y.1)) (hT : (tkX r s0X (Ps.take (i + 1)).flatten (Ps.take (i + 1)).flatten.length).2 = (tkX r s0X (Ps.take i).flatten (Ps.take i).flatten.length).2 ++ T) :
    (ys.drop (tkX r s0X (Ps.take i).flatten (Ps.take i).flatten.length).2.length).map (fun y => absF y.1) = T := by
  rw [List.map_drop, ← h, hT, List.drop_left]
/-- a row of its own is a row that one reads -/
theorem rdF_row {w : World} {lo n c : Nat} {a : Option Addr} {ys : List Fy} (h : w.ownsRow lo 42 4 (.slice a n c) n (flY ys)) (hl : ys.length = n) (hn : n ≤ 140737488351232) (hd : ∀ y, y ∈ ys → ∃ lo2, Ans w lo2 y.1.a y.1.n y.2 y.1.D) : RdF w a n c ys :=
  ⟨hl, hn, fun h0 => by
    obtain ⟨k, rfl⟩ : ∃ k, n = k + 1 := ⟨n - 1, by omega⟩
    obtain ⟨g, c', e⟩ := ownsRow_succ h
    cases e
    refine ⟨g, 0, rfl, fun j y hy => ?_⟩
    have cc : ∀ i u, (cellsY y)[i]? = some u → w.cell? ⟨g, 0 + j * 4 + i, none⟩ = some u := fun i u hu => by
      have hi : i < 4 := (List.getElem?_eq_some_iff.1 hu).1
      have h := h.cells (g := g) rfl (j * 4 + i) u ((flY_at ys j y hy i hi).trans hu)
      rw [addr_add, Nat.zero_add] at h
      rw [Nat.zero_add]
      exact h
    exact ⟨cc 0 _ rfl, cc 1 _ rfl, cc 2 _ rfl, cc 3 _ rfl⟩, fun y hy => by
    obtain ⟨_, h⟩ := hd y hy
    exact h.rd⟩
/-- what is left of a row from k on -/
theorem RdF.drop {w : World} {n c k : Nat} {a a' : Option Addr} {ys : List Fy} (h : RdF w a n c ys) (hk : k ≤ n) (ha : ∀ g o, a = some ⟨g, o, none⟩ → a' = some ⟨g, o + k * 4, none⟩) (c' : Nat) : RdF w a' (n - k) c' (ys.drop k) :=
  ⟨by rw [List.length_drop, h.len], by have := h.max; omega, fun h0 => by
    obtain ⟨g, o, e, hc⟩ := h.at' (by omega)
    refine ⟨g, o + k * 4, ha g o e, fun j y hy => ?_⟩
    rw [List.getElem?_drop] at hy
    have := hc (k + j) y hy
    rw [show o + (k + j) * 4 = o + k * 4 + j * 4 from by omega] at this
    exact this, fun y hy => h.dat y (List.mem_of_mem_drop hy)⟩
end
end Go.Proofs.Ythdjpbfknbafgaa
