import Derived.Test.YtnimehkfnpepfaaGi9
import Derived.Test.YtnimehkfnpepfaaGi4
import Derived.Test.YtnimehkfnpepfaaGi3
import Derived.Test.YtnimehkfnpepfaaGi2
import Derived.Test.YtnimehkfnpepfaaGi5
namespace Go.Proofs.Ytnimehkfnpepfaa
open Go.RowKit
set_option maxRecDepth 100000
set_option linter.unusedVariables false
set_option linter.unusedSimpArgs false

section
theorem gvB_E {id : Int} {nm n : Nat} {mo bu st : Int} {fi : Bool} {at' : Int} {m : Nat} {al : Bool} {ti pa tr li : Int} (h : ofE id pa li mo bu nm n ≠ 0) : gvB id nm n mo bu st fi at' m al ti pa tr li = false := by
  unfold gvB; rw [decide_eq_false h, Bool.false_and]
theorem gvB_st {id : Int} {nm n : Nat} {mo bu st : Int} {fi : Bool} {at' : Int} {m : Nat} {al : Bool} {ti pa tr li : Int} (h : stB st at' n fi = false) : gvB id nm n mo bu st fi at' m al ti pa tr li = false := by
  unfold gvB; rw [h, Bool.false_and, Bool.and_false]
theorem gvB_at {id : Int} {nm n : Nat} {mo bu st : Int} {fi : Bool} {at' : Int} {m : Nat} {al : Bool} {ti pa tr li : Int} (h : kwB at' 0 n = false) : gvB id nm n mo bu st fi at' m al ti pa tr li = false := by
  unfold gvB; rw [h]; simp
theorem gvB_m {id : Int} {nm n : Nat} {mo bu st : Int} {fi : Bool} {at' : Int} {m : Nat} {al : Bool} {ti pa tr li : Int} (h : ¬ m ≤ 1000) : gvB id nm n mo bu st fi at' m al ti pa tr li = false := by
  unfold gvB; rw [decide_eq_false h]; simp
theorem gvB_rest {id : Int} {nm n : Nat} {mo bu st : Int} {fi : Bool} {at' : Int} {m : Nat} {al : Bool} {ti pa tr li : Int} (h1 : ofE id pa li mo bu nm n = 0) (h2 : stB st at' n fi = true) (h3 : kwB at' 0 n = true) (h4 : m ≤ 1000) : gvB id nm n mo bu st fi at' m al ti pa tr li = (al && (kwB ti 0 (pa - 1) && kwB tr 0 li)) := by
  unfold gvB; rw [decide_eq_true h1, h2, h3, decide_eq_true h4]; simp
theorem stB_out {st at' : Int} {n : Nat} {fi : Bool} (h : st < 0 ∨ 4 < st) : stB st at' n fi = false := by
  unfold stB; rw [if_neg (by omega), if_neg (by omega)]
theorem stB_bad {st at' : Int} {n : Nat} {fi : Bool} (h0 : st ≠ 0) (h : at' ≠ (n : Int) ∨ fi = true) : stB st at' n fi = false := by
  unfold stB; rw [if_neg h0]
  by_cases h1 : 1 ≤ st ∧ st ≤ 4
  · rw [if_pos h1]
    rcases h with h | h
    · rw [decide_eq_false h]; rfl
    · rw [h]; simp
  · rw [if_neg h1]
theorem stB_ok {st at' : Int} {n : Nat} {fi : Bool} (h : 0 ≤ st ∧ st ≤ 4) (h1 : st = 0 ∨ (at' = (n : Int) ∧ fi = false)) : stB st at' n fi = true := by
  unfold stB
  by_cases h0 : st = 0
  · rw [if_pos h0]
  · rw [if_neg h0, if_pos (by omega)]
    rcases h1 with h1 | ⟨h1, h2⟩
    · exact absurd h1 h0
    · rw [decide_eq_true h1, h2]; rfl

set_option maxHeartbeats 16000000 in
theorem gm_t6 {u0 u2 u3 u4 u5 u6 u7 u8 u9 u10 u11 u12 u13 u14 u15 u16 u17 u18 u19 u20 u21 u22 u23 u24 u25 u26 u27 u28 u29 u30 u31 u32 u33 u34 u35 u36 u37 u38 u39 u40 u41 u42 u43 u44 u45 u46 u47 u48 u49 u50 u51 u52 u53 u54 u55 u56 u57 u58 u59 u60 u61 u62 u63 u64 u65 u66 u67 u68 u69 u70 u71 u72 u73 u74 u75 u76 u77 u78 u79 u80 u81 u82 u83 u84 u85 u86 u87 u88 u89 u90 u91 u92 u93 u94 u95 : Value} (id : Int) (nm : ByteArray) (a : Option Addr) (n c : Nat) (mo bu st : Int) (fi : Bool) (at' : Int) (q : Option Addr) (m d : Nat) (ti pa tr li : Int) (F : Nat → Int × Int) (w wS : World) (g1 : Nat) (b1 : BxS w g1 44 #[.int .i64 id, .string nm, .slice a n c, .int .i64 mo, .int .i64 bu, .int .i64 st, .bool fi, .int .i64 at', .slice q m d, .int .i64 ti, .int .i64 pa, .int .i64 tr, .int .i64 li]) (hG : RdG w q m d F) (G0 : wS.grownBy w none) (hpa : 1 ≤ pa ∧ pa ≤ 1000) :
    Code.wp Try.prog (tailR 6 (Try.f59.body.getD .skip)) (bodyPost Try.prog Try.f59 (fun e w' => e = .returned (.bool (alG F n m && (kwB ti 0 (pa - 1) && kwB tr 0 li))) ∧ wS.grownBy w' none)) (Act.mk (List.toArray (u0 :: (.pointer (some ⟨g1, 0, none⟩)) :: u2 :: u3 :: u4 :: u5 :: u6 :: u7 :: u8 :: u9 :: u10 :: u11 :: u12 :: u13 :: u14 :: u15 :: u16 :: u17 :: u18 :: u19 :: u20 :: u21 :: u22 :: u23 :: u24 :: u25 :: u26 :: u27 :: u28 :: u29 :: u30 :: u31 :: u32 :: u33 :: u34 :: u35 :: u36 :: u37 :: u38 :: u39 :: u40 :: u41 :: u42 :: u43 :: u44 :: u45 :: u46 :: u47 :: u48 :: u49 :: u50 :: u51 :: u52 :: u53 :: u54 :: u55 :: u56 :: u57 :: u58 :: u59 :: u60 :: u61 :: u62 :: u63 :: u64 :: u65 :: u66 :: u67 :: u68 :: u69 :: u70 :: u71 :: u72 :: u73 :: u74 :: u75 :: u76 :: u77 :: u78 :: u79 :: u80 :: u81 :: u82 :: u83 :: u84 :: u85 :: u86 :: u87 :: u88 :: u89 :: u90 :: u91 :: u92 :: u93 :: u94 :: u95 :: [])) []) w := by
  conv => enter [2]; whnf
  have hmx := hG.max
  have hle := hG.le
  unfold maxLen at hmx
  have i2 := Try.info_sp
  have u2 := Try.underlying82
  refine wp_seq_k fun K1 hK1 => ?_
  have HK1 : Hid _ := hK1
  clear hK1
  refine wp_seq_k fun K2 hK2 => ?_
  have HK2 : Hid _ := hK2
  clear hK2
  go_wp2
  refine HK2.out _ _ ?_
  clear HK2
  go_wp2
  go_loopw [5] (fun iv wr => ∃ k : Nat, k ≤ m ∧ iv = .int .i64 k ∧ w.grownBy wr none ∧ Hid (alG F n k = true)) (fun iv _ => m - (intOf iv).toNat)
  case atStart => exact ⟨0, Nat.zero_le _, rfl, World.grownBy.refl _ _, rfl⟩
  case round =>
    obtain ⟨k, hk, rfl, Gr, HAL⟩ := hrel
    have b1r := b1.keep Gr (by simp)
    obtain ⟨e0, e1, e2, e3, e4, e5, e6, e7, e8, e9, e10, e11, e12⟩ := BxS.cell13 b1r
    by_cases hlt : k < m
    · have lk : (k : Int) < (m : Int) := by omega
      refine wp_seq_k fun K3 hK3 => ?_
      have HK3 : Hid _ := hK3
      clear hK3
      go_wp2
      refine HK3.out _ _ ?_
      clear HK3
      clear e0 e1 e2 e3 e4 e5 e6 e7 e8 e9 e10 e11 e12
      obtain ⟨b, off, rfl, hb, hc⟩ := (hG.keep Gr).at' (by omega)
      obtain ⟨p0, p1⟩ := hc k hlt
      have HS : Hid (alG F n (k + 1) = (alG F n k && gpB (F k).1 (F k).2 n)) := rfl
      have HNO : Hid (gpB (F k).1 (F k).2 n = false → alG F n m = false) := fun h => alG_no F n k h m hlt
      clear hc
      have kg := fun wz => gapMay_any (F k).1 (F k).2 n wz
      generalize (F k).1 = x at *
      generalize (F k).2 = y at *
      refine wp_seq_k fun K4 hK4 => ?_
      have HK4 : Hid _ := hK4
      clear hK4
      refine wp_block ?_
      refine wp_seq_k fun K5 hK5 => ?_
      have HK5 : Hid _ := hK5
      clear hK5
      have Gd := grown_drew wr none
      have SS : BxS wr.drew g1 44 #[.int .i64 id, .string nm, .slice a n c, .int .i64 mo, .int .i64 bu, .int .i64 st, .bool fi, .int .i64 at', .slice (some ⟨b, off, none⟩) m d, .int .i64 ti, .int .i64 pa, .int .i64 tr, .int .i64 li] ∧ wr.drew.cell? ⟨b, off + k * 2, none⟩ = some (.int .i64 x) ∧ wr.drew.cell? ⟨b, off + k * 2 + 1, none⟩ = some (.int .i64 y) := ⟨b1r.keep Gd (by simp), p0, p1⟩
      refine wp_regionL (fun wz => BxS wz g1 44 #[.int .i64 id, .string nm, .slice a n c, .int .i64 mo, .int .i64 bu, .int .i64 st, .bool fi, .int .i64 at', .slice (some ⟨b, off, none⟩) m d, .int .i64 ti, .int .i64 pa, .int .i64 tr, .int .i64 li] ∧ wz.cell? ⟨b, off + k * 2, none⟩ = some (.int .i64 x) ∧ wz.cell? ⟨b, off + k * 2 + 1, none⟩ = some (.int .i64 y)) [] #[false, false, false, false, false, false, false, false, false, false] rfl (by kernel_rfl) ?_
      refine wpAnyZ_take [] 0 (.pointer (some ⟨g1, 8, none⟩)) rfl (by kernel_rfl) (fun _ _ _ h => h) SS rfl (by intro wz hz; go_simp) ?_
      try simp only [List.getElem_toArray, List.getElem_cons_succ, List.getElem_cons_zero, Act.put, List.setIfInBounds_toArray, List.set_cons_zero, List.set_cons_succ]
      refine wpAnyZ_take [] 1 (.slice (some ⟨b, off, none⟩) m d) rfl (by kernel_rfl) (fun _ _ _ h => h) SS rfl (by rintro wz ⟨hb, q0, q1⟩; have z8 : wz.cell? ⟨g1, 8, none⟩ = some (.slice (some ⟨b, off, none⟩) m d) := hb.cell 8 (by show 8 < 13; decide); go_simp) ?_
      try simp only [List.getElem_toArray, List.getElem_cons_succ, List.getElem_cons_zero, Act.put, List.setIfInBounds_toArray, List.set_cons_zero, List.set_cons_succ]
      refine wpAnyZ_take [] 2 (.int .i64 (k : Int)) rfl (by kernel_rfl) (fun _ _ _ h => h) SS rfl (by intro wz hz; go_simp) ?_
      try simp only [List.getElem_toArray, List.getElem_cons_succ, List.getElem_cons_zero, Act.put, List.setIfInBounds_toArray, List.set_cons_zero, List.set_cons_succ]
      refine wpAnyZ_take [] 3 (.pointer (some ⟨b, off + k * 2, none⟩)) rfl (by kernel_rfl) (fun _ _ _ h => h) SS rfl (by intro wz hz; go_simp) ?_
      try simp only [List.getElem_toArray, List.getElem_cons_succ, List.getElem_cons_zero, Act.put, List.setIfInBounds_toArray, List.set_cons_zero, List.set_cons_succ]
      refine wpAnyZ_take [] 4 (.agg #[.int .i64 x, .int .i64 y]) rfl (by kernel_rfl) (fun _ _ _ h => h) SS rfl (by rintro wz ⟨hb, q0, q1⟩; go_simp) ?_
      try simp only [List.getElem_toArray, List.getElem_cons_succ, List.getElem_cons_zero, Act.put, List.setIfInBounds_toArray, List.set_cons_zero, List.set_cons_succ]
      refine wpAnyZ_take [] 5 (.pointer (some ⟨g1, 2, none⟩)) rfl (by kernel_rfl) (fun _ _ _ h => h) SS rfl (by intro wz hz; go_simp) ?_
      try simp only [List.getElem_toArray, List.getElem_cons_succ, List.getElem_cons_zero, Act.put, List.setIfInBounds_toArray, List.set_cons_zero, List.set_cons_succ]
      refine wpAnyZ_take [] 6 (.slice a n c) rfl (by kernel_rfl) (fun _ _ _ h => h) SS rfl (by rintro wz ⟨hb, q0, q1⟩; have z2 : wz.cell? ⟨g1, 2, none⟩ = some (.slice a n c) := hb.cell 2 (by show 2 < 13; decide); go_simp) ?_
      try simp only [List.getElem_toArray, List.getElem_cons_succ, List.getElem_cons_zero, Act.put, List.setIfInBounds_toArray, List.set_cons_zero, List.set_cons_succ]
      refine wpAnyZ_take [] 7 (.int .i64 (n : Int)) rfl (by kernel_rfl) (fun _ _ _ h => h) SS rfl (by intro wz hz; go_simp) ?_
      try simp only [List.getElem_toArray, List.getElem_cons_succ, List.getElem_cons_zero, Act.put, List.setIfInBounds_toArray, List.set_cons_zero, List.set_cons_succ]
      generalize wr.drew = w2 at *
      refine wpAnyZ_oneB 8 rfl (by kernel_rfl) (fun KK hKK => ?_)
      go_simp
      go_at_call 83
      refine (kg w2).mono ?_
      rintro e w3 ⟨rfl, y3⟩
      dsimp only
      have SS3 : BxS w3 g1 44 #[.int .i64 id, .string nm, .slice a n c, .int .i64 mo, .int .i64 bu, .int .i64 st, .bool fi, .int .i64 at', .slice (some ⟨b, off, none⟩) m d, .int .i64 ti, .int .i64 pa, .int .i64 tr, .int .i64 li] ∧ w3.cell? ⟨b, off + k * 2, none⟩ = some (.int .i64 x) ∧ w3.cell? ⟨b, off + k * 2 + 1, none⟩ = some (.int .i64 y) := ⟨SS.1.keep y3 (by simp), y3.cell SS.2.1 (by simp), y3.cell SS.2.2 (by simp)⟩
      have G3 := grown_trans (grown_trans Gr Gd) y3
      refine hKK _ _ (fun _ => SS3) ?_
      try simp only [List.getElem_toArray, List.getElem_cons_succ, List.getElem_cons_zero, Act.put, List.setIfInBounds_toArray, List.set_cons_zero, List.set_cons_succ]
      cases hgp : gpB x y n with
      | true =>
        rw [hgp] at HS
        have HT : Hid _ := HS
        refine wpAnyZ_take [] 9 (.bool false) rfl (by kernel_rfl) (fun _ _ _ h => h) SS3 rfl (by intro wz hz; go_simp) ?_
        try simp only [List.getElem_toArray, List.getElem_cons_succ, List.getElem_cons_zero, Act.put, List.setIfInBounds_toArray, List.set_cons_zero, List.set_cons_succ]
        refine wpAnyZ_doneB (by kernel_rfl) ?_ _
        refine HK5.out _ _ ?_
        clear HK5
        go_wp2
        refine HK4.out _ _ ?_
        clear HK4
        go_wp2
        go_roundw
        case rel => exact ⟨k + 1, by omega, by go_num, G3, by show _ = _; rw [HS.out, HAL.out]; rfl⟩
        case measure => simp [intOf] <;> omega
      | false =>
        have hal := HNO.out hgp
        refine wpAnyZ_take [] 9 (.bool true) rfl (by kernel_rfl) (fun _ _ _ h => h) SS3 rfl (by intro wz hz; go_simp) ?_
        try simp only [List.getElem_toArray, List.getElem_cons_succ, List.getElem_cons_zero, Act.put, List.setIfInBounds_toArray, List.set_cons_zero, List.set_cons_succ]
        refine wpAnyZ_doneB (by kernel_rfl) ?_ _
        refine HK5.out _ _ ?_
        clear HK5
        go_wp2
        go_ret
        exact ⟨by rw [hal]; rfl, grown_trans G0 G3⟩
    · obtain rfl : k = m := by omega
      have lk : ¬ (k : Int) < (k : Int) := by omega
      have hal := HAL.out
      have HALL : Hid _ := hal
      clear hal
      have z9 : IntKind.i64.wrap (pa - 1) = pa - 1 := wrap_i64_in _ (by omega) (by omega)
      have k4 := fun wz => inRange_any ti 0 (pa - 1) wz
      have k5 := fun wz => inRange_any tr 0 li wz
      have s0 : True := trivial
      go_wp2
      refine HK1.out _ _ ?_
      clear HK1
      rw [HALL.out, Bool.true_and]
      generalize kwB ti 0 (pa - 1) = B5 at k4 ⊢
      generalize kwB tr 0 li = B6 at k5 ⊢
      cases B5
      · rw [Bool.false_and]
        go_wp2_with (go_at_call 55; have _t := s0; clear s0; refine (k4 wr).mono ?_; rintro e wx ⟨rfl, hwx⟩; have hwx := hwx.symm; subst hwx)
        go_ret
        exact ⟨rfl, grown_trans G0 Gr⟩
      · rw [Bool.true_and]
        go_wp2_with (first
          | (go_at_call 55; have _t := s0; clear s0; refine (k4 wr).mono ?_; rintro e wx ⟨rfl, hwx⟩; have hwx := hwx.symm; subst hwx; have s1 : True := trivial)
          | (go_at_call 55; have _t := s1; clear s1; refine (k5 wr).mono ?_; rintro e wx ⟨rfl, hwx⟩; have hwx := hwx.symm; subst hwx))
        go_ret
        exact ⟨rfl, grown_trans G0 Gr⟩

set_option maxHeartbeats 32000000 in
theorem rgiverMay_any (id : Int) (nm : ByteArray) (a : Option Addr) (n c : Nat) (mo bu st : Int) (fi : Bool) (at' : Int) (q : Option Addr) (m d : Nat) (ti pa tr li : Int) (F : Nat → Int × Int) (L : List Nat) (w : World) (hL : Rd w a n c L) (hG : RdG w q m d F) : Calls Try.prog 59 #[.agg (gvA id nm (.slice a n c) mo bu st fi at' (.slice q m d) ti pa tr li)] w fun e w' => e = .returned (.bool (gvB id nm.size n mo bu st fi at' m (alG F n m) ti pa tr li)) ∧ w.grownBy w' none := by
  have b0 := BxS.new w 44 #[.int .i64 id, .string nm, .slice a n c, .int .i64 mo, .int .i64 bu, .int .i64 st, .bool fi, .int .i64 at', .slice q m d, .int .i64 ti, .int .i64 pa, .int .i64 tr, .int .i64 li]
  have g0 := World.grownBy_alloc w (.cells #[.int .i64 id, .string nm, .slice a n c, .int .i64 mo, .int .i64 bu, .int .i64 st, .bool fi, .int .i64 at', .slice q m d, .int .i64 ti, .int .i64 pa, .int .i64 tr, .int .i64 li] 44) none
  have i13 := Try.info_gv
  unfold gvA
  generalize hw0 : w.alloc (.cells #[.int .i64 id, .string nm, .slice a n c, .int .i64 mo, .int .i64 bu, .int .i64 st, .bool fi, .int .i64 at', .slice q m d, .int .i64 ti, .int .i64 pa, .int .i64 tr, .int .i64 li] 44) = w0 at b0 g0
  obtain ⟨e0, e1, e2, e3, e4, e5, e6, e7, e8, e9, e10, e11, e12⟩ := BxS.cell13 b0
  have s0 : True := trivial
  by_cases hE : ofE id pa li mo bu nm.size n = 0
  · have hEE : ((ofE id pa li mo bu nm.size n : Nat) : Int) = 0 := by omega
    by_cases h1 : st < 0
    · 
      rw [gvB_st (stB_out (.inl h1))]
      go_enter Try.func59, Try.ntmps59
      go_wp2_with (first
        | (go_at_call 24; have _t := s0; clear s0; refine (offered_any id nm a n c mo bu pa li L w0 (hL.keep g0)).mono ?_; rintro e w1 ⟨ao, co', rfl, _, g1⟩; clear e0 e1 e2 e3 e4 e5 e6 e7 e8 e9 e10 e11 e12; have bn := BxS.new w1 44 #[.int .i64 0, .string ⟨#[]⟩, .slice none 0 0, .int .i64 0, .int .i64 0, .int .i64 0, .bool false, .int .i64 0, .slice none 0 0, .int .i64 0, .int .i64 0, .int .i64 0, .int .i64 0]; have gn := World.grownBy_alloc w1 (.cells #[.int .i64 0, .string ⟨#[]⟩, .slice none 0 0, .int .i64 0, .int .i64 0, .int .i64 0, .bool false, .int .i64 0, .slice none 0 0, .int .i64 0, .int .i64 0, .int .i64 0, .int .i64 0] 44) none; generalize hw1 : w1.alloc (.cells #[.int .i64 0, .string ⟨#[]⟩, .slice none 0 0, .int .i64 0, .int .i64 0, .int .i64 0, .bool false, .int .i64 0, .slice none 0 0, .int .i64 0, .int .i64 0, .int .i64 0, .int .i64 0] 44) = w2 at bn gn; have s1 : True := trivial)
        | (have _t := s1; clear s1; refine wpList_stX _ rfl _ (.tmp 3) (.tmp 22) rfl w1.heap.size _ _ rfl rfl bn i13 rfl (by simp [gvA, Value.oneCell']) ?_; intro w3 b33 u3; have z1 := g1.size; have z0 := b0.lt; have b3 := ((b0.keep g1 (by simp)).keep gn (by simp)).keep u3 (fun e => by have e := Option.some.inj e; omega); have G3 : w.grownBy w3 none := grown_far (grown_trans (grown_trans g0 g1) gn) u3 (fun q e => by have e := Option.some.inj e; have := g0.size; omega); obtain ⟨e0, e1, e2, e3, e4, e5, e6, e7, e8, e9, e10, e11, e12⟩ := BxS.cell13 b3; have s2 : True := trivial))
      go_ret
      exact ⟨rfl, G3⟩
    · by_cases h2 : 4 < st
      · 
        rw [gvB_st (stB_out (.inr h2))]
        go_enter Try.func59, Try.ntmps59
        go_wp2_with (first
          | (go_at_call 24; have _t := s0; clear s0; refine (offered_any id nm a n c mo bu pa li L w0 (hL.keep g0)).mono ?_; rintro e w1 ⟨ao, co', rfl, _, g1⟩; clear e0 e1 e2 e3 e4 e5 e6 e7 e8 e9 e10 e11 e12; have bn := BxS.new w1 44 #[.int .i64 0, .string ⟨#[]⟩, .slice none 0 0, .int .i64 0, .int .i64 0, .int .i64 0, .bool false, .int .i64 0, .slice none 0 0, .int .i64 0, .int .i64 0, .int .i64 0, .int .i64 0]; have gn := World.grownBy_alloc w1 (.cells #[.int .i64 0, .string ⟨#[]⟩, .slice none 0 0, .int .i64 0, .int .i64 0, .int .i64 0, .bool false, .int .i64 0, .slice none 0 0, .int .i64 0, .int .i64 0, .int .i64 0, .int .i64 0] 44) none; generalize hw1 : w1.alloc (.cells #[.int .i64 0, .string ⟨#[]⟩, .slice none 0 0, .int .i64 0, .int .i64 0, .int .i64 0, .bool false, .int .i64 0, .slice none 0 0, .int .i64 0, .int .i64 0, .int .i64 0, .int .i64 0] 44) = w2 at bn gn; have s1 : True := trivial)
          | (have _t := s1; clear s1; refine wpList_stX _ rfl _ (.tmp 3) (.tmp 22) rfl w1.heap.size _ _ rfl rfl bn i13 rfl (by simp [gvA, Value.oneCell']) ?_; intro w3 b33 u3; have z1 := g1.size; have z0 := b0.lt; have b3 := ((b0.keep g1 (by simp)).keep gn (by simp)).keep u3 (fun e => by have e := Option.some.inj e; omega); have G3 : w.grownBy w3 none := grown_far (grown_trans (grown_trans g0 g1) gn) u3 (fun q e => by have e := Option.some.inj e; have := g0.size; omega); obtain ⟨e0, e1, e2, e3, e4, e5, e6, e7, e8, e9, e10, e11, e12⟩ := BxS.cell13 b3; have s2 : True := trivial))
        go_ret
        exact ⟨rfl, G3⟩
      · cases h3 : kwB at' 0 n with
        | false =>
          rw [gvB_at h3]
          go_enter Try.func59, Try.ntmps59
          go_wp2_with (first
            | (go_at_call 24; have _t := s0; clear s0; refine (offered_any id nm a n c mo bu pa li L w0 (hL.keep g0)).mono ?_; rintro e w1 ⟨ao, co', rfl, _, g1⟩; clear e0 e1 e2 e3 e4 e5 e6 e7 e8 e9 e10 e11 e12; have bn := BxS.new w1 44 #[.int .i64 0, .string ⟨#[]⟩, .slice none 0 0, .int .i64 0, .int .i64 0, .int .i64 0, .bool false, .int .i64 0, .slice none 0 0, .int .i64 0, .int .i64 0, .int .i64 0, .int .i64 0]; have gn := World.grownBy_alloc w1 (.cells #[.int .i64 0, .string ⟨#[]⟩, .slice none 0 0, .int .i64 0, .int .i64 0, .int .i64 0, .bool false, .int .i64 0, .slice none 0 0, .int .i64 0, .int .i64 0, .int .i64 0, .int .i64 0] 44) none; generalize hw1 : w1.alloc (.cells #[.int .i64 0, .string ⟨#[]⟩, .slice none 0 0, .int .i64 0, .int .i64 0, .int .i64 0, .bool false, .int .i64 0, .slice none 0 0, .int .i64 0, .int .i64 0, .int .i64 0, .int .i64 0] 44) = w2 at bn gn; have s1 : True := trivial)
            | (have _t := s1; clear s1; refine wpList_stX _ rfl _ (.tmp 3) (.tmp 22) rfl w1.heap.size _ _ rfl rfl bn i13 rfl (by simp [gvA, Value.oneCell']) ?_; intro w3 b33 u3; have z1 := g1.size; have z0 := b0.lt; have b3 := ((b0.keep g1 (by simp)).keep gn (by simp)).keep u3 (fun e => by have e := Option.some.inj e; omega); have G3 : w.grownBy w3 none := grown_far (grown_trans (grown_trans g0 g1) gn) u3 (fun q e => by have e := Option.some.inj e; have := g0.size; omega); obtain ⟨e0, e1, e2, e3, e4, e5, e6, e7, e8, e9, e10, e11, e12⟩ := BxS.cell13 b3; have s2 : True := trivial)
            | (go_at_call 55; have _t := s2; clear s2; refine (inRange_any at' 0 n w3).mono ?_; rintro e wx ⟨rfl, hwx⟩; have hwx := hwx.symm; subst hwx))
          go_ret
          exact ⟨rfl, G3⟩
        | true =>
          by_cases h4 : m ≤ 1000
          · have h4i : ¬ (1000 : Int) < (m : Int) := by omega
            have hp9 := of_pa hE
            go_enter Try.func59, Try.ntmps59
            refine wp_seq_k fun K1 hK1 => ?_
            have HK1 : Hid _ := hK1
            clear hK1
            go_wp2
            refine HK1.out _ _ ?_
            clear HK1
            refine wp_seq_k fun K2 hK2 => ?_
            have HK2 : Hid _ := hK2
            clear hK2
            go_wp2_with (first
              | (go_at_call 24; have _t := s0; clear s0; refine (offered_any id nm a n c mo bu pa li L w0 (hL.keep g0)).mono ?_; rintro e w1 ⟨ao, co', rfl, _, g1⟩; clear e0 e1 e2 e3 e4 e5 e6 e7 e8 e9 e10 e11 e12; have bn := BxS.new w1 44 #[.int .i64 0, .string ⟨#[]⟩, .slice none 0 0, .int .i64 0, .int .i64 0, .int .i64 0, .bool false, .int .i64 0, .slice none 0 0, .int .i64 0, .int .i64 0, .int .i64 0, .int .i64 0]; have gn := World.grownBy_alloc w1 (.cells #[.int .i64 0, .string ⟨#[]⟩, .slice none 0 0, .int .i64 0, .int .i64 0, .int .i64 0, .bool false, .int .i64 0, .slice none 0 0, .int .i64 0, .int .i64 0, .int .i64 0, .int .i64 0] 44) none; generalize hw1 : w1.alloc (.cells #[.int .i64 0, .string ⟨#[]⟩, .slice none 0 0, .int .i64 0, .int .i64 0, .int .i64 0, .bool false, .int .i64 0, .slice none 0 0, .int .i64 0, .int .i64 0, .int .i64 0, .int .i64 0] 44) = w2 at bn gn; have s1 : True := trivial)
              | (have _t := s1; clear s1; refine wpList_stX _ rfl _ (.tmp 3) (.tmp 22) rfl w1.heap.size _ _ rfl rfl bn i13 rfl (by simp [gvA, Value.oneCell']) ?_; intro w3 b33 u3; have z1 := g1.size; have z0 := b0.lt; have b3 := ((b0.keep g1 (by simp)).keep gn (by simp)).keep u3 (fun e => by have e := Option.some.inj e; omega); have G3 : w.grownBy w3 none := grown_far (grown_trans (grown_trans g0 g1) gn) u3 (fun q e => by have e := Option.some.inj e; have := g0.size; omega); obtain ⟨e0, e1, e2, e3, e4, e5, e6, e7, e8, e9, e10, e11, e12⟩ := BxS.cell13 b3; have s2 : True := trivial))
            refine HK2.out _ _ ?_
            clear HK2
            refine wp_seq_k fun K3 hK3 => ?_
            have HK3 : Hid _ := hK3
            clear hK3
            go_wp2_with (go_at_call 55; have _t := s2; clear s2; refine (inRange_any at' 0 n w3).mono ?_; rintro e wx ⟨he, hwx⟩; rw [h3] at he; subst he; have hwx := hwx.symm; subst hwx)
            refine HK3.out _ _ ?_
            clear HK3
            by_cases h5 : st = 0
            · rw [gvB_rest hE (stB_ok ⟨by omega, by omega⟩ (.inl h5)) h3 h4]
              subst h5
              refine wp_seq_k fun K4 hK4 => ?_
              have HK4 : Hid _ := hK4
              clear hK4
              go_wp2
              refine HK4.out _ _ ?_
              clear HK4
              exact gm_t6 id nm a n c mo bu 0 fi at' q m d ti pa tr li F w3 w w.heap.size b3 (hG.keep G3) G3 hp9
            · by_cases h6 : at' = (n : Int)
              · subst h6
                cases fi
                · rw [gvB_rest hE (stB_ok ⟨by omega, by omega⟩ (.inr ⟨rfl, rfl⟩)) h3 h4]
                  refine wp_seq_k fun K4 hK4 => ?_
                  have HK4 : Hid _ := hK4
                  clear hK4
                  go_wp2
                  refine HK4.out _ _ ?_
                  clear HK4
                  exact gm_t6 id nm a n c mo bu st false n q m d ti pa tr li F w3 w w.heap.size b3 (hG.keep G3) G3 hp9
                · rw [gvB_st (stB_bad h5 (.inr rfl))]
                  go_wp2
                  go_ret
                  exact ⟨rfl, G3⟩
              · rw [gvB_st (stB_bad h5 (.inl h6))]
                go_wp2
                go_ret
                exact ⟨rfl, G3⟩
          · have h4i : (1000 : Int) < (m : Int) := by omega
            rw [gvB_m h4]
            go_enter Try.func59, Try.ntmps59
            go_wp2_with (first
              | (go_at_call 24; have _t := s0; clear s0; refine (offered_any id nm a n c mo bu pa li L w0 (hL.keep g0)).mono ?_; rintro e w1 ⟨ao, co', rfl, _, g1⟩; clear e0 e1 e2 e3 e4 e5 e6 e7 e8 e9 e10 e11 e12; have bn := BxS.new w1 44 #[.int .i64 0, .string ⟨#[]⟩, .slice none 0 0, .int .i64 0, .int .i64 0, .int .i64 0, .bool false, .int .i64 0, .slice none 0 0, .int .i64 0, .int .i64 0, .int .i64 0, .int .i64 0]; have gn := World.grownBy_alloc w1 (.cells #[.int .i64 0, .string ⟨#[]⟩, .slice none 0 0, .int .i64 0, .int .i64 0, .int .i64 0, .bool false, .int .i64 0, .slice none 0 0, .int .i64 0, .int .i64 0, .int .i64 0, .int .i64 0] 44) none; generalize hw1 : w1.alloc (.cells #[.int .i64 0, .string ⟨#[]⟩, .slice none 0 0, .int .i64 0, .int .i64 0, .int .i64 0, .bool false, .int .i64 0, .slice none 0 0, .int .i64 0, .int .i64 0, .int .i64 0, .int .i64 0] 44) = w2 at bn gn; have s1 : True := trivial)
              | (have _t := s1; clear s1; refine wpList_stX _ rfl _ (.tmp 3) (.tmp 22) rfl w1.heap.size _ _ rfl rfl bn i13 rfl (by simp [gvA, Value.oneCell']) ?_; intro w3 b33 u3; have z1 := g1.size; have z0 := b0.lt; have b3 := ((b0.keep g1 (by simp)).keep gn (by simp)).keep u3 (fun e => by have e := Option.some.inj e; omega); have G3 : w.grownBy w3 none := grown_far (grown_trans (grown_trans g0 g1) gn) u3 (fun q e => by have e := Option.some.inj e; have := g0.size; omega); obtain ⟨e0, e1, e2, e3, e4, e5, e6, e7, e8, e9, e10, e11, e12⟩ := BxS.cell13 b3; have s2 : True := trivial)
              | (go_at_call 55; have _t := s2; clear s2; refine (inRange_any at' 0 n w3).mono ?_; rintro e wx ⟨rfl, hwx⟩; have hwx := hwx.symm; subst hwx))
            go_ret
            exact ⟨rfl, G3⟩
  · have hEE : ¬ ((ofE id pa li mo bu nm.size n : Nat) : Int) = 0 := by omega
    rw [gvB_E hE]
    go_enter Try.func59, Try.ntmps59
    go_wp2_with (first
      | (go_at_call 24; have _t := s0; clear s0; refine (offered_any id nm a n c mo bu pa li L w0 (hL.keep g0)).mono ?_; rintro e w1 ⟨ao, co', rfl, _, g1⟩; clear e0 e1 e2 e3 e4 e5 e6 e7 e8 e9 e10 e11 e12; have bn := BxS.new w1 44 #[.int .i64 0, .string ⟨#[]⟩, .slice none 0 0, .int .i64 0, .int .i64 0, .int .i64 0, .bool false, .int .i64 0, .slice none 0 0, .int .i64 0, .int .i64 0, .int .i64 0, .int .i64 0]; have gn := World.grownBy_alloc w1 (.cells #[.int .i64 0, .string ⟨#[]⟩, .slice none 0 0, .int .i64 0, .int .i64 0, .int .i64 0, .bool false, .int .i64 0, .slice none 0 0, .int .i64 0, .int .i64 0, .int .i64 0, .int .i64 0] 44) none; generalize hw1 : w1.alloc (.cells #[.int .i64 0, .string ⟨#[]⟩, .slice none 0 0, .int .i64 0, .int .i64 0, .int .i64 0, .bool false, .int .i64 0, .slice none 0 0, .int .i64 0, .int .i64 0, .int .i64 0, .int .i64 0] 44) = w2 at bn gn; have s1 : True := trivial)
      | (have _t := s1; clear s1; refine wpList_stX _ rfl _ (.tmp 3) (.tmp 22) rfl w1.heap.size _ _ rfl rfl bn i13 rfl (by simp [gvA, Value.oneCell']) ?_; intro w3 b33 u3; have z1 := g1.size; have z0 := b0.lt; have b3 := ((b0.keep g1 (by simp)).keep gn (by simp)).keep u3 (fun e => by have e := Option.some.inj e; omega); have G3 : w.grownBy w3 none := grown_far (grown_trans (grown_trans g0 g1) gn) u3 (fun q e => by have e := Option.some.inj e; have := g0.size; omega); obtain ⟨e0, e1, e2, e3, e4, e5, e6, e7, e8, e9, e10, e11, e12⟩ := BxS.cell13 b3; have s2 : True := trivial))
    go_ret
    exact ⟨rfl, G3⟩
end

section
set_option maxHeartbeats 8000000 in
/-- a giver with memory of its own -/
theorem giverOf_any (id : Int) (nm : ByteArray) (a : Option Addr) (n c : Nat) (mo bu st : Int) (fi : Bool) (at' : Int) (q : Option Addr) (m d : Nat) (ti pa tr li : Int) (F : Nat → Int × Int) (L : List Nat) (w : World) (hL : Rd w a n c L) (hG : RdG w q m d F) (hn : n ≤ 140737488351232) (hm : m ≤ 8796093021952) : Calls Try.prog 60 #[.agg (gvA id nm (.slice a n c) mo bu st fi at' (.slice q m d) ti pa tr li)] w fun e w' => ∃ a' c' q' d', e = .returned (.agg (gvA id nm (.slice a' n c') mo bu st fi at' (.slice q' m d') ti pa tr li)) ∧ Ans w' w.heap.size a' n c' L ∧ OwGi w' w.heap.size q' m d' (tabG F m) ∧ w.grownBy w' none := by
  have b0 := BxS.new w 44 #[.int .i64 id, .string nm, .slice a n c, .int .i64 mo, .int .i64 bu, .int .i64 st, .bool fi, .int .i64 at', .slice q m d, .int .i64 ti, .int .i64 pa, .int .i64 tr, .int .i64 li]
  have g0 := World.grownBy_alloc w (.cells #[.int .i64 id, .string nm, .slice a n c, .int .i64 mo, .int .i64 bu, .int .i64 st, .bool fi, .int .i64 at', .slice q m d, .int .i64 ti, .int .i64 pa, .int .i64 tr, .int .i64 li] 44) none
  have i13 := Try.info_gv
  unfold gvA
  generalize hw0 : w.alloc (.cells #[.int .i64 id, .string nm, .slice a n c, .int .i64 mo, .int .i64 bu, .int .i64 st, .bool fi, .int .i64 at', .slice q m d, .int .i64 ti, .int .i64 pa, .int .i64 tr, .int .i64 li] 44) = w0 at b0 g0
  have l0 := b0.lt
  have b2 := BxS.new w0 44 #[.int .i64 0, .string ⟨#[]⟩, .slice none 0 0, .int .i64 0, .int .i64 0, .int .i64 0, .bool false, .int .i64 0, .slice none 0 0, .int .i64 0, .int .i64 0, .int .i64 0, .int .i64 0]
  have g1 := World.grownBy_alloc w0 (.cells #[.int .i64 0, .string ⟨#[]⟩, .slice none 0 0, .int .i64 0, .int .i64 0, .int .i64 0, .bool false, .int .i64 0, .slice none 0 0, .int .i64 0, .int .i64 0, .int .i64 0, .int .i64 0] 44) none
  generalize hw1 : w0.alloc (.cells #[.int .i64 0, .string ⟨#[]⟩, .slice none 0 0, .int .i64 0, .int .i64 0, .int .i64 0, .bool false, .int .i64 0, .slice none 0 0, .int .i64 0, .int .i64 0, .int .i64 0, .int .i64 0] 44) = w1 at b2 g1
  have b1 := b0.keep g1 (by simp)
  have G1 := grown_trans g0 g1
  have l1 := b2.lt
  obtain ⟨e0, e1, e2, e3, e4, e5, e6, e7, e8, e9, e10, e11, e12⟩ := BxS.cell13 b1
  have s0 : True := trivial
  go_enter Try.func60, Try.ntmps60
  go_wp2_with (first
    | (at_builtin; have _t := s0; clear s0; refine wpList_joinZ rfl _ _ rfl none 0 0 w1.heap.size [] rfl (Ans.nil _ _) (Nat.le_refl _) a n c L rfl (hL.keep G1) (by omega) ?_; intro a5 c5 w2 hA5 y2; rw [Nat.zero_add, List.nil_append] at hA5; have y2 : w1.grownBy w2 none := y2; have b12 := b1.keep y2 (by simp); have b22 := b2.keep y2 (by simp); have x2 : w2.cell? ⟨w.heap.size, 2, none⟩ = some (.slice a n c) := b12.cell 2 (by show 2 < 13; decide); have f2 := b12.free 2; have b13 := b12.set 2 (.slice a5 n c5); have u3 := grown_set w2 w.heap.size 2 (.slice a5 n c5); generalize hw3 : w2.setCell ⟨w.heap.size, 2, none⟩ (.slice a5 n c5) = w3 at b13 u3; have b13 : BxS w3 w.heap.size 44 #[.int .i64 id, .string nm, .slice a5 n c5, .int .i64 mo, .int .i64 bu, .int .i64 st, .bool fi, .int .i64 at', .slice q m d, .int .i64 ti, .int .i64 pa, .int .i64 tr, .int .i64 li] := b13; have b23 := b22.keep u3 (fun e => by have e := Option.some.inj e; omega); have G3 := grown_far (grown_trans G1 y2) u3 (fun q e => by have e := Option.some.inj e; omega); have hA3 := hA5.kept u3 (.inr (fun e => by have := hA5.new _ e; omega)); have x8 : w3.cell? ⟨w.heap.size, 8, none⟩ = some (.slice q m d) := b13.cell 8 (by show 8 < 13; decide); have s1 : True := trivial)
    | (at_builtin; have _t := s1; clear s1; refine wpList_joinG rfl _ _ rfl none 0 0 w3.heap.size [] rfl (OwGi.nil _ _) (Nat.le_refl _) q m d F rfl (hG.keep G3) (by omega) ?_; intro q5 d5 w4 hO5 y4; rw [Nat.zero_add, List.nil_append] at hO5; have y4 : w3.grownBy w4 none := y4; have b14 := b13.keep y4 (by simp); have b24 := b23.keep y4 (by simp); have x9 : w4.cell? ⟨w.heap.size, 8, none⟩ = some (.slice q m d) := b14.cell 8 (by show 8 < 13; decide); have f8 := b14.free 8; have b15 := b14.set 8 (.slice q5 m d5); have u5 := grown_set w4 w.heap.size 8 (.slice q5 m d5); generalize hw5 : w4.setCell ⟨w.heap.size, 8, none⟩ (.slice q5 m d5) = w5 at b15 u5; have b15 : BxS w5 w.heap.size 44 #[.int .i64 id, .string nm, .slice a5 n c5, .int .i64 mo, .int .i64 bu, .int .i64 st, .bool fi, .int .i64 at', .slice q5 m d5, .int .i64 ti, .int .i64 pa, .int .i64 tr, .int .i64 li] := b15; have b25 := b24.keep u5 (fun e => by have e := Option.some.inj e; omega); have G5 := grown_far (grown_trans G3 y4) u5 (fun q e => by have e := Option.some.inj e; omega); have hA4 := (hA3.keep y4).kept u5 (.inr (fun e => by have := hA5.new _ e; omega)); have hO6 := hO5.bx b14 (by decide) u5; have s2 : True := trivial)
    | (have _t := s2; clear s2; refine wpList_ldX _ rfl _ (.tmp 1) rfl w.heap.size _ rfl b15 Try.underlying44 i13 ?_; have s3 : True := trivial)
    | (have _t := s3; clear s3; refine wpList_stX _ rfl _ (.tmp 2) (.tmp 11) rfl w0.heap.size _ _ rfl rfl b25 i13 rfl (by simp [Value.oneCell']) ?_; intro w6 b26 u6))
  have z3 := G3.size
  have z1 := G1.size
  refine bodyPost_ret (results_cellN rfl _ _ _ ⟨w0.heap.size, 0, none⟩ _ rfl (BxS.load (t := 44) b26 Try.underlying44 Try.info_gv)) rfl ?_
  exact ⟨a5, c5, q5, d5, rfl, (hA4.kept u6 (.inr (fun e => by have := hA5.new _ e; omega))).wide (by omega), (hO6.bx b25 (by decide) u6).wide (by omega), grown_far G5 u6 (fun q e => by have e := Option.some.inj e; have := g0.size; omega)⟩
end
end Go.Proofs.Ytnimehkfnpepfaa
