import Derived.BigFrame
import Derived.Test.YtnimehkfnpepfaaTk3
namespace Go.Proofs.Ytnimehkfnpepfaa
open Go.RowKit
set_option maxRecDepth 100000
set_option linter.unusedVariables false
set_option linter.unusedSimpArgs false

section
theorem bne_t {x : Int} (h : (x != 0) = true) : x ≠ 0 := by simpa using h
theorem bne_f {x : Int} (h : (x != 0) = false) : x = 0 := by simpa using h
theorem dec_t {x y : Int} (h : (!decide (x ≤ y)) = true) : ¬ x ≤ y := by simpa using h
theorem dec_f {x y : Int} (h : (!decide (x ≤ y)) = false) : x ≤ y := by simpa using h
theorem ba_empty {x : ByteArray} (h : x.size = 0) : x = ByteArray.empty := ByteArray.ext (Array.eq_empty_of_size_eq_zero h)
theorem ntB_no1 (id : Int) (z : Nat) (si su at' : Int) (n m : Nat) (o co : Int) (g : Bool) (h : ¬ ((0 ≤ id ∧ id ≤ 65535) ∧ 1 ≤ z ∧ z ≤ 32 ∧ 0 ≤ si ∧ si ≤ 65536 ∧ su = 0 ∧ at' = 0 ∧ n = 0 ∧ m = 0 ∧ o = 0 ∧ co = 0)) : ntB 1 id z si su at' n m o co g = false := by
  unfold ntB ptB brB kwB
  rw [Bool.eq_iff_iff]
  simp
  omega
theorem ntB_yes1 (id : Int) (z : Nat) (si su at' : Int) (n m : Nat) (o co : Int) (g : Bool) (h : (0 ≤ id ∧ id ≤ 65535) ∧ 1 ≤ z ∧ z ≤ 32 ∧ 0 ≤ si ∧ si ≤ 65536 ∧ su = 0 ∧ at' = 0 ∧ n = 0 ∧ m = 0 ∧ o = 0 ∧ co = 0) : ntB 1 id z si su at' n m o co g = true := by
  unfold ntB ptB brB kwB
  rw [Bool.eq_iff_iff]
  simp; omega
set_option maxHeartbeats 64000000 in
theorem rnoteMay_1 (id : Int) (nm : ByteArray) (si su at' : Int) (a : Option Addr) (n cap : Nat) (q : Option Addr) (m cq : Nat) (o co : Int) (F : Nat → Int × Int) (w : World) (hG : RdG w q m cq F) (hn : n ≤ 9223372036854700000) :
    Calls Try.prog 47 #[.agg (ntA 1 id nm si su at' (.slice a n cap) (.slice q m cq) o co)] w fun e w' => e = .returned (.bool (ntB 1 id nm.size si su at' n m o co (alG F 65536 m))) ∧ w.grownBy w' none := by
  by_cases hz : nm.size = 0
  · have hs0 : ByteArray.empty.size = 0 := rfl
    obtain rfl : nm = ByteArray.empty := ba_empty hz
    clear hz
    have bx := BxS.new w 27 #[.int .i64 1, .int .i64 id, .string ByteArray.empty, .int .i64 si, .int .i64 su, .int .i64 at', .slice a n cap, .slice q m cq, .int .i64 o, .int .i64 co]
    have g0 := World.grownBy_alloc w (.cells #[.int .i64 1, .int .i64 id, .string ByteArray.empty, .int .i64 si, .int .i64 su, .int .i64 at', .slice a n cap, .slice q m cq, .int .i64 o, .int .i64 co] 27) none
    have hno := ntB_no1 id ByteArray.empty.size si su at' n m o co (alG F 65536 m)
    have hyes := ntB_yes1 id ByteArray.empty.size si su at' n m o co (alG F 65536 m)
    have HN : Hid (∀ k, gpB (F k).1 (F k).2 65536 = false → k < m → alG F 65536 m = false) := fun k h hk => alG_no F 65536 k h m hk
    have hmx := hG.max
    have hle := hG.le
    have hml : maxLen ≤ 9223372036854775807 := by decide
    have HNo : Hid _ := hno
    have HYes : Hid _ := hyes
    clear hno hyes
    unfold ntA
    generalize hw0 : w.alloc (.cells #[.int .i64 1, .int .i64 id, .string ByteArray.empty, .int .i64 si, .int .i64 su, .int .i64 at', .slice a n cap, .slice q m cq, .int .i64 o, .int .i64 co] 27) = w0 at bx g0
    obtain ⟨d0, d1, d2, d3, d4, d5, d6, d7, d8, d9⟩ := bx.cell10
    have Hbx : Hid (BxS w0 w.heap.size 27 #[.int .i64 1, .int .i64 id, .string ByteArray.empty, .int .i64 si, .int .i64 su, .int .i64 at', .slice a n cap, .slice q m cq, .int .i64 o, .int .i64 co]) := bx
    clear bx
    go_enter Try.func47, Try.ntmps47
    simp only [List.append_eq, List.cons_append, List.nil_append]
    go_big_wp2
    all_goals (first
      | (go_ret; (try (have hz0 := bne_t ‹(co != 0) = true›)); (try (have hz1 := bne_f ‹(co != 0) = false›)); (try (have hz2 := bne_t ‹(o != 0) = true›)); (try (have hz3 := bne_f ‹(o != 0) = false›)); (try (have hz4 := dec_t ‹(!decide (id ≤ 65535)) = true›)); (try (have hz5 := dec_f ‹(!decide (id ≤ 65535)) = false›)); exact ⟨ret_bool (ntB_no1 _ _ _ _ _ _ _ _ _ _ (by omega)).symm, g0⟩)
      | skip)
  · have hz0 : 0 < nm.size := by omega
    have hne : ¬ nm = ByteArray.empty := fun e => hz (by rw [e]; rfl)
    clear hz
    have bx := BxS.new w 27 #[.int .i64 1, .int .i64 id, .string nm, .int .i64 si, .int .i64 su, .int .i64 at', .slice a n cap, .slice q m cq, .int .i64 o, .int .i64 co]
    have g0 := World.grownBy_alloc w (.cells #[.int .i64 1, .int .i64 id, .string nm, .int .i64 si, .int .i64 su, .int .i64 at', .slice a n cap, .slice q m cq, .int .i64 o, .int .i64 co] 27) none
    have hno := ntB_no1 id nm.size si su at' n m o co (alG F 65536 m)
    have hyes := ntB_yes1 id nm.size si su at' n m o co (alG F 65536 m)
    have HN : Hid (∀ k, gpB (F k).1 (F k).2 65536 = false → k < m → alG F 65536 m = false) := fun k h hk => alG_no F 65536 k h m hk
    have hmx := hG.max
    have hle := hG.le
    have hml : maxLen ≤ 9223372036854775807 := by decide
    have HNo : Hid _ := hno
    have HYes : Hid _ := hyes
    clear hno hyes
    unfold ntA
    generalize hw0 : w.alloc (.cells #[.int .i64 1, .int .i64 id, .string nm, .int .i64 si, .int .i64 su, .int .i64 at', .slice a n cap, .slice q m cq, .int .i64 o, .int .i64 co] 27) = w0 at bx g0
    obtain ⟨d0, d1, d2, d3, d4, d5, d6, d7, d8, d9⟩ := bx.cell10
    have Hbx : Hid (BxS w0 w.heap.size 27 #[.int .i64 1, .int .i64 id, .string nm, .int .i64 si, .int .i64 su, .int .i64 at', .slice a n cap, .slice q m cq, .int .i64 o, .int .i64 co]) := bx
    clear bx
    go_enter Try.func47, Try.ntmps47
    simp only [List.append_eq, List.cons_append, List.nil_append]
    go_big_wp2
    all_goals (first
      | (go_ret; (try (have hz0 := bne_t ‹(co != 0) = true›)); (try (have hz1 := bne_f ‹(co != 0) = false›)); (try (have hz2 := bne_t ‹(o != 0) = true›)); (try (have hz3 := bne_f ‹(o != 0) = false›)); (try (have hz4 := dec_t ‹(!decide (id ≤ 65535)) = true›)); (try (have hz5 := dec_f ‹(!decide (id ≤ 65535)) = false›)); exact ⟨ret_bool (ntB_no1 _ _ _ _ _ _ _ _ _ _ (by omega)).symm, g0⟩)
      | skip)
    (try (have hz0 := bne_t ‹(co != 0) = true›)); (try (have hz1 := bne_f ‹(co != 0) = false›)); (try (have hz2 := bne_t ‹(o != 0) = true›)); (try (have hz3 := bne_f ‹(o != 0) = false›)); (try (have hz4 := dec_t ‹(!decide (id ≤ 65535)) = true›)); (try (have hz5 := dec_f ‹(!decide (id ≤ 65535)) = false›));
    have hP : (0 ≤ id ∧ id ≤ 65535) ∧ 1 ≤ nm.size ∧ nm.size ≤ 32 ∧ 0 ≤ si ∧ si ≤ 65536 ∧ su = 0 ∧ at' = 0 ∧ n = 0 ∧ m = 0 ∧ o = 0 ∧ co = 0 := by omega
    have hY := HYes.out hP
    clear hP
    (try clear hz0); (try clear hz1); (try clear hz2); (try clear hz3); (try clear hz4); (try clear hz5)
    clear HYes HNo
    skip
    have bx := Hbx.out
    go_loopw [4] (fun i wr => ∃ k : Nat, k ≤ m ∧ i = .int .i64 k ∧ w.grownBy wr none ∧ alG F 65536 k = true ∧ BxS wr w.heap.size 27 #[.int .i64 1, .int .i64 id, .string nm, .int .i64 si, .int .i64 su, .int .i64 at', .slice a n cap, .slice q m cq, .int .i64 o, .int .i64 co]) (fun i _ => m - (intOf i).toNat)
    case atStart => exact ⟨0, by omega, rfl, g0, rfl, bx⟩
    case round =>
      obtain ⟨j, hj, rfl, hg, hal, bW⟩ := hrel
      clear d0 d1 d2 d3 d4 d5 d6 d7 d8 d9
      obtain ⟨d0, d1, d2, d3, d4, d5, d6, d7, d8, d9⟩ := bW.cell10
      by_cases hlt : j < m
      · omega
      · obtain rfl : j = m := by omega
        clear HN
        go_big_wp2
        all_goals
          go_ret
          exact ⟨ret_bool (by rw [hY] <;> first | rfl | (simp; omega)), hg⟩
theorem ntB_no2 (id : Int) (z : Nat) (si su at' : Int) (n m : Nat) (o co : Int) (g : Bool) (h : ¬ ((0 ≤ id ∧ id ≤ 65535) ∧ 0 ≤ at' ∧ at' ≤ 65535 ∧ 1 ≤ n ∧ n ≤ 1024 ∧ (n : Int) ≤ 65536 - at' ∧ z = 0 ∧ si = 0 ∧ su = 0 ∧ m = 0 ∧ o = 0 ∧ co = 0)) : ntB 2 id z si su at' n m o co g = false := by
  unfold ntB ptB brB kwB
  rw [Bool.eq_iff_iff]
  simp
  omega
theorem ntB_yes2 (id : Int) (z : Nat) (si su at' : Int) (n m : Nat) (o co : Int) (g : Bool) (h : (0 ≤ id ∧ id ≤ 65535) ∧ 0 ≤ at' ∧ at' ≤ 65535 ∧ 1 ≤ n ∧ n ≤ 1024 ∧ (n : Int) ≤ 65536 - at' ∧ z = 0 ∧ si = 0 ∧ su = 0 ∧ m = 0 ∧ o = 0 ∧ co = 0) : ntB 2 id z si su at' n m o co g = true := by
  unfold ntB ptB brB kwB
  rw [Bool.eq_iff_iff]
  simp; omega
set_option maxHeartbeats 64000000 in
theorem rnoteMay_2 (id : Int) (nm : ByteArray) (si su at' : Int) (a : Option Addr) (n cap : Nat) (q : Option Addr) (m cq : Nat) (o co : Int) (F : Nat → Int × Int) (w : World) (hG : RdG w q m cq F) (hn : n ≤ 9223372036854700000) :
    Calls Try.prog 47 #[.agg (ntA 2 id nm si su at' (.slice a n cap) (.slice q m cq) o co)] w fun e w' => e = .returned (.bool (ntB 2 id nm.size si su at' n m o co (alG F 65536 m))) ∧ w.grownBy w' none := by
  by_cases hz : nm.size = 0
  · have hs0 : ByteArray.empty.size = 0 := rfl
    obtain rfl : nm = ByteArray.empty := ba_empty hz
    clear hz
    have bx := BxS.new w 27 #[.int .i64 2, .int .i64 id, .string ByteArray.empty, .int .i64 si, .int .i64 su, .int .i64 at', .slice a n cap, .slice q m cq, .int .i64 o, .int .i64 co]
    have g0 := World.grownBy_alloc w (.cells #[.int .i64 2, .int .i64 id, .string ByteArray.empty, .int .i64 si, .int .i64 su, .int .i64 at', .slice a n cap, .slice q m cq, .int .i64 o, .int .i64 co] 27) none
    have hno := ntB_no2 id ByteArray.empty.size si su at' n m o co (alG F 65536 m)
    have hyes := ntB_yes2 id ByteArray.empty.size si su at' n m o co (alG F 65536 m)
    have HN : Hid (∀ k, gpB (F k).1 (F k).2 65536 = false → k < m → alG F 65536 m = false) := fun k h hk => alG_no F 65536 k h m hk
    have hmx := hG.max
    have hle := hG.le
    have hml : maxLen ≤ 9223372036854775807 := by decide
    have HNo : Hid _ := hno
    have HYes : Hid _ := hyes
    clear hno hyes
    unfold ntA
    generalize hw0 : w.alloc (.cells #[.int .i64 2, .int .i64 id, .string ByteArray.empty, .int .i64 si, .int .i64 su, .int .i64 at', .slice a n cap, .slice q m cq, .int .i64 o, .int .i64 co] 27) = w0 at bx g0
    obtain ⟨d0, d1, d2, d3, d4, d5, d6, d7, d8, d9⟩ := bx.cell10
    have Hbx : Hid (BxS w0 w.heap.size 27 #[.int .i64 2, .int .i64 id, .string ByteArray.empty, .int .i64 si, .int .i64 su, .int .i64 at', .slice a n cap, .slice q m cq, .int .i64 o, .int .i64 co]) := bx
    clear bx
    go_enter Try.func47, Try.ntmps47
    simp only [List.append_eq, List.cons_append, List.nil_append]
    go_big_wp2
    all_goals (first
      | (go_ret; (try (have hz0 := bne_t ‹(co != 0) = true›)); (try (have hz1 := bne_f ‹(co != 0) = false›)); (try (have hz2 := bne_t ‹(o != 0) = true›)); (try (have hz3 := bne_f ‹(o != 0) = false›)); (try (have hz4 := dec_t ‹(!decide (id ≤ 65535)) = true›)); (try (have hz5 := dec_f ‹(!decide (id ≤ 65535)) = false›)); exact ⟨ret_bool (ntB_no2 _ _ _ _ _ _ _ _ _ _ (by omega)).symm, g0⟩)
      | skip)
    (try (have hz0 := bne_t ‹(co != 0) = true›)); (try (have hz1 := bne_f ‹(co != 0) = false›)); (try (have hz2 := bne_t ‹(o != 0) = true›)); (try (have hz3 := bne_f ‹(o != 0) = false›)); (try (have hz4 := dec_t ‹(!decide (id ≤ 65535)) = true›)); (try (have hz5 := dec_f ‹(!decide (id ≤ 65535)) = false›));
    have hP : (0 ≤ id ∧ id ≤ 65535) ∧ 0 ≤ at' ∧ at' ≤ 65535 ∧ 1 ≤ n ∧ n ≤ 1024 ∧ (n : Int) ≤ 65536 - at' ∧ ByteArray.empty.size = 0 ∧ si = 0 ∧ su = 0 ∧ m = 0 ∧ o = 0 ∧ co = 0 := by omega
    have hY := HYes.out hP
    clear hP
    (try clear hz0); (try clear hz1); (try clear hz2); (try clear hz3); (try clear hz4); (try clear hz5)
    clear HYes HNo
    skip
    have bx := Hbx.out
    go_loopw [4] (fun i wr => ∃ k : Nat, k ≤ m ∧ i = .int .i64 k ∧ w.grownBy wr none ∧ alG F 65536 k = true ∧ BxS wr w.heap.size 27 #[.int .i64 2, .int .i64 id, .string ByteArray.empty, .int .i64 si, .int .i64 su, .int .i64 at', .slice a n cap, .slice q m cq, .int .i64 o, .int .i64 co]) (fun i _ => m - (intOf i).toNat)
    case atStart => exact ⟨0, by omega, rfl, g0, rfl, bx⟩
    case round =>
      obtain ⟨j, hj, rfl, hg, hal, bW⟩ := hrel
      clear d0 d1 d2 d3 d4 d5 d6 d7 d8 d9
      obtain ⟨d0, d1, d2, d3, d4, d5, d6, d7, d8, d9⟩ := bW.cell10
      by_cases hlt : j < m
      · omega
      · obtain rfl : j = m := by omega
        clear HN
        go_big_wp2
        all_goals
          go_ret
          exact ⟨ret_bool (by rw [hY] <;> first | rfl | (simp; omega)), hg⟩
  · have hz0 : 0 < nm.size := by omega
    have hne : ¬ nm = ByteArray.empty := fun e => hz (by rw [e]; rfl)
    clear hz
    have bx := BxS.new w 27 #[.int .i64 2, .int .i64 id, .string nm, .int .i64 si, .int .i64 su, .int .i64 at', .slice a n cap, .slice q m cq, .int .i64 o, .int .i64 co]
    have g0 := World.grownBy_alloc w (.cells #[.int .i64 2, .int .i64 id, .string nm, .int .i64 si, .int .i64 su, .int .i64 at', .slice a n cap, .slice q m cq, .int .i64 o, .int .i64 co] 27) none
    have hno := ntB_no2 id nm.size si su at' n m o co (alG F 65536 m)
    have hyes := ntB_yes2 id nm.size si su at' n m o co (alG F 65536 m)
    have HN : Hid (∀ k, gpB (F k).1 (F k).2 65536 = false → k < m → alG F 65536 m = false) := fun k h hk => alG_no F 65536 k h m hk
    have hmx := hG.max
    have hle := hG.le
    have hml : maxLen ≤ 9223372036854775807 := by decide
    have HNo : Hid _ := hno
    have HYes : Hid _ := hyes
    clear hno hyes
    unfold ntA
    generalize hw0 : w.alloc (.cells #[.int .i64 2, .int .i64 id, .string nm, .int .i64 si, .int .i64 su, .int .i64 at', .slice a n cap, .slice q m cq, .int .i64 o, .int .i64 co] 27) = w0 at bx g0
    obtain ⟨d0, d1, d2, d3, d4, d5, d6, d7, d8, d9⟩ := bx.cell10
    have Hbx : Hid (BxS w0 w.heap.size 27 #[.int .i64 2, .int .i64 id, .string nm, .int .i64 si, .int .i64 su, .int .i64 at', .slice a n cap, .slice q m cq, .int .i64 o, .int .i64 co]) := bx
    clear bx
    go_enter Try.func47, Try.ntmps47
    simp only [List.append_eq, List.cons_append, List.nil_append]
    go_big_wp2
    all_goals (first
      | (go_ret; (try (have hz0 := bne_t ‹(co != 0) = true›)); (try (have hz1 := bne_f ‹(co != 0) = false›)); (try (have hz2 := bne_t ‹(o != 0) = true›)); (try (have hz3 := bne_f ‹(o != 0) = false›)); (try (have hz4 := dec_t ‹(!decide (id ≤ 65535)) = true›)); (try (have hz5 := dec_f ‹(!decide (id ≤ 65535)) = false›)); exact ⟨ret_bool (ntB_no2 _ _ _ _ _ _ _ _ _ _ (by omega)).symm, g0⟩)
      | skip)
theorem ntB_no3 (id : Int) (z : Nat) (si su at' : Int) (n m : Nat) (o co : Int) (g : Bool) (h : ¬ ((0 ≤ id ∧ id ≤ 65535) ∧ 0 ≤ si ∧ si ≤ 65536 ∧ 0 ≤ su ∧ su ≤ 4294967295 ∧ z = 0 ∧ at' = 0 ∧ n = 0 ∧ m = 0 ∧ o = 0 ∧ co = 0)) : ntB 3 id z si su at' n m o co g = false := by
  unfold ntB ptB brB kwB
  rw [Bool.eq_iff_iff]
  simp
  omega
theorem ntB_yes3 (id : Int) (z : Nat) (si su at' : Int) (n m : Nat) (o co : Int) (g : Bool) (h : (0 ≤ id ∧ id ≤ 65535) ∧ 0 ≤ si ∧ si ≤ 65536 ∧ 0 ≤ su ∧ su ≤ 4294967295 ∧ z = 0 ∧ at' = 0 ∧ n = 0 ∧ m = 0 ∧ o = 0 ∧ co = 0) : ntB 3 id z si su at' n m o co g = true := by
  unfold ntB ptB brB kwB
  rw [Bool.eq_iff_iff]
  simp; omega
set_option maxHeartbeats 64000000 in
theorem rnoteMay_3 (id : Int) (nm : ByteArray) (si su at' : Int) (a : Option Addr) (n cap : Nat) (q : Option Addr) (m cq : Nat) (o co : Int) (F : Nat → Int × Int) (w : World) (hG : RdG w q m cq F) (hn : n ≤ 9223372036854700000) :
    Calls Try.prog 47 #[.agg (ntA 3 id nm si su at' (.slice a n cap) (.slice q m cq) o co)] w fun e w' => e = .returned (.bool (ntB 3 id nm.size si su at' n m o co (alG F 65536 m))) ∧ w.grownBy w' none := by
  by_cases hz : nm.size = 0
  · have hs0 : ByteArray.empty.size = 0 := rfl
    obtain rfl : nm = ByteArray.empty := ba_empty hz
    clear hz
    have bx := BxS.new w 27 #[.int .i64 3, .int .i64 id, .string ByteArray.empty, .int .i64 si, .int .i64 su, .int .i64 at', .slice a n cap, .slice q m cq, .int .i64 o, .int .i64 co]
    have g0 := World.grownBy_alloc w (.cells #[.int .i64 3, .int .i64 id, .string ByteArray.empty, .int .i64 si, .int .i64 su, .int .i64 at', .slice a n cap, .slice q m cq, .int .i64 o, .int .i64 co] 27) none
    have hno := ntB_no3 id ByteArray.empty.size si su at' n m o co (alG F 65536 m)
    have hyes := ntB_yes3 id ByteArray.empty.size si su at' n m o co (alG F 65536 m)
    have HN : Hid (∀ k, gpB (F k).1 (F k).2 65536 = false → k < m → alG F 65536 m = false) := fun k h hk => alG_no F 65536 k h m hk
    have hmx := hG.max
    have hle := hG.le
    have hml : maxLen ≤ 9223372036854775807 := by decide
    have HNo : Hid _ := hno
    have HYes : Hid _ := hyes
    clear hno hyes
    unfold ntA
    generalize hw0 : w.alloc (.cells #[.int .i64 3, .int .i64 id, .string ByteArray.empty, .int .i64 si, .int .i64 su, .int .i64 at', .slice a n cap, .slice q m cq, .int .i64 o, .int .i64 co] 27) = w0 at bx g0
    obtain ⟨d0, d1, d2, d3, d4, d5, d6, d7, d8, d9⟩ := bx.cell10
    have Hbx : Hid (BxS w0 w.heap.size 27 #[.int .i64 3, .int .i64 id, .string ByteArray.empty, .int .i64 si, .int .i64 su, .int .i64 at', .slice a n cap, .slice q m cq, .int .i64 o, .int .i64 co]) := bx
    clear bx
    go_enter Try.func47, Try.ntmps47
    simp only [List.append_eq, List.cons_append, List.nil_append]
    go_big_wp2
    all_goals (first
      | (go_ret; (try (have hz0 := bne_t ‹(co != 0) = true›)); (try (have hz1 := bne_f ‹(co != 0) = false›)); (try (have hz2 := bne_t ‹(o != 0) = true›)); (try (have hz3 := bne_f ‹(o != 0) = false›)); (try (have hz4 := dec_t ‹(!decide (id ≤ 65535)) = true›)); (try (have hz5 := dec_f ‹(!decide (id ≤ 65535)) = false›)); exact ⟨ret_bool (ntB_no3 _ _ _ _ _ _ _ _ _ _ (by omega)).symm, g0⟩)
      | skip)
    (try (have hz0 := bne_t ‹(co != 0) = true›)); (try (have hz1 := bne_f ‹(co != 0) = false›)); (try (have hz2 := bne_t ‹(o != 0) = true›)); (try (have hz3 := bne_f ‹(o != 0) = false›)); (try (have hz4 := dec_t ‹(!decide (id ≤ 65535)) = true›)); (try (have hz5 := dec_f ‹(!decide (id ≤ 65535)) = false›));
    have hP : (0 ≤ id ∧ id ≤ 65535) ∧ 0 ≤ si ∧ si ≤ 65536 ∧ 0 ≤ su ∧ su ≤ 4294967295 ∧ ByteArray.empty.size = 0 ∧ at' = 0 ∧ n = 0 ∧ m = 0 ∧ o = 0 ∧ co = 0 := by omega
    have hY := HYes.out hP
    clear hP
    (try clear hz0); (try clear hz1); (try clear hz2); (try clear hz3); (try clear hz4); (try clear hz5)
    clear HYes HNo
    skip
    have bx := Hbx.out
    go_loopw [4] (fun i wr => ∃ k : Nat, k ≤ m ∧ i = .int .i64 k ∧ w.grownBy wr none ∧ alG F 65536 k = true ∧ BxS wr w.heap.size 27 #[.int .i64 3, .int .i64 id, .string ByteArray.empty, .int .i64 si, .int .i64 su, .int .i64 at', .slice a n cap, .slice q m cq, .int .i64 o, .int .i64 co]) (fun i _ => m - (intOf i).toNat)
    case atStart => exact ⟨0, by omega, rfl, g0, rfl, bx⟩
    case round =>
      obtain ⟨j, hj, rfl, hg, hal, bW⟩ := hrel
      clear d0 d1 d2 d3 d4 d5 d6 d7 d8 d9
      obtain ⟨d0, d1, d2, d3, d4, d5, d6, d7, d8, d9⟩ := bW.cell10
      by_cases hlt : j < m
      · omega
      · obtain rfl : j = m := by omega
        clear HN
        go_big_wp2
        all_goals
          go_ret
          exact ⟨ret_bool (by rw [hY] <;> first | rfl | (simp; omega)), hg⟩
  · have hz0 : 0 < nm.size := by omega
    have hne : ¬ nm = ByteArray.empty := fun e => hz (by rw [e]; rfl)
    clear hz
    have bx := BxS.new w 27 #[.int .i64 3, .int .i64 id, .string nm, .int .i64 si, .int .i64 su, .int .i64 at', .slice a n cap, .slice q m cq, .int .i64 o, .int .i64 co]
    have g0 := World.grownBy_alloc w (.cells #[.int .i64 3, .int .i64 id, .string nm, .int .i64 si, .int .i64 su, .int .i64 at', .slice a n cap, .slice q m cq, .int .i64 o, .int .i64 co] 27) none
    have hno := ntB_no3 id nm.size si su at' n m o co (alG F 65536 m)
    have hyes := ntB_yes3 id nm.size si su at' n m o co (alG F 65536 m)
    have HN : Hid (∀ k, gpB (F k).1 (F k).2 65536 = false → k < m → alG F 65536 m = false) := fun k h hk => alG_no F 65536 k h m hk
    have hmx := hG.max
    have hle := hG.le
    have hml : maxLen ≤ 9223372036854775807 := by decide
    have HNo : Hid _ := hno
    have HYes : Hid _ := hyes
    clear hno hyes
    unfold ntA
    generalize hw0 : w.alloc (.cells #[.int .i64 3, .int .i64 id, .string nm, .int .i64 si, .int .i64 su, .int .i64 at', .slice a n cap, .slice q m cq, .int .i64 o, .int .i64 co] 27) = w0 at bx g0
    obtain ⟨d0, d1, d2, d3, d4, d5, d6, d7, d8, d9⟩ := bx.cell10
    have Hbx : Hid (BxS w0 w.heap.size 27 #[.int .i64 3, .int .i64 id, .string nm, .int .i64 si, .int .i64 su, .int .i64 at', .slice a n cap, .slice q m cq, .int .i64 o, .int .i64 co]) := bx
    clear bx
    go_enter Try.func47, Try.ntmps47
    simp only [List.append_eq, List.cons_append, List.nil_append]
    go_big_wp2
    all_goals (first
      | (go_ret; (try (have hz0 := bne_t ‹(co != 0) = true›)); (try (have hz1 := bne_f ‹(co != 0) = false›)); (try (have hz2 := bne_t ‹(o != 0) = true›)); (try (have hz3 := bne_f ‹(o != 0) = false›)); (try (have hz4 := dec_t ‹(!decide (id ≤ 65535)) = true›)); (try (have hz5 := dec_f ‹(!decide (id ≤ 65535)) = false›)); exact ⟨ret_bool (ntB_no3 _ _ _ _ _ _ _ _ _ _ (by omega)).symm, g0⟩)
      | skip)
theorem ntB_no4 (id : Int) (z : Nat) (si su at' : Int) (n m : Nat) (o co : Int) (g : Bool) (h : ¬ ((0 ≤ id ∧ id ≤ 65535) ∧ 1 ≤ m ∧ m ≤ 20 ∧ z = 0 ∧ si = 0 ∧ su = 0 ∧ at' = 0 ∧ n = 0 ∧ o = 0 ∧ co = 0)) : ntB 4 id z si su at' n m o co g = false := by
  unfold ntB ptB brB kwB
  rw [Bool.eq_iff_iff]
  simp
  omega
theorem ntB_yes4 (id : Int) (z : Nat) (si su at' : Int) (n m : Nat) (o co : Int) (g : Bool) (h : (0 ≤ id ∧ id ≤ 65535) ∧ 1 ≤ m ∧ m ≤ 20 ∧ z = 0 ∧ si = 0 ∧ su = 0 ∧ at' = 0 ∧ n = 0 ∧ o = 0 ∧ co = 0) : ntB 4 id z si su at' n m o co g = g := by
  unfold ntB ptB brB kwB
  rw [Bool.eq_iff_iff]
  cases g <;> simp <;> omega
set_option maxHeartbeats 64000000 in
theorem rnoteMay_4 (id : Int) (nm : ByteArray) (si su at' : Int) (a : Option Addr) (n cap : Nat) (q : Option Addr) (m cq : Nat) (o co : Int) (F : Nat → Int × Int) (w : World) (hG : RdG w q m cq F) (hn : n ≤ 9223372036854700000) :
    Calls Try.prog 47 #[.agg (ntA 4 id nm si su at' (.slice a n cap) (.slice q m cq) o co)] w fun e w' => e = .returned (.bool (ntB 4 id nm.size si su at' n m o co (alG F 65536 m))) ∧ w.grownBy w' none := by
  by_cases hz : nm.size = 0
  · have hs0 : ByteArray.empty.size = 0 := rfl
    obtain rfl : nm = ByteArray.empty := ba_empty hz
    clear hz
    have bx := BxS.new w 27 #[.int .i64 4, .int .i64 id, .string ByteArray.empty, .int .i64 si, .int .i64 su, .int .i64 at', .slice a n cap, .slice q m cq, .int .i64 o, .int .i64 co]
    have g0 := World.grownBy_alloc w (.cells #[.int .i64 4, .int .i64 id, .string ByteArray.empty, .int .i64 si, .int .i64 su, .int .i64 at', .slice a n cap, .slice q m cq, .int .i64 o, .int .i64 co] 27) none
    have hno := ntB_no4 id ByteArray.empty.size si su at' n m o co (alG F 65536 m)
    have hyes := ntB_yes4 id ByteArray.empty.size si su at' n m o co (alG F 65536 m)
    have HN : Hid (∀ k, gpB (F k).1 (F k).2 65536 = false → k < m → alG F 65536 m = false) := fun k h hk => alG_no F 65536 k h m hk
    have hmx := hG.max
    have hle := hG.le
    have hml : maxLen ≤ 9223372036854775807 := by decide
    have HNo : Hid _ := hno
    have HYes : Hid _ := hyes
    clear hno hyes
    unfold ntA
    generalize hw0 : w.alloc (.cells #[.int .i64 4, .int .i64 id, .string ByteArray.empty, .int .i64 si, .int .i64 su, .int .i64 at', .slice a n cap, .slice q m cq, .int .i64 o, .int .i64 co] 27) = w0 at bx g0
    obtain ⟨d0, d1, d2, d3, d4, d5, d6, d7, d8, d9⟩ := bx.cell10
    have Hbx : Hid (BxS w0 w.heap.size 27 #[.int .i64 4, .int .i64 id, .string ByteArray.empty, .int .i64 si, .int .i64 su, .int .i64 at', .slice a n cap, .slice q m cq, .int .i64 o, .int .i64 co]) := bx
    clear bx
    go_enter Try.func47, Try.ntmps47
    simp only [List.append_eq, List.cons_append, List.nil_append]
    go_big_wp2
    all_goals (first
      | (go_ret; (try (have hz0 := bne_t ‹(co != 0) = true›)); (try (have hz1 := bne_f ‹(co != 0) = false›)); (try (have hz2 := bne_t ‹(o != 0) = true›)); (try (have hz3 := bne_f ‹(o != 0) = false›)); (try (have hz4 := dec_t ‹(!decide (id ≤ 65535)) = true›)); (try (have hz5 := dec_f ‹(!decide (id ≤ 65535)) = false›)); exact ⟨ret_bool (ntB_no4 _ _ _ _ _ _ _ _ _ _ (by omega)).symm, g0⟩)
      | skip)
    (try (have hz0 := bne_t ‹(co != 0) = true›)); (try (have hz1 := bne_f ‹(co != 0) = false›)); (try (have hz2 := bne_t ‹(o != 0) = true›)); (try (have hz3 := bne_f ‹(o != 0) = false›)); (try (have hz4 := dec_t ‹(!decide (id ≤ 65535)) = true›)); (try (have hz5 := dec_f ‹(!decide (id ≤ 65535)) = false›));
    have hP : (0 ≤ id ∧ id ≤ 65535) ∧ 1 ≤ m ∧ m ≤ 20 ∧ ByteArray.empty.size = 0 ∧ si = 0 ∧ su = 0 ∧ at' = 0 ∧ n = 0 ∧ o = 0 ∧ co = 0 := by omega
    have hY := HYes.out hP
    clear hP
    (try clear hz0); (try clear hz1); (try clear hz2); (try clear hz3); (try clear hz4); (try clear hz5)
    clear HYes HNo
    (try rw [‹(co != 0) = false›]); (try rw [‹(!decide (id ≤ 65535)) = false›])
    have bx := Hbx.out
    go_loopw [4] (fun i wr => ∃ k : Nat, k ≤ m ∧ i = .int .i64 k ∧ w.grownBy wr none ∧ alG F 65536 k = true ∧ BxS wr w.heap.size 27 #[.int .i64 4, .int .i64 id, .string ByteArray.empty, .int .i64 si, .int .i64 su, .int .i64 at', .slice a n cap, .slice q m cq, .int .i64 o, .int .i64 co]) (fun i _ => m - (intOf i).toNat)
    case atStart => exact ⟨0, by omega, rfl, g0, rfl, bx⟩
    case round =>
      obtain ⟨j, hj, rfl, hg, hal, bW⟩ := hrel
      clear d0 d1 d2 d3 d4 d5 d6 d7 d8 d9
      obtain ⟨d0, d1, d2, d3, d4, d5, d6, d7, d8, d9⟩ := bW.cell10
      by_cases hlt : j < m
      · have hlt' : (j : Int) < (m : Int) := by omega
        obtain ⟨b1, o1, rfl, _, c1⟩ := (hG.keep hg).at' (by omega)
        obtain ⟨x1, x2⟩ := c1 j hlt
        have HS : Hid (alG F 65536 (j + 1) = (alG F 65536 j && gpB (F j).1 (F j).2 65536)) := rfl
        have hN := HN.out j
        have HN2 : Hid (gpB (F j).1 (F j).2 65536 = false → alG F 65536 m = false) := fun h => hN h hlt
        have hj0 : (0 : Int) ≤ (j : Int) := by omega
        have hs := fun wz => gapMay_any (F j).1 (F j).2 65536 wz
        clear c1 hG HN hN
        generalize gpB (F j).1 (F j).2 65536 = X at hs HS HN2
        cases X
        · go_big_wp2_with (go_at_call 83; refine (hs _).mono ?_; rintro e w3 ⟨rfl, g3⟩)
          go_ret
          exact ⟨ret_bool (by rw [hY, HN2.out (by first | rfl | trivial)]), grown_trans hg g3⟩
        · go_big_wp2_with (go_at_call 83; refine (hs _).mono ?_; rintro e w3 ⟨rfl, g3⟩)
          go_roundw
          case rel =>
            repeat apply Exists.intro
            refine ⟨?_, rfl⟩
            exact ⟨j + 1, by omega, by go_num, grown_trans hg g3, by rw [HS.out, hal]; rfl, bW.keep g3 (by simp)⟩
          case measure => simp [intOf]; omega
      · obtain rfl : j = m := by omega
        clear HN
        go_big_wp2
        all_goals
          go_ret
          exact ⟨ret_bool (by rw [hY, hal] <;> first | rfl | (simp; omega)), hg⟩
  · have hz0 : 0 < nm.size := by omega
    have hne : ¬ nm = ByteArray.empty := fun e => hz (by rw [e]; rfl)
    clear hz
    have bx := BxS.new w 27 #[.int .i64 4, .int .i64 id, .string nm, .int .i64 si, .int .i64 su, .int .i64 at', .slice a n cap, .slice q m cq, .int .i64 o, .int .i64 co]
    have g0 := World.grownBy_alloc w (.cells #[.int .i64 4, .int .i64 id, .string nm, .int .i64 si, .int .i64 su, .int .i64 at', .slice a n cap, .slice q m cq, .int .i64 o, .int .i64 co] 27) none
    have hno := ntB_no4 id nm.size si su at' n m o co (alG F 65536 m)
    have hyes := ntB_yes4 id nm.size si su at' n m o co (alG F 65536 m)
    have HN : Hid (∀ k, gpB (F k).1 (F k).2 65536 = false → k < m → alG F 65536 m = false) := fun k h hk => alG_no F 65536 k h m hk
    have hmx := hG.max
    have hle := hG.le
    have hml : maxLen ≤ 9223372036854775807 := by decide
    have HNo : Hid _ := hno
    have HYes : Hid _ := hyes
    clear hno hyes
    unfold ntA
    generalize hw0 : w.alloc (.cells #[.int .i64 4, .int .i64 id, .string nm, .int .i64 si, .int .i64 su, .int .i64 at', .slice a n cap, .slice q m cq, .int .i64 o, .int .i64 co] 27) = w0 at bx g0
    obtain ⟨d0, d1, d2, d3, d4, d5, d6, d7, d8, d9⟩ := bx.cell10
    have Hbx : Hid (BxS w0 w.heap.size 27 #[.int .i64 4, .int .i64 id, .string nm, .int .i64 si, .int .i64 su, .int .i64 at', .slice a n cap, .slice q m cq, .int .i64 o, .int .i64 co]) := bx
    clear bx
    go_enter Try.func47, Try.ntmps47
    simp only [List.append_eq, List.cons_append, List.nil_append]
    go_big_wp2
    all_goals (first
      | (go_ret; (try (have hz0 := bne_t ‹(co != 0) = true›)); (try (have hz1 := bne_f ‹(co != 0) = false›)); (try (have hz2 := bne_t ‹(o != 0) = true›)); (try (have hz3 := bne_f ‹(o != 0) = false›)); (try (have hz4 := dec_t ‹(!decide (id ≤ 65535)) = true›)); (try (have hz5 := dec_f ‹(!decide (id ≤ 65535)) = false›)); exact ⟨ret_bool (ntB_no4 _ _ _ _ _ _ _ _ _ _ (by omega)).symm, g0⟩)
      | skip)
theorem ntB_no5 (id : Int) (z : Nat) (si su at' : Int) (n m : Nat) (o co : Int) (g : Bool) (h : ¬ ((0 ≤ id ∧ id ≤ 65535) ∧ (co = 0 ∨ co = 9) ∧ z = 0 ∧ si = 0 ∧ su = 0 ∧ at' = 0 ∧ n = 0 ∧ m = 0 ∧ o = 0)) : ntB 5 id z si su at' n m o co g = false := by
  unfold ntB ptB brB kwB
  rw [Bool.eq_iff_iff]
  simp
  omega
theorem ntB_yes5 (id : Int) (z : Nat) (si su at' : Int) (n m : Nat) (o co : Int) (g : Bool) (h : (0 ≤ id ∧ id ≤ 65535) ∧ (co = 0 ∨ co = 9) ∧ z = 0 ∧ si = 0 ∧ su = 0 ∧ at' = 0 ∧ n = 0 ∧ m = 0 ∧ o = 0) : ntB 5 id z si su at' n m o co g = true := by
  unfold ntB ptB brB kwB
  rw [Bool.eq_iff_iff]
  simp; omega
theorem ntB_val5 (id : Int) (z : Nat) (si su at' : Int) (n m : Nat) (o co : Int) (g : Bool) (h : (0 ≤ id ∧ id ≤ 65535) ∧ z = 0 ∧ si = 0 ∧ su = 0 ∧ at' = 0 ∧ n = 0 ∧ m = 0 ∧ o = 0) : ntB 5 id z si su at' n m o co g = (co == 0 || co == 9) := by
  unfold ntB ptB brB kwB
  rw [Bool.eq_iff_iff]
  simp
  omega
set_option maxHeartbeats 64000000 in
theorem rnoteMay_5 (id : Int) (nm : ByteArray) (si su at' : Int) (a : Option Addr) (n cap : Nat) (q : Option Addr) (m cq : Nat) (o co : Int) (F : Nat → Int × Int) (w : World) (hG : RdG w q m cq F) (hn : n ≤ 9223372036854700000) :
    Calls Try.prog 47 #[.agg (ntA 5 id nm si su at' (.slice a n cap) (.slice q m cq) o co)] w fun e w' => e = .returned (.bool (ntB 5 id nm.size si su at' n m o co (alG F 65536 m))) ∧ w.grownBy w' none := by
  by_cases hz : nm.size = 0
  · have hs0 : ByteArray.empty.size = 0 := rfl
    obtain rfl : nm = ByteArray.empty := ba_empty hz
    clear hz
    have bx := BxS.new w 27 #[.int .i64 5, .int .i64 id, .string ByteArray.empty, .int .i64 si, .int .i64 su, .int .i64 at', .slice a n cap, .slice q m cq, .int .i64 o, .int .i64 co]
    have g0 := World.grownBy_alloc w (.cells #[.int .i64 5, .int .i64 id, .string ByteArray.empty, .int .i64 si, .int .i64 su, .int .i64 at', .slice a n cap, .slice q m cq, .int .i64 o, .int .i64 co] 27) none
    have hno := ntB_no5 id ByteArray.empty.size si su at' n m o co (alG F 65536 m)
    have hyes := ntB_yes5 id ByteArray.empty.size si su at' n m o co (alG F 65536 m)
    have HN : Hid (∀ k, gpB (F k).1 (F k).2 65536 = false → k < m → alG F 65536 m = false) := fun k h hk => alG_no F 65536 k h m hk
    have hmx := hG.max
    have hle := hG.le
    have hml : maxLen ≤ 9223372036854775807 := by decide
    have HNo : Hid _ := hno
    have HYes : Hid _ := hyes
    clear hno hyes
    unfold ntA
    generalize hw0 : w.alloc (.cells #[.int .i64 5, .int .i64 id, .string ByteArray.empty, .int .i64 si, .int .i64 su, .int .i64 at', .slice a n cap, .slice q m cq, .int .i64 o, .int .i64 co] 27) = w0 at bx g0
    obtain ⟨d0, d1, d2, d3, d4, d5, d6, d7, d8, d9⟩ := bx.cell10
    have Hbx : Hid (BxS w0 w.heap.size 27 #[.int .i64 5, .int .i64 id, .string ByteArray.empty, .int .i64 si, .int .i64 su, .int .i64 at', .slice a n cap, .slice q m cq, .int .i64 o, .int .i64 co]) := bx
    clear bx
    go_enter Try.func47, Try.ntmps47
    simp only [List.append_eq, List.cons_append, List.nil_append]
    go_big_wp2
    all_goals (first
      | (go_ret; (try (have hz0 := bne_t ‹(co != 0) = true›)); (try (have hz1 := bne_f ‹(co != 0) = false›)); (try (have hz2 := bne_t ‹(o != 0) = true›)); (try (have hz3 := bne_f ‹(o != 0) = false›)); (try (have hz4 := dec_t ‹(!decide (id ≤ 65535)) = true›)); (try (have hz5 := dec_f ‹(!decide (id ≤ 65535)) = false›)); exact ⟨ret_bool (ntB_no5 _ _ _ _ _ _ _ _ _ _ (by omega)).symm, g0⟩)
      | skip)
    (try (have hz0 := bne_t ‹(co != 0) = true›)); (try (have hz1 := bne_f ‹(co != 0) = false›)); (try (have hz2 := bne_t ‹(o != 0) = true›)); (try (have hz3 := bne_f ‹(o != 0) = false›)); (try (have hz4 := dec_t ‹(!decide (id ≤ 65535)) = true›)); (try (have hz5 := dec_f ‹(!decide (id ≤ 65535)) = false›));
    have hm0 : m = 0 := by omega
    clear HYes HNo
    skip
    have bx := Hbx.out
    go_loopw [4] (fun i wr => ∃ k : Nat, k ≤ m ∧ i = .int .i64 k ∧ w.grownBy wr none ∧ alG F 65536 k = true ∧ BxS wr w.heap.size 27 #[.int .i64 5, .int .i64 id, .string ByteArray.empty, .int .i64 si, .int .i64 su, .int .i64 at', .slice a n cap, .slice q m cq, .int .i64 o, .int .i64 co]) (fun i _ => m - (intOf i).toNat)
    case atStart => exact ⟨0, by omega, rfl, g0, rfl, bx⟩
    case round =>
      obtain ⟨j, hj, rfl, hg, hal, bW⟩ := hrel
      clear d0 d1 d2 d3 d4 d5 d6 d7 d8 d9
      obtain ⟨d0, d1, d2, d3, d4, d5, d6, d7, d8, d9⟩ := bW.cell10
      by_cases hlt : j < m
      · omega
      · obtain rfl : j = m := by omega
        clear HN
        go_big_wp2
        all_goals
          go_ret
          refine ⟨ret_bool ?_, hg⟩
          have hz5 := dec_f ‹(!decide (id ≤ 65535)) = false›
          (try (have hz1 := bne_f ‹(co != 0) = false›))
          (try (have hz3 := bne_f ‹(o != 0) = false›))
          rw [ntB_val5 _ _ _ _ _ _ _ _ _ _ (by omega)] <;> first | rfl | (subst_vars; rfl) | (rw [Bool.eq_iff_iff]; simp; omega)
  · have hz0 : 0 < nm.size := by omega
    have hne : ¬ nm = ByteArray.empty := fun e => hz (by rw [e]; rfl)
    clear hz
    have bx := BxS.new w 27 #[.int .i64 5, .int .i64 id, .string nm, .int .i64 si, .int .i64 su, .int .i64 at', .slice a n cap, .slice q m cq, .int .i64 o, .int .i64 co]
    have g0 := World.grownBy_alloc w (.cells #[.int .i64 5, .int .i64 id, .string nm, .int .i64 si, .int .i64 su, .int .i64 at', .slice a n cap, .slice q m cq, .int .i64 o, .int .i64 co] 27) none
    have hno := ntB_no5 id nm.size si su at' n m o co (alG F 65536 m)
    have hyes := ntB_yes5 id nm.size si su at' n m o co (alG F 65536 m)
    have HN : Hid (∀ k, gpB (F k).1 (F k).2 65536 = false → k < m → alG F 65536 m = false) := fun k h hk => alG_no F 65536 k h m hk
    have hmx := hG.max
    have hle := hG.le
    have hml : maxLen ≤ 9223372036854775807 := by decide
    have HNo : Hid _ := hno
    have HYes : Hid _ := hyes
    clear hno hyes
    unfold ntA
    generalize hw0 : w.alloc (.cells #[.int .i64 5, .int .i64 id, .string nm, .int .i64 si, .int .i64 su, .int .i64 at', .slice a n cap, .slice q m cq, .int .i64 o, .int .i64 co] 27) = w0 at bx g0
    obtain ⟨d0, d1, d2, d3, d4, d5, d6, d7, d8, d9⟩ := bx.cell10
    have Hbx : Hid (BxS w0 w.heap.size 27 #[.int .i64 5, .int .i64 id, .string nm, .int .i64 si, .int .i64 su, .int .i64 at', .slice a n cap, .slice q m cq, .int .i64 o, .int .i64 co]) := bx
    clear bx
    go_enter Try.func47, Try.ntmps47
    simp only [List.append_eq, List.cons_append, List.nil_append]
    go_big_wp2
    all_goals (first
      | (go_ret; (try (have hz0 := bne_t ‹(co != 0) = true›)); (try (have hz1 := bne_f ‹(co != 0) = false›)); (try (have hz2 := bne_t ‹(o != 0) = true›)); (try (have hz3 := bne_f ‹(o != 0) = false›)); (try (have hz4 := dec_t ‹(!decide (id ≤ 65535)) = true›)); (try (have hz5 := dec_f ‹(!decide (id ≤ 65535)) = false›)); exact ⟨ret_bool (ntB_no5 _ _ _ _ _ _ _ _ _ _ (by omega)).symm, g0⟩)
      | skip)
theorem ntB_no6 (id : Int) (z : Nat) (si su at' : Int) (n m : Nat) (o co : Int) (g : Bool) (h : ¬ ((0 ≤ id ∧ id ≤ 65535) ∧ (o = 3 ∨ o = 5) ∧ z = 0 ∧ si = 0 ∧ su = 0 ∧ at' = 0 ∧ n = 0 ∧ m = 0 ∧ co = 0)) : ntB 6 id z si su at' n m o co g = false := by
  unfold ntB ptB brB kwB
  rw [Bool.eq_iff_iff]
  simp
  omega
theorem ntB_yes6 (id : Int) (z : Nat) (si su at' : Int) (n m : Nat) (o co : Int) (g : Bool) (h : (0 ≤ id ∧ id ≤ 65535) ∧ (o = 3 ∨ o = 5) ∧ z = 0 ∧ si = 0 ∧ su = 0 ∧ at' = 0 ∧ n = 0 ∧ m = 0 ∧ co = 0) : ntB 6 id z si su at' n m o co g = true := by
  unfold ntB ptB brB kwB
  rw [Bool.eq_iff_iff]
  simp; omega
theorem ntB_val6 (id : Int) (z : Nat) (si su at' : Int) (n m : Nat) (o co : Int) (g : Bool) (h : (0 ≤ id ∧ id ≤ 65535) ∧ z = 0 ∧ si = 0 ∧ su = 0 ∧ at' = 0 ∧ n = 0 ∧ m = 0 ∧ co = 0) : ntB 6 id z si su at' n m o co g = (o == 3 || o == 5) := by
  unfold ntB ptB brB kwB
  rw [Bool.eq_iff_iff]
  simp
  omega
set_option maxHeartbeats 64000000 in
theorem rnoteMay_6 (id : Int) (nm : ByteArray) (si su at' : Int) (a : Option Addr) (n cap : Nat) (q : Option Addr) (m cq : Nat) (o co : Int) (F : Nat → Int × Int) (w : World) (hG : RdG w q m cq F) (hn : n ≤ 9223372036854700000) :
    Calls Try.prog 47 #[.agg (ntA 6 id nm si su at' (.slice a n cap) (.slice q m cq) o co)] w fun e w' => e = .returned (.bool (ntB 6 id nm.size si su at' n m o co (alG F 65536 m))) ∧ w.grownBy w' none := by
  by_cases hz : nm.size = 0
  · have hs0 : ByteArray.empty.size = 0 := rfl
    obtain rfl : nm = ByteArray.empty := ba_empty hz
    clear hz
    have bx := BxS.new w 27 #[.int .i64 6, .int .i64 id, .string ByteArray.empty, .int .i64 si, .int .i64 su, .int .i64 at', .slice a n cap, .slice q m cq, .int .i64 o, .int .i64 co]
    have g0 := World.grownBy_alloc w (.cells #[.int .i64 6, .int .i64 id, .string ByteArray.empty, .int .i64 si, .int .i64 su, .int .i64 at', .slice a n cap, .slice q m cq, .int .i64 o, .int .i64 co] 27) none
    have hno := ntB_no6 id ByteArray.empty.size si su at' n m o co (alG F 65536 m)
    have hyes := ntB_yes6 id ByteArray.empty.size si su at' n m o co (alG F 65536 m)
    have HN : Hid (∀ k, gpB (F k).1 (F k).2 65536 = false → k < m → alG F 65536 m = false) := fun k h hk => alG_no F 65536 k h m hk
    have hmx := hG.max
    have hle := hG.le
    have hml : maxLen ≤ 9223372036854775807 := by decide
    have HNo : Hid _ := hno
    have HYes : Hid _ := hyes
    clear hno hyes
    unfold ntA
    generalize hw0 : w.alloc (.cells #[.int .i64 6, .int .i64 id, .string ByteArray.empty, .int .i64 si, .int .i64 su, .int .i64 at', .slice a n cap, .slice q m cq, .int .i64 o, .int .i64 co] 27) = w0 at bx g0
    obtain ⟨d0, d1, d2, d3, d4, d5, d6, d7, d8, d9⟩ := bx.cell10
    have Hbx : Hid (BxS w0 w.heap.size 27 #[.int .i64 6, .int .i64 id, .string ByteArray.empty, .int .i64 si, .int .i64 su, .int .i64 at', .slice a n cap, .slice q m cq, .int .i64 o, .int .i64 co]) := bx
    clear bx
    go_enter Try.func47, Try.ntmps47
    simp only [List.append_eq, List.cons_append, List.nil_append]
    go_big_wp2
    all_goals (first
      | (go_ret; (try (have hz0 := bne_t ‹(co != 0) = true›)); (try (have hz1 := bne_f ‹(co != 0) = false›)); (try (have hz2 := bne_t ‹(o != 0) = true›)); (try (have hz3 := bne_f ‹(o != 0) = false›)); (try (have hz4 := dec_t ‹(!decide (id ≤ 65535)) = true›)); (try (have hz5 := dec_f ‹(!decide (id ≤ 65535)) = false›)); exact ⟨ret_bool (ntB_no6 _ _ _ _ _ _ _ _ _ _ (by omega)).symm, g0⟩)
      | skip)
    (try (have hz0 := bne_t ‹(co != 0) = true›)); (try (have hz1 := bne_f ‹(co != 0) = false›)); (try (have hz2 := bne_t ‹(o != 0) = true›)); (try (have hz3 := bne_f ‹(o != 0) = false›)); (try (have hz4 := dec_t ‹(!decide (id ≤ 65535)) = true›)); (try (have hz5 := dec_f ‹(!decide (id ≤ 65535)) = false›));
    have hm0 : m = 0 := by omega
    clear HYes HNo
    skip
    have bx := Hbx.out
    go_loopw [4] (fun i wr => ∃ k : Nat, k ≤ m ∧ i = .int .i64 k ∧ w.grownBy wr none ∧ alG F 65536 k = true ∧ BxS wr w.heap.size 27 #[.int .i64 6, .int .i64 id, .string ByteArray.empty, .int .i64 si, .int .i64 su, .int .i64 at', .slice a n cap, .slice q m cq, .int .i64 o, .int .i64 co]) (fun i _ => m - (intOf i).toNat)
    case atStart => exact ⟨0, by omega, rfl, g0, rfl, bx⟩
    case round =>
      obtain ⟨j, hj, rfl, hg, hal, bW⟩ := hrel
      clear d0 d1 d2 d3 d4 d5 d6 d7 d8 d9
      obtain ⟨d0, d1, d2, d3, d4, d5, d6, d7, d8, d9⟩ := bW.cell10
      by_cases hlt : j < m
      · omega
      · obtain rfl : j = m := by omega
        clear HN
        go_big_wp2
        all_goals
          go_ret
          refine ⟨ret_bool ?_, hg⟩
          have hz5 := dec_f ‹(!decide (id ≤ 65535)) = false›
          (try (have hz1 := bne_f ‹(co != 0) = false›))
          (try (have hz3 := bne_f ‹(o != 0) = false›))
          rw [ntB_val6 _ _ _ _ _ _ _ _ _ _ (by omega)] <;> first | rfl | (subst_vars; rfl) | (rw [Bool.eq_iff_iff]; simp; omega)
  · have hz0 : 0 < nm.size := by omega
    have hne : ¬ nm = ByteArray.empty := fun e => hz (by rw [e]; rfl)
    clear hz
    have bx := BxS.new w 27 #[.int .i64 6, .int .i64 id, .string nm, .int .i64 si, .int .i64 su, .int .i64 at', .slice a n cap, .slice q m cq, .int .i64 o, .int .i64 co]
    have g0 := World.grownBy_alloc w (.cells #[.int .i64 6, .int .i64 id, .string nm, .int .i64 si, .int .i64 su, .int .i64 at', .slice a n cap, .slice q m cq, .int .i64 o, .int .i64 co] 27) none
    have hno := ntB_no6 id nm.size si su at' n m o co (alG F 65536 m)
    have hyes := ntB_yes6 id nm.size si su at' n m o co (alG F 65536 m)
    have HN : Hid (∀ k, gpB (F k).1 (F k).2 65536 = false → k < m → alG F 65536 m = false) := fun k h hk => alG_no F 65536 k h m hk
    have hmx := hG.max
    have hle := hG.le
    have hml : maxLen ≤ 9223372036854775807 := by decide
    have HNo : Hid _ := hno
    have HYes : Hid _ := hyes
    clear hno hyes
    unfold ntA
    generalize hw0 : w.alloc (.cells #[.int .i64 6, .int .i64 id, .string nm, .int .i64 si, .int .i64 su, .int .i64 at', .slice a n cap, .slice q m cq, .int .i64 o, .int .i64 co] 27) = w0 at bx g0
    obtain ⟨d0, d1, d2, d3, d4, d5, d6, d7, d8, d9⟩ := bx.cell10
    have Hbx : Hid (BxS w0 w.heap.size 27 #[.int .i64 6, .int .i64 id, .string nm, .int .i64 si, .int .i64 su, .int .i64 at', .slice a n cap, .slice q m cq, .int .i64 o, .int .i64 co]) := bx
    clear bx
    go_enter Try.func47, Try.ntmps47
    simp only [List.append_eq, List.cons_append, List.nil_append]
    go_big_wp2
    all_goals (first
      | (go_ret; (try (have hz0 := bne_t ‹(co != 0) = true›)); (try (have hz1 := bne_f ‹(co != 0) = false›)); (try (have hz2 := bne_t ‹(o != 0) = true›)); (try (have hz3 := bne_f ‹(o != 0) = false›)); (try (have hz4 := dec_t ‹(!decide (id ≤ 65535)) = true›)); (try (have hz5 := dec_f ‹(!decide (id ≤ 65535)) = false›)); exact ⟨ret_bool (ntB_no6 _ _ _ _ _ _ _ _ _ _ (by omega)).symm, g0⟩)
      | skip)
theorem ntB_no0 (kd id : Int) (z : Nat) (si su at' : Int) (n m : Nat) (o co : Int) (g : Bool) (h : kd < 1 ∨ 6 < kd) : ntB kd id z si su at' n m o co g = false := by
  unfold ntB ptB brB kwB
  rw [Bool.eq_iff_iff]
  simp
  omega
set_option maxHeartbeats 64000000 in
theorem rnoteMay_0 (kd id : Int) (nm : ByteArray) (si su at' : Int) (a : Option Addr) (n cap : Nat) (q : Option Addr) (m cq : Nat) (o co : Int) (g : Bool) (w : World) (h : kd < 1 ∨ 6 < kd) :
    Calls Try.prog 47 #[.agg (ntA kd id nm si su at' (.slice a n cap) (.slice q m cq) o co)] w fun e w' => e = .returned (.bool (ntB kd id nm.size si su at' n m o co g)) ∧ w.grownBy w' none := by
  have bx := BxS.new w 27 #[.int .i64 kd, .int .i64 id, .string nm, .int .i64 si, .int .i64 su, .int .i64 at', .slice a n cap, .slice q m cq, .int .i64 o, .int .i64 co]
  have g0 := World.grownBy_alloc w (.cells #[.int .i64 kd, .int .i64 id, .string nm, .int .i64 si, .int .i64 su, .int .i64 at', .slice a n cap, .slice q m cq, .int .i64 o, .int .i64 co] 27) none
  rw [ntB_no0 _ _ _ _ _ _ _ _ _ _ _ h]
  unfold ntA
  generalize hw0 : w.alloc (.cells #[.int .i64 kd, .int .i64 id, .string nm, .int .i64 si, .int .i64 su, .int .i64 at', .slice a n cap, .slice q m cq, .int .i64 o, .int .i64 co] 27) = w0 at bx g0
  obtain ⟨d0, d1, d2, d3, d4, d5, d6, d7, d8, d9⟩ := bx.cell10
  rcases h with h | h
  · go_enter Try.func47, Try.ntmps47
    simp only [List.append_eq, List.cons_append, List.nil_append]
    go_big_wp2
    go_ret
    exact ⟨rfl, g0⟩
  · go_enter Try.func47, Try.ntmps47
    simp only [List.append_eq, List.cons_append, List.nil_append]
    go_big_wp2
    go_ret
    exact ⟨rfl, g0⟩
theorem rnoteMay_any (kd id : Int) (nm : ByteArray) (si su at' : Int) (a : Option Addr) (n cap : Nat) (q : Option Addr) (m cq : Nat) (o co : Int) (F : Nat → Int × Int) (w : World) (hG : RdG w q m cq F) (hn : n ≤ 9223372036854700000) :
    Calls Try.prog 47 #[.agg (ntA kd id nm si su at' (.slice a n cap) (.slice q m cq) o co)] w fun e w' => e = .returned (.bool (ntB kd id nm.size si su at' n m o co (alG F 65536 m))) ∧ w.grownBy w' none := by
  by_cases h : kd < 1 ∨ 6 < kd
  · exact rnoteMay_0 kd id nm si su at' a n cap q m cq o co _ w h
  · rcases (by omega : kd = 1 ∨ kd = 2 ∨ kd = 3 ∨ kd = 4 ∨ kd = 5 ∨ kd = 6) with rfl | rfl | rfl | rfl | rfl | rfl
    · exact rnoteMay_1 id nm si su at' a n cap q m cq o co F w hG hn
    · exact rnoteMay_2 id nm si su at' a n cap q m cq o co F w hG hn
    · exact rnoteMay_3 id nm si su at' a n cap q m cq o co F w hG hn
    · exact rnoteMay_4 id nm si su at' a n cap q m cq o co F w hG hn
    · exact rnoteMay_5 id nm si su at' a n cap q m cq o co F w hG hn
    · exact rnoteMay_6 id nm si su at' a n cap q m cq o co F w hG hn
end
end Go.Proofs.Ytnimehkfnpepfaa
