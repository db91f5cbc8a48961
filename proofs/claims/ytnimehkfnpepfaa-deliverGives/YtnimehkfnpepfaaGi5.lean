import Derived.Test.YtnimehkfnpepfaaGi2
import Derived.Test.YtnimehkfnpepfaaGi3
import Derived.Test.YtnimehkfnpepfaaGi4
namespace Go.Proofs.Ytnimehkfnpepfaa
open Go.RowKit
set_option maxRecDepth 100000
set_option linter.unusedVariables false
set_option linter.unusedSimpArgs false

section
set_option maxHeartbeats 8000000 in
theorem offered_any (id : Int) (nm : ByteArray) (a : Option Addr) (n cap : Nat) (mo bu pa li : Int) (L : List Nat) (w : World) (hL : Rd w a n cap L) :
    Calls Try.prog 24 #[.int .i64 id, .string nm, .slice a n cap, .int .i64 mo, .int .i64 bu, .int .i64 pa, .int .i64 li] w fun e w' => OfA id nm mo bu pa li (ofE id pa li mo bu nm.size n) L w w' e := by
  have h0 := fun wz => inRange_any id 0 65535 wz
  have h1 := fun wz => inRange_any mo 1 1024 wz
  have h2 := fun wz => inRange_any bu 1 50 wz
  have h3 := fun wz => inRange_any pa 1 1000 wz
  have h4 := fun wz => inRange_any li 1 100 wz
  have h5 := fun wz => inRange_any nm.size 1 32 wz
  have b0 := BxS.new w 44 #[.int .i64 0, .string ⟨#[]⟩, .slice none 0 0, .int .i64 0, .int .i64 0, .int .i64 0, .bool false, .int .i64 0, .slice none 0 0, .int .i64 0, .int .i64 0, .int .i64 0, .int .i64 0]
  have g0 := World.grownBy_alloc w (.cells #[.int .i64 0, .string ⟨#[]⟩, .slice none 0 0, .int .i64 0, .int .i64 0, .int .i64 0, .bool false, .int .i64 0, .slice none 0 0, .int .i64 0, .int .i64 0, .int .i64 0, .int .i64 0] 44) none
  have i13 := Try.info_gv
  generalize hw0 : w.alloc (.cells #[.int .i64 0, .string ⟨#[]⟩, .slice none 0 0, .int .i64 0, .int .i64 0, .int .i64 0, .bool false, .int .i64 0, .slice none 0 0, .int .i64 0, .int .i64 0, .int .i64 0, .int .i64 0] 44) = w0 at b0 g0
  have hz0 : w0.heap.size = w.heap.size + 1 := by rw [← hw0]; simp
  have t2 : True := trivial
  unfold ofE ofB ofC dsB
  generalize kwB id 0 65535 = b0 at h0 ⊢
  generalize kwB mo 1 1024 = b1 at h1 ⊢
  generalize kwB bu 1 50 = b2 at h2 ⊢
  generalize kwB pa 1 1000 = b3 at h3 ⊢
  generalize kwB li 1 100 = b4 at h4 ⊢
  generalize kwB nm.size 1 32 = b5 at h5 ⊢
  cases b0
  case false =>
    simp only [Bool.false_and, Bool.and_false, Bool.true_and, Bool.and_true, Bool.false_eq_true, if_false]
    go_enter Try.func24, Try.ntmps24
    go_wp2_with (first
      | (go_at_call 55; (with_reducible first | refine (h0 _).mono ?_ | refine (h1 _).mono ?_ | refine (h2 _).mono ?_ | refine (h3 _).mono ?_ | refine (h4 _).mono ?_ | refine (h5 _).mono ?_); rintro e w1 ⟨rfl, hw⟩; have hw := hw.symm; subst hw)
      | (have _t := t2; (first | refine wpList_stX _ rfl _ (.tmp 14) (.tmp 39) rfl w.heap.size _ _ rfl rfl b0 i13 rfl (by simp [Value.oneCell']) ?_ | refine wpList_stX _ rfl _ (.tmp 14) (.tmp 40) rfl w.heap.size _ _ rfl rfl b0 i13 rfl (by simp [Value.oneCell']) ?_ | refine wpList_stX _ rfl _ (.tmp 14) (.tmp 48) rfl w.heap.size _ _ rfl rfl b0 i13 rfl (by simp [Value.oneCell']) ?_ | refine wpList_stX _ rfl _ (.tmp 14) (.tmp 49) rfl w.heap.size _ _ rfl rfl b0 i13 rfl (by simp [Value.oneCell']) ?_ | refine wpList_stX _ rfl _ (.tmp 14) (.tmp 50) rfl w.heap.size _ _ rfl rfl b0 i13 rfl (by simp [Value.oneCell']) ?_); clear t2; intro w9 b9 g9))
    refine bodyPost_ret (results_cell1t rfl _ _ _ ⟨w.heap.size, 0, none⟩ _ (.int .i64 2) rfl (BxS.load (t := 44) b9 Try.underlying44 i13) rfl) rfl ?_
    exact ofA_bad id nm mo bu pa li 2 L w w9 (by decide) (grown_far g0 g9 (fun q e => by have e : w.heap.size = q := Option.some.inj e; omega))
  cases b1
  case false =>
    simp only [Bool.false_and, Bool.and_false, Bool.true_and, Bool.and_true, Bool.false_eq_true, if_false]
    go_enter Try.func24, Try.ntmps24
    go_wp2_with (first
      | (go_at_call 55; (with_reducible first | refine (h0 _).mono ?_ | refine (h1 _).mono ?_ | refine (h2 _).mono ?_ | refine (h3 _).mono ?_ | refine (h4 _).mono ?_ | refine (h5 _).mono ?_); rintro e w1 ⟨rfl, hw⟩; have hw := hw.symm; subst hw)
      | (have _t := t2; (first | refine wpList_stX _ rfl _ (.tmp 14) (.tmp 39) rfl w.heap.size _ _ rfl rfl b0 i13 rfl (by simp [Value.oneCell']) ?_ | refine wpList_stX _ rfl _ (.tmp 14) (.tmp 40) rfl w.heap.size _ _ rfl rfl b0 i13 rfl (by simp [Value.oneCell']) ?_ | refine wpList_stX _ rfl _ (.tmp 14) (.tmp 48) rfl w.heap.size _ _ rfl rfl b0 i13 rfl (by simp [Value.oneCell']) ?_ | refine wpList_stX _ rfl _ (.tmp 14) (.tmp 49) rfl w.heap.size _ _ rfl rfl b0 i13 rfl (by simp [Value.oneCell']) ?_ | refine wpList_stX _ rfl _ (.tmp 14) (.tmp 50) rfl w.heap.size _ _ rfl rfl b0 i13 rfl (by simp [Value.oneCell']) ?_); clear t2; intro w9 b9 g9))
    refine bodyPost_ret (results_cell1t rfl _ _ _ ⟨w.heap.size, 0, none⟩ _ (.int .i64 2) rfl (BxS.load (t := 44) b9 Try.underlying44 i13) rfl) rfl ?_
    exact ofA_bad id nm mo bu pa li 2 L w w9 (by decide) (grown_far g0 g9 (fun q e => by have e : w.heap.size = q := Option.some.inj e; omega))
  cases b2
  case false =>
    simp only [Bool.false_and, Bool.and_false, Bool.true_and, Bool.and_true, Bool.false_eq_true, if_false]
    go_enter Try.func24, Try.ntmps24
    go_wp2_with (first
      | (go_at_call 55; (with_reducible first | refine (h0 _).mono ?_ | refine (h1 _).mono ?_ | refine (h2 _).mono ?_ | refine (h3 _).mono ?_ | refine (h4 _).mono ?_ | refine (h5 _).mono ?_); rintro e w1 ⟨rfl, hw⟩; have hw := hw.symm; subst hw)
      | (have _t := t2; (first | refine wpList_stX _ rfl _ (.tmp 14) (.tmp 39) rfl w.heap.size _ _ rfl rfl b0 i13 rfl (by simp [Value.oneCell']) ?_ | refine wpList_stX _ rfl _ (.tmp 14) (.tmp 40) rfl w.heap.size _ _ rfl rfl b0 i13 rfl (by simp [Value.oneCell']) ?_ | refine wpList_stX _ rfl _ (.tmp 14) (.tmp 48) rfl w.heap.size _ _ rfl rfl b0 i13 rfl (by simp [Value.oneCell']) ?_ | refine wpList_stX _ rfl _ (.tmp 14) (.tmp 49) rfl w.heap.size _ _ rfl rfl b0 i13 rfl (by simp [Value.oneCell']) ?_ | refine wpList_stX _ rfl _ (.tmp 14) (.tmp 50) rfl w.heap.size _ _ rfl rfl b0 i13 rfl (by simp [Value.oneCell']) ?_); clear t2; intro w9 b9 g9))
    refine bodyPost_ret (results_cell1t rfl _ _ _ ⟨w.heap.size, 0, none⟩ _ (.int .i64 2) rfl (BxS.load (t := 44) b9 Try.underlying44 i13) rfl) rfl ?_
    exact ofA_bad id nm mo bu pa li 2 L w w9 (by decide) (grown_far g0 g9 (fun q e => by have e : w.heap.size = q := Option.some.inj e; omega))
  cases b3
  case false =>
    simp only [Bool.false_and, Bool.and_false, Bool.true_and, Bool.and_true, Bool.false_eq_true, if_false]
    go_enter Try.func24, Try.ntmps24
    go_wp2_with (first
      | (go_at_call 55; (with_reducible first | refine (h0 _).mono ?_ | refine (h1 _).mono ?_ | refine (h2 _).mono ?_ | refine (h3 _).mono ?_ | refine (h4 _).mono ?_ | refine (h5 _).mono ?_); rintro e w1 ⟨rfl, hw⟩; have hw := hw.symm; subst hw)
      | (have _t := t2; (first | refine wpList_stX _ rfl _ (.tmp 14) (.tmp 39) rfl w.heap.size _ _ rfl rfl b0 i13 rfl (by simp [Value.oneCell']) ?_ | refine wpList_stX _ rfl _ (.tmp 14) (.tmp 40) rfl w.heap.size _ _ rfl rfl b0 i13 rfl (by simp [Value.oneCell']) ?_ | refine wpList_stX _ rfl _ (.tmp 14) (.tmp 48) rfl w.heap.size _ _ rfl rfl b0 i13 rfl (by simp [Value.oneCell']) ?_ | refine wpList_stX _ rfl _ (.tmp 14) (.tmp 49) rfl w.heap.size _ _ rfl rfl b0 i13 rfl (by simp [Value.oneCell']) ?_ | refine wpList_stX _ rfl _ (.tmp 14) (.tmp 50) rfl w.heap.size _ _ rfl rfl b0 i13 rfl (by simp [Value.oneCell']) ?_); clear t2; intro w9 b9 g9))
    refine bodyPost_ret (results_cell1t rfl _ _ _ ⟨w.heap.size, 0, none⟩ _ (.int .i64 2) rfl (BxS.load (t := 44) b9 Try.underlying44 i13) rfl) rfl ?_
    exact ofA_bad id nm mo bu pa li 2 L w w9 (by decide) (grown_far g0 g9 (fun q e => by have e : w.heap.size = q := Option.some.inj e; omega))
  cases b4
  case false =>
    simp only [Bool.false_and, Bool.and_false, Bool.true_and, Bool.and_true, Bool.false_eq_true, if_false]
    go_enter Try.func24, Try.ntmps24
    go_wp2_with (first
      | (go_at_call 55; (with_reducible first | refine (h0 _).mono ?_ | refine (h1 _).mono ?_ | refine (h2 _).mono ?_ | refine (h3 _).mono ?_ | refine (h4 _).mono ?_ | refine (h5 _).mono ?_); rintro e w1 ⟨rfl, hw⟩; have hw := hw.symm; subst hw)
      | (have _t := t2; (first | refine wpList_stX _ rfl _ (.tmp 14) (.tmp 39) rfl w.heap.size _ _ rfl rfl b0 i13 rfl (by simp [Value.oneCell']) ?_ | refine wpList_stX _ rfl _ (.tmp 14) (.tmp 40) rfl w.heap.size _ _ rfl rfl b0 i13 rfl (by simp [Value.oneCell']) ?_ | refine wpList_stX _ rfl _ (.tmp 14) (.tmp 48) rfl w.heap.size _ _ rfl rfl b0 i13 rfl (by simp [Value.oneCell']) ?_ | refine wpList_stX _ rfl _ (.tmp 14) (.tmp 49) rfl w.heap.size _ _ rfl rfl b0 i13 rfl (by simp [Value.oneCell']) ?_ | refine wpList_stX _ rfl _ (.tmp 14) (.tmp 50) rfl w.heap.size _ _ rfl rfl b0 i13 rfl (by simp [Value.oneCell']) ?_); clear t2; intro w9 b9 g9))
    refine bodyPost_ret (results_cell1t rfl _ _ _ ⟨w.heap.size, 0, none⟩ _ (.int .i64 2) rfl (BxS.load (t := 44) b9 Try.underlying44 i13) rfl) rfl ?_
    exact ofA_bad id nm mo bu pa li 2 L w w9 (by decide) (grown_far g0 g9 (fun q e => by have e : w.heap.size = q := Option.some.inj e; omega))
  cases b5
  case false =>
    simp only [Bool.false_and, Bool.and_false, Bool.true_and, Bool.and_true, Bool.false_eq_true, if_false, if_true]
    go_enter Try.func24, Try.ntmps24
    go_wp2_with (first
      | (go_at_call 55; (with_reducible first | refine (h0 _).mono ?_ | refine (h1 _).mono ?_ | refine (h2 _).mono ?_ | refine (h3 _).mono ?_ | refine (h4 _).mono ?_ | refine (h5 _).mono ?_); rintro e w1 ⟨rfl, hw⟩; have hw := hw.symm; subst hw)
      | (have _t := t2; (first | refine wpList_stX _ rfl _ (.tmp 14) (.tmp 39) rfl w.heap.size _ _ rfl rfl b0 i13 rfl (by simp [Value.oneCell']) ?_ | refine wpList_stX _ rfl _ (.tmp 14) (.tmp 40) rfl w.heap.size _ _ rfl rfl b0 i13 rfl (by simp [Value.oneCell']) ?_ | refine wpList_stX _ rfl _ (.tmp 14) (.tmp 48) rfl w.heap.size _ _ rfl rfl b0 i13 rfl (by simp [Value.oneCell']) ?_ | refine wpList_stX _ rfl _ (.tmp 14) (.tmp 49) rfl w.heap.size _ _ rfl rfl b0 i13 rfl (by simp [Value.oneCell']) ?_ | refine wpList_stX _ rfl _ (.tmp 14) (.tmp 50) rfl w.heap.size _ _ rfl rfl b0 i13 rfl (by simp [Value.oneCell']) ?_); clear t2; intro w9 b9 g9))
    refine bodyPost_ret (results_cell1t rfl _ _ _ ⟨w.heap.size, 0, none⟩ _ (.int .i64 1) rfl (BxS.load (t := 44) b9 Try.underlying44 i13) rfl) rfl ?_
    exact ofA_bad id nm mo bu pa li 1 L w w9 (by decide) (grown_far g0 g9 (fun q e => by have e : w.heap.size = q := Option.some.inj e; omega))
  by_cases hf : n ≤ 65536
  · rw [decide_eq_true hf]
    have hf' : ¬ (65536 < (n : Int)) := by omega
    simp only [Bool.and_true, if_true]
    go_enter Try.func24, Try.ntmps24
    go_wp2_with (first
      | (go_at_call 55; (with_reducible first | refine (h0 _).mono ?_ | refine (h1 _).mono ?_ | refine (h2 _).mono ?_ | refine (h3 _).mono ?_ | refine (h4 _).mono ?_ | refine (h5 _).mono ?_); rintro e w1 ⟨rfl, hw⟩; have hw := hw.symm; subst hw)
      | (at_builtin; refine wpList_joinZ rfl _ _ rfl _ 0 0 w0.heap.size [] rfl (Ans.nil _ _) (Nat.le_refl _) _ n cap L rfl (hL.keep g0) (by omega) ?_; intro a' c' w2 hA2 hg2; have b2 := b0.keep hg2 (by simp [Value.ownBlock]); have t3 : True := trivial)
      | (have _t := t3; (first | refine wpList_stX _ rfl _ (.tmp 14) (.tmp 58) rfl w.heap.size _ _ rfl rfl b2 i13 rfl (by simp [Value.oneCell']) ?_); clear t3; intro w9 b9 g9))
    refine bodyPost_ret (results_cell1t rfl _ _ _ ⟨w.heap.size, 0, none⟩ _ (.int .i64 0) rfl (BxS.load (t := 44) b9 Try.underlying44 i13) rfl) rfl ?_
    rw [Nat.zero_add] at *
    have G2 : w.grownBy w2 none := grown_trans g0 hg2
    have hA9 := hA2.kept g9 (by
      rcases hA2.cases with ⟨rfl, _, _⟩ | ⟨g, rfl, hg, _⟩
      · exact .inl rfl
      · refine .inr fun e => ?_
        have e : g = w.heap.size := Option.some.inj e
        omega)
    refine ofA_ok id nm mo bu pa li n L w w9 a' c' ⟨hA9.own, hA9.byte, fun g h => ?_⟩ (grown_far G2 g9 (fun q e => by have e : w.heap.size = q := Option.some.inj e; omega))
    have := hA9.new g h
    omega
  · rw [decide_eq_false hf]
    have hf' : 65536 < (n : Int) := by omega
    simp only [Bool.false_and, Bool.and_false, Bool.true_and, Bool.and_true, Bool.false_eq_true, if_false, if_true]
    go_enter Try.func24, Try.ntmps24
    go_wp2_with (first
      | (go_at_call 55; (with_reducible first | refine (h0 _).mono ?_ | refine (h1 _).mono ?_ | refine (h2 _).mono ?_ | refine (h3 _).mono ?_ | refine (h4 _).mono ?_ | refine (h5 _).mono ?_); rintro e w1 ⟨rfl, hw⟩; have hw := hw.symm; subst hw)
      | (have _t := t2; (first | refine wpList_stX _ rfl _ (.tmp 14) (.tmp 39) rfl w.heap.size _ _ rfl rfl b0 i13 rfl (by simp [Value.oneCell']) ?_ | refine wpList_stX _ rfl _ (.tmp 14) (.tmp 40) rfl w.heap.size _ _ rfl rfl b0 i13 rfl (by simp [Value.oneCell']) ?_ | refine wpList_stX _ rfl _ (.tmp 14) (.tmp 48) rfl w.heap.size _ _ rfl rfl b0 i13 rfl (by simp [Value.oneCell']) ?_ | refine wpList_stX _ rfl _ (.tmp 14) (.tmp 49) rfl w.heap.size _ _ rfl rfl b0 i13 rfl (by simp [Value.oneCell']) ?_ | refine wpList_stX _ rfl _ (.tmp 14) (.tmp 50) rfl w.heap.size _ _ rfl rfl b0 i13 rfl (by simp [Value.oneCell']) ?_); clear t2; intro w9 b9 g9))
    refine bodyPost_ret (results_cell1t rfl _ _ _ ⟨w.heap.size, 0, none⟩ _ (.int .i64 1) rfl (BxS.load (t := 44) b9 Try.underlying44 i13) rfl) rfl ?_
    exact ofA_bad id nm mo bu pa li 1 L w w9 (by decide) (grown_far g0 g9 (fun q e => by have e : w.heap.size = q := Option.some.inj e; omega))
end

section
set_option maxHeartbeats 16000000 in
/-- a giver at work shares no memory with what was handed in -/
theorem atWork_any (id : Int) (nm : ByteArray) (a : Option Addr) (n c : Nat) (mo bu st : Int) (fi : Bool) (at' : Int) (q : Option Addr) (m d : Nat) (ti pa tr li : Int) (F : Nat → Int × Int) (L : List Nat) (w : World) (hL : Rd w a n c L) (hG : RdG w q m d F) (hn : n ≤ 140737488351232) (hm : m ≤ 8796093021952) : Calls Try.prog 67 #[.agg (gvA id nm (.slice a n c) mo bu st fi at' (.slice q m d) ti pa tr li)] w fun e w' => ∃ gw a' c' q' d', e = .returned (.pointer (some ⟨gw, 0, none⟩)) ∧ BxS w' gw 100 #[.int .i64 id, .string nm, .slice a' n c', .int .i64 mo, .int .i64 bu, .int .i64 st, .bool fi, .int .i64 at', .slice q' m d', .int .i64 ti, .int .i64 pa, .int .i64 tr, .int .i64 li, .slice none 0 0] ∧ Ans w' w.heap.size a' n c' L ∧ OwGi w' w.heap.size q' m d' (tabG F m) ∧ w.heap.size ≤ gw ∧ w.grownBy w' none := by
  have b0 := BxS.new w 44 #[.int .i64 id, .string nm, .slice a n c, .int .i64 mo, .int .i64 bu, .int .i64 st, .bool fi, .int .i64 at', .slice q m d, .int .i64 ti, .int .i64 pa, .int .i64 tr, .int .i64 li]
  have g0 := World.grownBy_alloc w (.cells #[.int .i64 id, .string nm, .slice a n c, .int .i64 mo, .int .i64 bu, .int .i64 st, .bool fi, .int .i64 at', .slice q m d, .int .i64 ti, .int .i64 pa, .int .i64 tr, .int .i64 li] 44) none
  have i13 := Try.info_gv
  unfold gvA
  generalize hw0 : w.alloc (.cells #[.int .i64 id, .string nm, .slice a n c, .int .i64 mo, .int .i64 bu, .int .i64 st, .bool fi, .int .i64 at', .slice q m d, .int .i64 ti, .int .i64 pa, .int .i64 tr, .int .i64 li] 44) = w0 at b0 g0
  have l0 := b0.lt
  go_enter Try.func67, Try.ntmps67
  refine wp_seq_k fun K1 hK1 => ?_
  have HK1 : Hid _ := hK1
  clear hK1
  go_wp2
  refine HK1.out _ _ ?_
  clear HK1
  refine wp_seq_k fun K2 hK2 => ?_
  have HK2 : Hid _ := hK2
  clear hK2
  have Gd := grown_drew w0 none
  have SS : BxS w0.drew w.heap.size 44 #[.int .i64 id, .string nm, .slice a n c, .int .i64 mo, .int .i64 bu, .int .i64 st, .bool fi, .int .i64 at', .slice q m d, .int .i64 ti, .int .i64 pa, .int .i64 tr, .int .i64 li] := b0.keep Gd (by simp)
  have G1 := grown_trans g0 Gd
  refine wp_regionL (fun wz => BxS wz w.heap.size 44 #[.int .i64 id, .string nm, .slice a n c, .int .i64 mo, .int .i64 bu, .int .i64 st, .bool fi, .int .i64 at', .slice q m d, .int .i64 ti, .int .i64 pa, .int .i64 tr, .int .i64 li]) [7, 8, 9] #[false, false, false, false, false, false, false, false, false, false] rfl (by kernel_rfl) ?_
  refine wpAnyZ_take [7, 8, 9] 0 (.pointer (some ⟨w.heap.size, 2, none⟩)) rfl (by kernel_rfl) (fun _ _ _ h => h) SS rfl (by intro wz hz; go_simp) ?_
  try simp only [List.getElem_toArray, List.getElem_cons_succ, List.getElem_cons_zero, Act.put, List.setIfInBounds_toArray, List.set_cons_zero, List.set_cons_succ]
  refine wpAnyZ_take [7, 8, 9] 1 (.slice a n c) rfl (by kernel_rfl) (fun _ _ _ h => h) SS rfl (by intro wz hz; have z2 : wz.cell? ⟨w.heap.size, 2, none⟩ = some (.slice a n c) := hz.cell 2 (by show 2 < 13; decide); go_simp) ?_
  try simp only [List.getElem_toArray, List.getElem_cons_succ, List.getElem_cons_zero, Act.put, List.setIfInBounds_toArray, List.set_cons_zero, List.set_cons_succ]
  refine wpAnyZ_take [7, 8, 9] 3 (.pointer (some ⟨w.heap.size, 8, none⟩)) rfl (by kernel_rfl) (fun _ _ _ h => h) SS rfl (by intro wz hz; go_simp) ?_
  try simp only [List.getElem_toArray, List.getElem_cons_succ, List.getElem_cons_zero, Act.put, List.setIfInBounds_toArray, List.set_cons_zero, List.set_cons_succ]
  refine wpAnyZ_take [7, 8, 9] 4 (.slice q m d) rfl (by kernel_rfl) (fun _ _ _ h => h) SS rfl (by intro wz hz; have z8 : wz.cell? ⟨w.heap.size, 8, none⟩ = some (.slice q m d) := hz.cell 8 (by show 8 < 13; decide); go_simp) ?_
  try simp only [List.getElem_toArray, List.getElem_cons_succ, List.getElem_cons_zero, Act.put, List.setIfInBounds_toArray, List.set_cons_zero, List.set_cons_succ]
  have l1 := SS.lt
  generalize w0.drew = w1 at *
  refine wpAnyZ_oneB 2 rfl (by kernel_rfl) (fun KK hKK => ?_)
  go_simp
  go_at_call 57
  refine (dclone_any a n c L w1 (hL.keep G1) (by omega)).mono ?_
  rintro e w2 ⟨a5, c5, rfl, hA5, y2⟩
  dsimp only
  have S2 := SS.keep y2 (by simp)
  have G2 := grown_trans G1 y2
  refine hKK _ _ (fun _ => S2) ?_
  try simp only [List.getElem_toArray, List.getElem_cons_succ, List.getElem_cons_zero, Act.put, List.setIfInBounds_toArray, List.set_cons_zero, List.set_cons_succ]
  refine wpAnyZ_take [7, 8, 9] 6 (.pointer (some ⟨w.heap.size, 2, none⟩)) rfl (by kernel_rfl) (fun _ _ _ h => h) S2 rfl (by intro wz hz; go_simp) ?_
  try simp only [List.getElem_toArray, List.getElem_cons_succ, List.getElem_cons_zero, Act.put, List.setIfInBounds_toArray, List.set_cons_zero, List.set_cons_succ]
  refine wpAnyZ_oneB 5 rfl (by kernel_rfl) (fun KK hKK => ?_)
  go_simp
  go_at_call 93
  refine (gclone_any q m d F w2 (hG.keep G2) hm).mono ?_
  rintro e w3 ⟨q5, d5, rfl, hO5, y3⟩
  dsimp only
  have S3 := S2.keep y3 (by simp)
  have hA3 := hA5.keep y3
  have G3 := grown_trans G2 y3
  refine hKK _ _ (fun _ => S3) ?_
  try simp only [List.getElem_toArray, List.getElem_cons_succ, List.getElem_cons_zero, Act.put, List.setIfInBounds_toArray, List.set_cons_zero, List.set_cons_succ]
  refine wpAnyZ_oneB 7 rfl (by kernel_rfl) (fun KK hKK => ?_)
  refine step_stCd _ rfl _ _ _ rfl w.heap.size 2 44 _ #[.int .i64 id, .string nm, .slice a5 n c5, .int .i64 mo, .int .i64 bu, .int .i64 st, .bool fi, .int .i64 at', .slice q m d, .int .i64 ti, .int .i64 pa, .int .i64 tr, .int .i64 li] (.slice a5 n c5) rfl rfl S3 (fun w' h1 h2 => stc_sl _ _ _ _ _ _ h1 h2) (by show 2 < 13; decide) rfl ?_
  intro w4 b4 u4
  refine hKK _ _ (fun h => absurd (by decide) h) ?_
  try simp only [List.getElem_toArray, List.getElem_cons_succ, List.getElem_cons_zero, Act.put, List.setIfInBounds_toArray, List.set_cons_zero, List.set_cons_succ]
  refine wpAnyZ_takeF 8 (.pointer (some ⟨w.heap.size, 8, none⟩)) rfl (by kernel_rfl) (fun _ _ _ h => h) rfl (by intro wz; go_simp) ?_
  try simp only [List.getElem_toArray, List.getElem_cons_succ, List.getElem_cons_zero, Act.put, List.setIfInBounds_toArray, List.set_cons_zero, List.set_cons_succ]
  refine wpAnyZ_oneB 9 rfl (by kernel_rfl) (fun KK hKK => ?_)
  refine step_stCd _ rfl _ _ _ rfl w.heap.size 8 44 _ #[.int .i64 id, .string nm, .slice a5 n c5, .int .i64 mo, .int .i64 bu, .int .i64 st, .bool fi, .int .i64 at', .slice q5 m d5, .int .i64 ti, .int .i64 pa, .int .i64 tr, .int .i64 li] (.slice q5 m d5) rfl rfl b4 (fun w' h1 h2 => stc_slG _ _ _ _ _ _ h1 h2) (by show 8 < 13; decide) rfl ?_
  intro w5 b5 u5
  refine hKK _ _ (fun h => absurd (by decide) h) ?_
  try simp only [List.getElem_toArray, List.getElem_cons_succ, List.getElem_cons_zero, Act.put, List.setIfInBounds_toArray, List.set_cons_zero, List.set_cons_succ]
  refine wpAnyZ_doneB (by kernel_rfl) ?_ _
  have z1 := G1.size
  have z2 := G2.size
  have hA4 := (hA3.kept u4 (.inr (fun e => by have := hA5.new _ e; omega))).kept u5 (.inr (fun e => by have := hA5.new _ e; omega))
  have hO4 := (hO5.bx S3 (by decide) u4).bx b4 (by decide) u5
  have G5 := grown_far (grown_far G3 u4 (fun q e => by have e := Option.some.inj e; omega)) u5 (fun q e => by have e := Option.some.inj e; omega)
  refine HK2.out _ _ ?_
  clear HK2
  have bW := BxS.new w5 100 #[.int .i64 id, .string nm, .slice a5 n c5, .int .i64 mo, .int .i64 bu, .int .i64 st, .bool fi, .int .i64 at', .slice q5 m d5, .int .i64 ti, .int .i64 pa, .int .i64 tr, .int .i64 li, .slice none 0 0]
  have gW := World.grownBy_alloc w5 (.cells #[.int .i64 id, .string nm, .slice a5 n c5, .int .i64 mo, .int .i64 bu, .int .i64 st, .bool fi, .int .i64 at', .slice q5 m d5, .int .i64 ti, .int .i64 pa, .int .i64 tr, .int .i64 li, .slice none 0 0] 100) none
  generalize hw6 : w5.alloc (.cells #[.int .i64 id, .string nm, .slice a5 n c5, .int .i64 mo, .int .i64 bu, .int .i64 st, .bool fi, .int .i64 at', .slice q5 m d5, .int .i64 ti, .int .i64 pa, .int .i64 tr, .int .i64 li, .slice none 0 0] 100) = w6 at bW gW
  have z5 := G5.size
  have s0 : True := trivial
  go_wp2_with (have _t := s0; clear s0; refine wpList_ldX _ rfl _ (.tmp 1) rfl w.heap.size _ rfl b5 Try.underlying44 i13 ?_)
  go_ret
  exact ⟨w5.heap.size, a5, c5, q5, d5, rfl, bW, (hA4.keep gW).wide (by omega), (hO4.keep gW).wide (by omega), by omega, grown_trans G5 gW⟩
end

section
/-- a note and where its memory lies -/
structure Nx where
  kd : Int
  id : Int
  nm : ByteArray
  si : Int
  su : Int
  at' : Int
  da : List Nat
  ga : List (Int × Int)
  o : Int
  co : Int
  a : Option Addr
  c : Nat
  q : Option Addr
  d : Nat
def Nx.arr (x : Nx) : Array Value := #[.int .i64 x.kd, .int .i64 x.id, .string x.nm, .int .i64 x.si, .int .i64 x.su, .int .i64 x.at', .slice x.a x.da.length x.c, .slice x.q x.ga.length x.d, .int .i64 x.o, .int .i64 x.co]
def Nx.cells (x : Nx) : List Value := x.arr.toList
def flN (xs : List Nx) : List Value := xs.flatMap Nx.cells
theorem flN_add (xs : List Nx) (x : Nx) : flN (xs ++ [x]) = flN xs ++ x.cells := by
  unfold flN
  rw [List.flatMap_append]
  simp
theorem flN_at : ∀ (xs : List Nx) (i : Nat) (x : Nx), xs[i]? = some x → ∀ j, j < 10 → (flN xs)[i * 10 + j]? = x.cells[j]? := by
  intro xs
  induction xs with
  | nil => intro i x h; cases h
  | cons y xs ih =>
    intro i x h j hj
    have hy : y.cells.length = 10 := rfl
    show (y.cells ++ flN xs)[i * 10 + j]? = _
    cases i with
    | zero =>
      have e : y = x := Option.some.inj h
      subst e
      rw [Nat.zero_mul, Nat.zero_add, List.getElem?_append_left (by omega)]
    | succ i =>
      rw [List.getElem?_append_right (by omega), hy, show (i + 1) * 10 + j - 10 = i * 10 + j by omega]
      exact ih i x h j hj
/-- notes in new memory -/
structure OwN (w : World) (lo : Nat) (a : Option Addr) (n c : Nat) (xs : List Nx) : Prop where
  own : w.ownsRow 0 27 10 (.slice a n c) n (flN xs)
  len : xs.length = n
  new : ∀ g, (Value.slice a n c).ownBlock = some g → lo ≤ g
  eA : ∀ x, x ∈ xs → Ans w lo x.a x.da.length x.c x.da
  eO : ∀ x, x ∈ xs → OwGi w lo x.q x.ga.length x.d x.ga
  pA : xs.Pairwise fun x y => ∀ g, (Value.slice x.a x.da.length x.c).ownBlock = some g → (Value.slice y.a y.da.length y.c).ownBlock ≠ some g
  pO : xs.Pairwise fun x y => ∀ g, (Value.slice x.q x.ga.length x.d).ownBlock = some g → (Value.slice y.q y.ga.length y.d).ownBlock ≠ some g
/-- the blocks of notes -/
def Nbl (a : Option Addr) (n c : Nat) (xs : List Nx) (g : Nat) : Prop := (Value.slice a n c).ownBlock = some g ∨ ∃ x, x ∈ xs ∧ ((Value.slice x.a x.da.length x.c).ownBlock = some g ∨ (Value.slice x.q x.ga.length x.d).ownBlock = some g)
section
variable {w w' : World} {lo lo' : Nat} {a : Option Addr} {n c : Nat} {xs : List Nx} {r : Option Nat}
theorem OwN.nil (w : World) (lo : Nat) : OwN w lo none 0 0 [] := ⟨World.ownsRow_nil _ _ _ _, rfl, (fun g h => by cases h), (fun x h => by cases h), (fun x h => by cases h), List.Pairwise.nil, List.Pairwise.nil⟩
theorem OwN.kR (h : OwN w lo a n c xs) (hg : w.grownBy w' r) (hr : ∀ z, r = some z → ¬ Nbl a n c xs z) : OwN w' lo a n c xs := by
  refine ⟨h.own.kept hg ?_, h.len, h.new, fun x hx => (h.eA x hx).kept hg ?_, fun x hx => (h.eO x hx).kR hg (fun z e e2 => hr z e (.inr ⟨x, hx, .inr e2⟩)), h.pA, h.pO⟩
  · cases hz : (Value.slice a n c).ownBlock with
    | none => exact .inl rfl
    | some z => exact .inr (fun e => hr z e.symm (.inl hz))
  · cases hz : (Value.slice x.a x.da.length x.c).ownBlock with
    | none => exact .inl rfl
    | some z => exact .inr (fun e => hr z e.symm (.inr ⟨x, hx, .inl hz⟩))
theorem OwN.keep (h : OwN w lo a n c xs) (hg : w.grownBy w' none) : OwN w' lo a n c xs := h.kR hg (fun z e => by cases e)
theorem OwN.wide (h : OwN w lo a n c xs) (hl : lo' ≤ lo) : OwN w lo' a n c xs := ⟨h.own, h.len, fun g e => Nat.le_trans hl (h.new g e), fun x hx => (h.eA x hx).wide hl, fun x hx => (h.eO x hx).wide hl, h.pA, h.pO⟩
theorem OwN.low (h : OwN w lo a n c xs) {z : Nat} (hz : Nbl a n c xs z) : lo ≤ z := by
  rcases hz with hz | ⟨x, hx, hz | hz⟩
  · exact h.new z hz
  · exact (h.eA x hx).new z hz
  · exact (h.eO x hx).new z hz
theorem own_ltN {t : TypeId} {k : Nat} {v : Value} {ys : List Value} (h : w.ownsRow 0 t k v n ys) {g : Nat} (e : v.ownBlock = some g) : g < w.heap.size := by
  rcases h.2 with ⟨h1, _⟩ | ⟨g', cap', cur, h1, _, h3, _⟩
  · rw [h1] at e; cases e
  · rw [h1] at e
    have e : g' = g := Option.some.inj e
    subst e
    exact (Array.getElem?_eq_some_iff.1 h3).1
theorem OwN.lt (h : OwN w lo a n c xs) {z : Nat} (hz : Nbl a n c xs z) : z < w.heap.size := by
  rcases hz with hz | ⟨x, hx, hz | hz⟩
  · exact own_ltN h.own hz
  · exact own_ltN (h.eA x hx).own hz
  · exact own_ltN (h.eO x hx).own hz
theorem own_ty {t u : TypeId} {k : Nat} {v : Value} {ys : List Value} {cs : Array Value} (h : w.ownsRow 0 t k v n ys) {g : Nat} (hb : BxS w g u cs) (ht : t ≠ u) : v.ownBlock ≠ some g := by
  intro e
  rcases h.2 with ⟨h1, _⟩ | ⟨g', cap', cur, h1, _, h3, _⟩
  · rw [h1] at e; cases e
  · rw [h1] at e
    have e : g' = g := Option.some.inj e
    subst e
    have hb : w.heap[g']? = some (.cells cs u) := hb
    rw [h3] at hb
    injection hb with hb
    injection hb with _ hb
    exact ht hb
/-- a box of a type of its own -/
theorem OwN.bx {g : Nat} {t : TypeId} {cs : Array Value} (h : OwN w lo a n c xs) (hb : BxS w g t cs) (h1 : 27 ≠ t) (h2 : 5 ≠ t) (h3 : 82 ≠ t) (hg : w.grownBy w' (some g)) : OwN w' lo a n c xs :=
  h.kR hg (fun z e hz => by
    have e := Option.some.inj e
    subst e
    rcases hz with hz | ⟨x, hx, hz | hz⟩
    · exact own_ty h.own hb h1 hz
    · exact own_ty (h.eA x hx).own hb h2 hz
    · exact own_ty (h.eO x hx).own hb h3 hz)
end
end
end Go.Proofs.Ytnimehkfnpepfaa
