import Derived.Test.YtamiimcbodhjoaaVOf2
namespace Go.Proofs.Ytamiimcbodhjoaa
open Go.RowKit
set_option maxRecDepth 100000
set_option linter.unusedVariables false
set_option linter.unusedSimpArgs false

set_option maxHeartbeats 8000000 in
theorem offered_any (id : Int) (nm : ByteArray) (a : Option Addr) (n cap : Nat) (mo bu pa li : Int) (L : List Nat) (w : World) (hL : Rd w a n cap L) :
    Calls Try.prog 24 #[.int .i64 id, .string nm, .slice a n cap, .int .i64 mo, .int .i64 bu, .int .i64 pa, .int .i64 li] w fun e w' => OfA id nm mo bu pa li (ofE id pa li mo bu nm.size n) L w w' e := by
  have h0 := fun wz => inRange_any id 0 65535 wz
  have h1 := fun wz => inRange_any mo 1 1024 wz
  have h2 := fun wz => inRange_any bu 1 50 wz
  have h3 := fun wz => inRange_any pa 1 1000 wz
  have h4 := fun wz => inRange_any li 1 100 wz
  have h5 := fun wz => inRange_any nm.size 1 32 wz
  have b0 := BxS.new w 44 #[.int .i64 0, .string ⟨#[]⟩, .slice none 0 0, .int .i64 0, .int .i64 0, .int .i64 0, .bool false, .int .i64 0, .slice none 0 0, .int .i64 0, .int .i64 0, .int .i64 0, .int .i64 0]
  have g0 := World.grownBy_alloc w (.cells #[.int .i64 0, .string ⟨#[]⟩, .slice none 0 0, .int .i64 0, .int .i64 0, .int .i64 0, .bool false, .int .i64 0, .slice none 0 0, .int .i64 0, .int .i64 0, .int .i64 0, .int .i64 0] 44) none
  have i13 := Try.info_gv
  generalize hw0 : w.alloc (.cells #[.int .i64 0, .string ⟨#[]⟩, .slice none 0 0, .int .i64 0, .int .i64 0, .int .i64 0, .bool false, .int .i64 0, .slice none 0 0, .int .i64 0, .int .i64 0, .int .i64 0, .int .i64 0] 44) = w0 at b0 g0
  have hz0 : w0.heap.size = w.heap.size + 1 := by rw [← hw0]; simp
  have t2 : True := trivial
  unfold ofE ofB ofC dsB
  generalize kwB id 0 65535 = b0 at h0 ⊢
  generalize kwB mo 1 1024 = b1 at h1 ⊢
  generalize kwB bu 1 50 = b2 at h2 ⊢
  generalize kwB pa 1 1000 = b3 at h3 ⊢
  generalize kwB li 1 100 = b4 at h4 ⊢
  generalize kwB nm.size 1 32 = b5 at h5 ⊢
  cases b0
  case false =>
    simp only [Bool.false_and, Bool.and_false, Bool.true_and, Bool.and_true, Bool.false_eq_true, if_false]
    go_enter Try.func24, Try.ntmps24
    go_wp2_with (first
      | (go_at_call 55; (with_reducible first | refine (h0 _).mono ?_ | refine (h1 _).mono ?_ | refine (h2 _).mono ?_ | refine (h3 _).mono ?_ | refine (h4 _).mono ?_ | refine (h5 _).mono ?_); rintro e w1 ⟨rfl, hw⟩; have hw := hw.symm; subst hw)
      | (have _t := t2; (first | refine wpList_stX _ rfl _ (.tmp 14) (.tmp 39) rfl w.heap.size _ _ rfl rfl b0 i13 rfl (by simp [Value.oneCell']) ?_ | refine wpList_stX _ rfl _ (.tmp 14) (.tmp 40) rfl w.heap.size _ _ rfl rfl b0 i13 rfl (by simp [Value.oneCell']) ?_ | refine wpList_stX _ rfl _ (.tmp 14) (.tmp 48) rfl w.heap.size _ _ rfl rfl b0 i13 rfl (by simp [Value.oneCell']) ?_ | refine wpList_stX _ rfl _ (.tmp 14) (.tmp 49) rfl w.heap.size _ _ rfl rfl b0 i13 rfl (by simp [Value.oneCell']) ?_ | refine wpList_stX _ rfl _ (.tmp 14) (.tmp 50) rfl w.heap.size _ _ rfl rfl b0 i13 rfl (by simp [Value.oneCell']) ?_); clear t2; intro w9 b9 g9))
    refine bodyPost_ret (results_cell1t rfl _ _ _ ⟨w.heap.size, 0, none⟩ _ (.int .i64 2) rfl (BxS.load (t := 44) b9 Try.underlying44 i13) rfl) rfl ?_
    exact ofA_bad id nm mo bu pa li 2 L w w9 (by decide) (grown_far g0 g9 (fun q e => by have e : w.heap.size = q := Option.some.inj e; omega))
  cases b1
  case false =>
    simp only [Bool.false_and, Bool.and_false, Bool.true_and, Bool.and_true, Bool.false_eq_true, if_false]
    go_enter Try.func24, Try.ntmps24
    go_wp2_with (first
      | (go_at_call 55; (with_reducible first | refine (h0 _).mono ?_ | refine (h1 _).mono ?_ | refine (h2 _).mono ?_ | refine (h3 _).mono ?_ | refine (h4 _).mono ?_ | refine (h5 _).mono ?_); rintro e w1 ⟨rfl, hw⟩; have hw := hw.symm; subst hw)
      | (have _t := t2; (first | refine wpList_stX _ rfl _ (.tmp 14) (.tmp 39) rfl w.heap.size _ _ rfl rfl b0 i13 rfl (by simp [Value.oneCell']) ?_ | refine wpList_stX _ rfl _ (.tmp 14) (.tmp 40) rfl w.heap.size _ _ rfl rfl b0 i13 rfl (by simp [Value.oneCell']) ?_ | refine wpList_stX _ rfl _ (.tmp 14) (.tmp 48) rfl w.heap.size _ _ rfl rfl b0 i13 rfl (by simp [Value.oneCell']) ?_ | refine wpList_stX _ rfl _ (.tmp 14) (.tmp 49) rfl w.heap.size _ _ rfl rfl b0 i13 rfl (by simp [Value.oneCell']) ?_ | refine wpList_stX _ rfl _ (.tmp 14) (.tmp 50) rfl w.heap.size _ _ rfl rfl b0 i13 rfl (by simp [Value.oneCell']) ?_); clear t2; intro w9 b9 g9))
    refine bodyPost_ret (results_cell1t rfl _ _ _ ⟨w.heap.size, 0, none⟩ _ (.int .i64 2) rfl (BxS.load (t := 44) b9 Try.underlying44 i13) rfl) rfl ?_
    exact ofA_bad id nm mo bu pa li 2 L w w9 (by decide) (grown_far g0 g9 (fun q e => by have e : w.heap.size = q := Option.some.inj e; omega))
  cases b2
  case false =>
    simp only [Bool.false_and, Bool.and_false, Bool.true_and, Bool.and_true, Bool.false_eq_true, if_false]
    go_enter Try.func24, Try.ntmps24
    go_wp2_with (first
      | (go_at_call 55; (with_reducible first | refine (h0 _).mono ?_ | refine (h1 _).mono ?_ | refine (h2 _).mono ?_ | refine (h3 _).mono ?_ | refine (h4 _).mono ?_ | refine (h5 _).mono ?_); rintro e w1 ⟨rfl, hw⟩; have hw := hw.symm; subst hw)
      | (have _t := t2; (first | refine wpList_stX _ rfl _ (.tmp 14) (.tmp 39) rfl w.heap.size _ _ rfl rfl b0 i13 rfl (by simp [Value.oneCell']) ?_ | refine wpList_stX _ rfl _ (.tmp 14) (.tmp 40) rfl w.heap.size _ _ rfl rfl b0 i13 rfl (by simp [Value.oneCell']) ?_ | refine wpList_stX _ rfl _ (.tmp 14) (.tmp 48) rfl w.heap.size _ _ rfl rfl b0 i13 rfl (by simp [Value.oneCell']) ?_ | refine wpList_stX _ rfl _ (.tmp 14) (.tmp 49) rfl w.heap.size _ _ rfl rfl b0 i13 rfl (by simp [Value.oneCell']) ?_ | refine wpList_stX _ rfl _ (.tmp 14) (.tmp 50) rfl w.heap.size _ _ rfl rfl b0 i13 rfl (by simp [Value.oneCell']) ?_); clear t2; intro w9 b9 g9))
    refine bodyPost_ret (results_cell1t rfl _ _ _ ⟨w.heap.size, 0, none⟩ _ (.int .i64 2) rfl (BxS.load (t := 44) b9 Try.underlying44 i13) rfl) rfl ?_
    exact ofA_bad id nm mo bu pa li 2 L w w9 (by decide) (grown_far g0 g9 (fun q e => by have e : w.heap.size = q := Option.some.inj e; omega))
  cases b3
  case false =>
    simp only [Bool.false_and, Bool.and_false, Bool.true_and, Bool.and_true, Bool.false_eq_true, if_false]
    go_enter Try.func24, Try.ntmps24
    go_wp2_with (first
      | (go_at_call 55; (with_reducible first | refine (h0 _).mono ?_ | refine (h1 _).mono ?_ | refine (h2 _).mono ?_ | refine (h3 _).mono ?_ | refine (h4 _).mono ?_ | refine (h5 _).mono ?_); rintro e w1 ⟨rfl, hw⟩; have hw := hw.symm; subst hw)
      | (have _t := t2; (first | refine wpList_stX _ rfl _ (.tmp 14) (.tmp 39) rfl w.heap.size _ _ rfl rfl b0 i13 rfl (by simp [Value.oneCell']) ?_ | refine wpList_stX _ rfl _ (.tmp 14) (.tmp 40) rfl w.heap.size _ _ rfl rfl b0 i13 rfl (by simp [Value.oneCell']) ?_ | refine wpList_stX _ rfl _ (.tmp 14) (.tmp 48) rfl w.heap.size _ _ rfl rfl b0 i13 rfl (by simp [Value.oneCell']) ?_ | refine wpList_stX _ rfl _ (.tmp 14) (.tmp 49) rfl w.heap.size _ _ rfl rfl b0 i13 rfl (by simp [Value.oneCell']) ?_ | refine wpList_stX _ rfl _ (.tmp 14) (.tmp 50) rfl w.heap.size _ _ rfl rfl b0 i13 rfl (by simp [Value.oneCell']) ?_); clear t2; intro w9 b9 g9))
    refine bodyPost_ret (results_cell1t rfl _ _ _ ⟨w.heap.size, 0, none⟩ _ (.int .i64 2) rfl (BxS.load (t := 44) b9 Try.underlying44 i13) rfl) rfl ?_
    exact ofA_bad id nm mo bu pa li 2 L w w9 (by decide) (grown_far g0 g9 (fun q e => by have e : w.heap.size = q := Option.some.inj e; omega))
  cases b4
  case false =>
    simp only [Bool.false_and, Bool.and_false, Bool.true_and, Bool.and_true, Bool.false_eq_true, if_false]
    go_enter Try.func24, Try.ntmps24
    go_wp2_with (first
      | (go_at_call 55; (with_reducible first | refine (h0 _).mono ?_ | refine (h1 _).mono ?_ | refine (h2 _).mono ?_ | refine (h3 _).mono ?_ | refine (h4 _).mono ?_ | refine (h5 _).mono ?_); rintro e w1 ⟨rfl, hw⟩; have hw := hw.symm; subst hw)
      | (have _t := t2; (first | refine wpList_stX _ rfl _ (.tmp 14) (.tmp 39) rfl w.heap.size _ _ rfl rfl b0 i13 rfl (by simp [Value.oneCell']) ?_ | refine wpList_stX _ rfl _ (.tmp 14) (.tmp 40) rfl w.heap.size _ _ rfl rfl b0 i13 rfl (by simp [Value.oneCell']) ?_ | refine wpList_stX _ rfl _ (.tmp 14) (.tmp 48) rfl w.heap.size _ _ rfl rfl b0 i13 rfl (by simp [Value.oneCell']) ?_ | refine wpList_stX _ rfl _ (.tmp 14) (.tmp 49) rfl w.heap.size _ _ rfl rfl b0 i13 rfl (by simp [Value.oneCell']) ?_ | refine wpList_stX _ rfl _ (.tmp 14) (.tmp 50) rfl w.heap.size _ _ rfl rfl b0 i13 rfl (by simp [Value.oneCell']) ?_); clear t2; intro w9 b9 g9))
    refine bodyPost_ret (results_cell1t rfl _ _ _ ⟨w.heap.size, 0, none⟩ _ (.int .i64 2) rfl (BxS.load (t := 44) b9 Try.underlying44 i13) rfl) rfl ?_
    exact ofA_bad id nm mo bu pa li 2 L w w9 (by decide) (grown_far g0 g9 (fun q e => by have e : w.heap.size = q := Option.some.inj e; omega))
  cases b5
  case false =>
    simp only [Bool.false_and, Bool.and_false, Bool.true_and, Bool.and_true, Bool.false_eq_true, if_false, if_true]
    go_enter Try.func24, Try.ntmps24
    go_wp2_with (first
      | (go_at_call 55; (with_reducible first | refine (h0 _).mono ?_ | refine (h1 _).mono ?_ | refine (h2 _).mono ?_ | refine (h3 _).mono ?_ | refine (h4 _).mono ?_ | refine (h5 _).mono ?_); rintro e w1 ⟨rfl, hw⟩; have hw := hw.symm; subst hw)
      | (have _t := t2; (first | refine wpList_stX _ rfl _ (.tmp 14) (.tmp 39) rfl w.heap.size _ _ rfl rfl b0 i13 rfl (by simp [Value.oneCell']) ?_ | refine wpList_stX _ rfl _ (.tmp 14) (.tmp 40) rfl w.heap.size _ _ rfl rfl b0 i13 rfl (by simp [Value.oneCell']) ?_ | refine wpList_stX _ rfl _ (.tmp 14) (.tmp 48) rfl w.heap.size _ _ rfl rfl b0 i13 rfl (by simp [Value.oneCell']) ?_ | refine wpList_stX _ rfl _ (.tmp 14) (.tmp 49) rfl w.heap.size _ _ rfl rfl b0 i13 rfl (by simp [Value.oneCell']) ?_ | refine wpList_stX _ rfl _ (.tmp 14) (.tmp 50) rfl w.heap.size _ _ rfl rfl b0 i13 rfl (by simp [Value.oneCell']) ?_); clear t2; intro w9 b9 g9))
    refine bodyPost_ret (results_cell1t rfl _ _ _ ⟨w.heap.size, 0, none⟩ _ (.int .i64 1) rfl (BxS.load (t := 44) b9 Try.underlying44 i13) rfl) rfl ?_
    exact ofA_bad id nm mo bu pa li 1 L w w9 (by decide) (grown_far g0 g9 (fun q e => by have e : w.heap.size = q := Option.some.inj e; omega))
  by_cases hf : n ≤ 65536
  · rw [decide_eq_true hf]
    have hf' : ¬ (65536 < (n : Int)) := by omega
    simp only [Bool.and_true, if_true]
    go_enter Try.func24, Try.ntmps24
    go_wp2_with (first
      | (go_at_call 55; (with_reducible first | refine (h0 _).mono ?_ | refine (h1 _).mono ?_ | refine (h2 _).mono ?_ | refine (h3 _).mono ?_ | refine (h4 _).mono ?_ | refine (h5 _).mono ?_); rintro e w1 ⟨rfl, hw⟩; have hw := hw.symm; subst hw)
      | (at_builtin; refine wpList_joinZ rfl _ _ rfl _ 0 0 w0.heap.size [] rfl (Ans.nil _ _) (Nat.le_refl _) _ n cap L rfl (hL.keep g0) (by omega) ?_; intro a' c' w2 hA2 hg2; have b2 := b0.keep hg2 (by simp [Value.ownBlock]); have t3 : True := trivial)
      | (have _t := t3; (first | refine wpList_stX _ rfl _ (.tmp 14) (.tmp 58) rfl w.heap.size _ _ rfl rfl b2 i13 rfl (by simp [Value.oneCell']) ?_); clear t3; intro w9 b9 g9))
    refine bodyPost_ret (results_cell1t rfl _ _ _ ⟨w.heap.size, 0, none⟩ _ (.int .i64 0) rfl (BxS.load (t := 44) b9 Try.underlying44 i13) rfl) rfl ?_
    rw [Nat.zero_add] at *
    have G2 : w.grownBy w2 none := grown_trans g0 hg2
    have hA9 := hA2.kept g9 (by
      rcases hA2.cases with ⟨rfl, _, _⟩ | ⟨g, rfl, hg, _⟩
      · exact .inl rfl
      · refine .inr fun e => ?_
        have e : g = w.heap.size := Option.some.inj e
        omega)
    refine ofA_ok id nm mo bu pa li n L w w9 a' c' ⟨hA9.own, hA9.byte, fun g h => ?_⟩ (grown_far G2 g9 (fun q e => by have e : w.heap.size = q := Option.some.inj e; omega))
    have := hA9.new g h
    omega
  · rw [decide_eq_false hf]
    have hf' : 65536 < (n : Int) := by omega
    simp only [Bool.false_and, Bool.and_false, Bool.true_and, Bool.and_true, Bool.false_eq_true, if_false, if_true]
    go_enter Try.func24, Try.ntmps24
    go_wp2_with (first
      | (go_at_call 55; (with_reducible first | refine (h0 _).mono ?_ | refine (h1 _).mono ?_ | refine (h2 _).mono ?_ | refine (h3 _).mono ?_ | refine (h4 _).mono ?_ | refine (h5 _).mono ?_); rintro e w1 ⟨rfl, hw⟩; have hw := hw.symm; subst hw)
      | (have _t := t2; (first | refine wpList_stX _ rfl _ (.tmp 14) (.tmp 39) rfl w.heap.size _ _ rfl rfl b0 i13 rfl (by simp [Value.oneCell']) ?_ | refine wpList_stX _ rfl _ (.tmp 14) (.tmp 40) rfl w.heap.size _ _ rfl rfl b0 i13 rfl (by simp [Value.oneCell']) ?_ | refine wpList_stX _ rfl _ (.tmp 14) (.tmp 48) rfl w.heap.size _ _ rfl rfl b0 i13 rfl (by simp [Value.oneCell']) ?_ | refine wpList_stX _ rfl _ (.tmp 14) (.tmp 49) rfl w.heap.size _ _ rfl rfl b0 i13 rfl (by simp [Value.oneCell']) ?_ | refine wpList_stX _ rfl _ (.tmp 14) (.tmp 50) rfl w.heap.size _ _ rfl rfl b0 i13 rfl (by simp [Value.oneCell']) ?_); clear t2; intro w9 b9 g9))
    refine bodyPost_ret (results_cell1t rfl _ _ _ ⟨w.heap.size, 0, none⟩ _ (.int .i64 1) rfl (BxS.load (t := 44) b9 Try.underlying44 i13) rfl) rfl ?_
    exact ofA_bad id nm mo bu pa li 1 L w w9 (by decide) (grown_far g0 g9 (fun q e => by have e : w.heap.size = q := Option.some.inj e; omega))
/-- a taker's cells -/
def tkA (id : Int) (kn : Bool) (nm : ByteArray) (si : Int) (en : Bool) (la su : Int) (ha fl : Value) (st ti pa tr li : Int) : Array Value := #[.int .i64 id, .bool kn, .string nm, .int .i64 si, .bool en, .int .i64 la, .int .i64 su, ha, fl, .int .i64 st, .int .i64 ti, .int .i64 pa, .int .i64 tr, .int .i64 li]
/-- what Expect answers -/
def ExA (id pa li : Int) (w w' : World) (e : Ending) : Prop :=
  e = .returned (.tuple #[.agg (tkA (ofX (dsE id pa li) id) false ⟨#[]⟩ 0 false 0 0 (.slice none 0 0) (.slice none 0 0) 0 0 (ofX (dsE id pa li) pa) 0 (ofX (dsE id pa li) li)), .int .i64 (dsE id pa li : Nat)]) ∧ w.grownBy w' none
set_option maxHeartbeats 8000000 in
theorem expect_any (id pa li : Int) (w : World) : Calls Try.prog 27 #[.int .i64 id, .int .i64 pa, .int .i64 li] w fun e w' => ExA id pa li w w' e := by
  have h0 := fun wz => wrongSide_any id pa li wz
  unfold dsE at h0
  have b0 := BxS.new w 48 #[.int .i64 0, .bool false, .string ⟨#[]⟩, .int .i64 0, .bool false, .int .i64 0, .int .i64 0, .slice none 0 0, .slice none 0 0, .int .i64 0, .int .i64 0, .int .i64 0, .int .i64 0, .int .i64 0]
  have g0 := World.grownBy_alloc w (.cells #[.int .i64 0, .bool false, .string ⟨#[]⟩, .int .i64 0, .bool false, .int .i64 0, .int .i64 0, .slice none 0 0, .slice none 0 0, .int .i64 0, .int .i64 0, .int .i64 0, .int .i64 0, .int .i64 0] 48) none
  have i14 := Try.info_tk
  generalize hw0 : w.alloc (.cells #[.int .i64 0, .bool false, .string ⟨#[]⟩, .int .i64 0, .bool false, .int .i64 0, .int .i64 0, .slice none 0 0, .slice none 0 0, .int .i64 0, .int .i64 0, .int .i64 0, .int .i64 0, .int .i64 0] 48) = w0 at b0 g0
  have hz0 : w0.heap.size = w.heap.size + 1 := by rw [← hw0]; simp
  have t2 : True := trivial
  unfold ExA dsE
  generalize dsB id pa li = b at h0 ⊢
  cases b
  case false =>
    go_enter Try.func27, Try.ntmps27
    go_wp2_with (first
      | (go_at_call 58; refine (h0 _).mono ?_; rintro e w1 ⟨rfl, rfl⟩)
      | (have _t := t2; (first | refine wpList_stX _ rfl _ (.tmp 6) (.tmp 9) rfl w.heap.size _ _ rfl rfl b0 i14 rfl (by simp [Value.oneCell']) ?_ | refine wpList_stX _ rfl _ (.tmp 6) (.tmp 10) rfl w.heap.size _ _ rfl rfl b0 i14 rfl (by simp [Value.oneCell']) ?_ | refine wpList_stX _ rfl _ (.tmp 6) (.tmp 11) rfl w.heap.size _ _ rfl rfl b0 i14 rfl (by simp [Value.oneCell']) ?_ | refine wpList_stX _ rfl _ (.tmp 6) (.tmp 12) rfl w.heap.size _ _ rfl rfl b0 i14 rfl (by simp [Value.oneCell']) ?_ | refine wpList_stX _ rfl _ (.tmp 6) (.tmp 13) rfl w.heap.size _ _ rfl rfl b0 i14 rfl (by simp [Value.oneCell']) ?_ | refine wpList_stX _ rfl _ (.tmp 6) (.tmp 14) rfl w.heap.size _ _ rfl rfl b0 i14 rfl (by simp [Value.oneCell']) ?_ | refine wpList_stX _ rfl _ (.tmp 6) (.tmp 15) rfl w.heap.size _ _ rfl rfl b0 i14 rfl (by simp [Value.oneCell']) ?_ | refine wpList_stX _ rfl _ (.tmp 6) (.tmp 16) rfl w.heap.size _ _ rfl rfl b0 i14 rfl (by simp [Value.oneCell']) ?_ | refine wpList_stX _ rfl _ (.tmp 6) (.tmp 17) rfl w.heap.size _ _ rfl rfl b0 i14 rfl (by simp [Value.oneCell']) ?_ | refine wpList_stX _ rfl _ (.tmp 6) (.tmp 18) rfl w.heap.size _ _ rfl rfl b0 i14 rfl (by simp [Value.oneCell']) ?_ | refine wpList_stX _ rfl _ (.tmp 6) (.tmp 19) rfl w.heap.size _ _ rfl rfl b0 i14 rfl (by simp [Value.oneCell']) ?_ | refine wpList_stX _ rfl _ (.tmp 6) (.tmp 20) rfl w.heap.size _ _ rfl rfl b0 i14 rfl (by simp [Value.oneCell']) ?_ | refine wpList_stX _ rfl _ (.tmp 6) (.tmp 21) rfl w.heap.size _ _ rfl rfl b0 i14 rfl (by simp [Value.oneCell']) ?_ | refine wpList_stX _ rfl _ (.tmp 6) (.tmp 22) rfl w.heap.size _ _ rfl rfl b0 i14 rfl (by simp [Value.oneCell']) ?_ | refine wpList_stX _ rfl _ (.tmp 6) (.tmp 23) rfl w.heap.size _ _ rfl rfl b0 i14 rfl (by simp [Value.oneCell']) ?_ | refine wpList_stX _ rfl _ (.tmp 6) (.tmp 24) rfl w.heap.size _ _ rfl rfl b0 i14 rfl (by simp [Value.oneCell']) ?_ | refine wpList_stX _ rfl _ (.tmp 6) (.tmp 25) rfl w.heap.size _ _ rfl rfl b0 i14 rfl (by simp [Value.oneCell']) ?_ | refine wpList_stX _ rfl _ (.tmp 6) (.tmp 26) rfl w.heap.size _ _ rfl rfl b0 i14 rfl (by simp [Value.oneCell']) ?_ | refine wpList_stX _ rfl _ (.tmp 6) (.tmp 27) rfl w.heap.size _ _ rfl rfl b0 i14 rfl (by simp [Value.oneCell']) ?_ | refine wpList_stX _ rfl _ (.tmp 6) (.tmp 28) rfl w.heap.size _ _ rfl rfl b0 i14 rfl (by simp [Value.oneCell']) ?_ | refine wpList_stX _ rfl _ (.tmp 6) (.tmp 29) rfl w.heap.size _ _ rfl rfl b0 i14 rfl (by simp [Value.oneCell']) ?_); clear t2; intro w9 b9 g9))
    refine bodyPost_ret (results_cell1t rfl _ _ _ ⟨w.heap.size, 0, none⟩ _ (.int .i64 2) rfl (BxS.load (t := 48) b9 Try.underlying48 i14) rfl) rfl ?_
    exact ⟨rfl, grown_far g0 g9 (fun q e => by have e : w.heap.size = q := Option.some.inj e; omega)⟩
  go_enter Try.func27, Try.ntmps27
  go_wp2_with (first
    | (go_at_call 58; refine (h0 _).mono ?_; rintro e w1 ⟨rfl, rfl⟩)
    | (have _t := t2; (first | refine wpList_stX _ rfl _ (.tmp 6) (.tmp 9) rfl w.heap.size _ _ rfl rfl b0 i14 rfl (by simp [Value.oneCell']) ?_ | refine wpList_stX _ rfl _ (.tmp 6) (.tmp 10) rfl w.heap.size _ _ rfl rfl b0 i14 rfl (by simp [Value.oneCell']) ?_ | refine wpList_stX _ rfl _ (.tmp 6) (.tmp 11) rfl w.heap.size _ _ rfl rfl b0 i14 rfl (by simp [Value.oneCell']) ?_ | refine wpList_stX _ rfl _ (.tmp 6) (.tmp 12) rfl w.heap.size _ _ rfl rfl b0 i14 rfl (by simp [Value.oneCell']) ?_ | refine wpList_stX _ rfl _ (.tmp 6) (.tmp 13) rfl w.heap.size _ _ rfl rfl b0 i14 rfl (by simp [Value.oneCell']) ?_ | refine wpList_stX _ rfl _ (.tmp 6) (.tmp 14) rfl w.heap.size _ _ rfl rfl b0 i14 rfl (by simp [Value.oneCell']) ?_ | refine wpList_stX _ rfl _ (.tmp 6) (.tmp 15) rfl w.heap.size _ _ rfl rfl b0 i14 rfl (by simp [Value.oneCell']) ?_ | refine wpList_stX _ rfl _ (.tmp 6) (.tmp 16) rfl w.heap.size _ _ rfl rfl b0 i14 rfl (by simp [Value.oneCell']) ?_ | refine wpList_stX _ rfl _ (.tmp 6) (.tmp 17) rfl w.heap.size _ _ rfl rfl b0 i14 rfl (by simp [Value.oneCell']) ?_ | refine wpList_stX _ rfl _ (.tmp 6) (.tmp 18) rfl w.heap.size _ _ rfl rfl b0 i14 rfl (by simp [Value.oneCell']) ?_ | refine wpList_stX _ rfl _ (.tmp 6) (.tmp 19) rfl w.heap.size _ _ rfl rfl b0 i14 rfl (by simp [Value.oneCell']) ?_ | refine wpList_stX _ rfl _ (.tmp 6) (.tmp 20) rfl w.heap.size _ _ rfl rfl b0 i14 rfl (by simp [Value.oneCell']) ?_ | refine wpList_stX _ rfl _ (.tmp 6) (.tmp 21) rfl w.heap.size _ _ rfl rfl b0 i14 rfl (by simp [Value.oneCell']) ?_ | refine wpList_stX _ rfl _ (.tmp 6) (.tmp 22) rfl w.heap.size _ _ rfl rfl b0 i14 rfl (by simp [Value.oneCell']) ?_ | refine wpList_stX _ rfl _ (.tmp 6) (.tmp 23) rfl w.heap.size _ _ rfl rfl b0 i14 rfl (by simp [Value.oneCell']) ?_ | refine wpList_stX _ rfl _ (.tmp 6) (.tmp 24) rfl w.heap.size _ _ rfl rfl b0 i14 rfl (by simp [Value.oneCell']) ?_ | refine wpList_stX _ rfl _ (.tmp 6) (.tmp 25) rfl w.heap.size _ _ rfl rfl b0 i14 rfl (by simp [Value.oneCell']) ?_ | refine wpList_stX _ rfl _ (.tmp 6) (.tmp 26) rfl w.heap.size _ _ rfl rfl b0 i14 rfl (by simp [Value.oneCell']) ?_ | refine wpList_stX _ rfl _ (.tmp 6) (.tmp 27) rfl w.heap.size _ _ rfl rfl b0 i14 rfl (by simp [Value.oneCell']) ?_ | refine wpList_stX _ rfl _ (.tmp 6) (.tmp 28) rfl w.heap.size _ _ rfl rfl b0 i14 rfl (by simp [Value.oneCell']) ?_ | refine wpList_stX _ rfl _ (.tmp 6) (.tmp 29) rfl w.heap.size _ _ rfl rfl b0 i14 rfl (by simp [Value.oneCell']) ?_); clear t2; intro w9 b9 g9))
  refine bodyPost_ret (results_cell1t rfl _ _ _ ⟨w.heap.size, 0, none⟩ _ (.int .i64 0) rfl (BxS.load (t := 48) b9 Try.underlying48 i14) rfl) rfl ?_
  exact ⟨rfl, grown_far g0 g9 (fun q e => by have e : w.heap.size = q := Option.some.inj e; omega)⟩
set_option maxHeartbeats 8000000 in
theorem expected_any (id pa li : Int) (w : World) : Calls Try.prog 26 #[.int .i64 id, .int .i64 pa, .int .i64 li] w fun e w' => ExA id pa li w w' e := by
  have h0 := fun wz => inRange_any id 0 65535 wz
  have h1 := fun wz => inRange_any pa 1 1000 wz
  have h2 := fun wz => inRange_any li 1 100 wz
  have b0 := BxS.new w 48 #[.int .i64 0, .bool false, .string ⟨#[]⟩, .int .i64 0, .bool false, .int .i64 0, .int .i64 0, .slice none 0 0, .slice none 0 0, .int .i64 0, .int .i64 0, .int .i64 0, .int .i64 0, .int .i64 0]
  have g0 := World.grownBy_alloc w (.cells #[.int .i64 0, .bool false, .string ⟨#[]⟩, .int .i64 0, .bool false, .int .i64 0, .int .i64 0, .slice none 0 0, .slice none 0 0, .int .i64 0, .int .i64 0, .int .i64 0, .int .i64 0, .int .i64 0] 48) none
  have i14 := Try.info_tk
  generalize hw0 : w.alloc (.cells #[.int .i64 0, .bool false, .string ⟨#[]⟩, .int .i64 0, .bool false, .int .i64 0, .int .i64 0, .slice none 0 0, .slice none 0 0, .int .i64 0, .int .i64 0, .int .i64 0, .int .i64 0, .int .i64 0] 48) = w0 at b0 g0
  have hz0 : w0.heap.size = w.heap.size + 1 := by rw [← hw0]; simp
  have t2 : True := trivial
  unfold ExA dsE
  unfold dsB
  generalize kwB id 0 65535 = b0 at h0 ⊢
  generalize kwB pa 1 1000 = b1 at h1 ⊢
  generalize kwB li 1 100 = b2 at h2 ⊢
  cases b0
  case false =>
    go_enter Try.func26, Try.ntmps26
    go_wp2_with (first
      | (go_at_call 55; (with_reducible first | refine (h0 _).mono ?_ | refine (h1 _).mono ?_ | refine (h2 _).mono ?_); rintro e w1 ⟨rfl, rfl⟩)
      | (have _t := t2; (first | refine wpList_stX _ rfl _ (.tmp 6) (.tmp 9) rfl w.heap.size _ _ rfl rfl b0 i14 rfl (by simp [Value.oneCell']) ?_ | refine wpList_stX _ rfl _ (.tmp 6) (.tmp 10) rfl w.heap.size _ _ rfl rfl b0 i14 rfl (by simp [Value.oneCell']) ?_ | refine wpList_stX _ rfl _ (.tmp 6) (.tmp 11) rfl w.heap.size _ _ rfl rfl b0 i14 rfl (by simp [Value.oneCell']) ?_ | refine wpList_stX _ rfl _ (.tmp 6) (.tmp 12) rfl w.heap.size _ _ rfl rfl b0 i14 rfl (by simp [Value.oneCell']) ?_ | refine wpList_stX _ rfl _ (.tmp 6) (.tmp 13) rfl w.heap.size _ _ rfl rfl b0 i14 rfl (by simp [Value.oneCell']) ?_ | refine wpList_stX _ rfl _ (.tmp 6) (.tmp 14) rfl w.heap.size _ _ rfl rfl b0 i14 rfl (by simp [Value.oneCell']) ?_ | refine wpList_stX _ rfl _ (.tmp 6) (.tmp 15) rfl w.heap.size _ _ rfl rfl b0 i14 rfl (by simp [Value.oneCell']) ?_ | refine wpList_stX _ rfl _ (.tmp 6) (.tmp 16) rfl w.heap.size _ _ rfl rfl b0 i14 rfl (by simp [Value.oneCell']) ?_ | refine wpList_stX _ rfl _ (.tmp 6) (.tmp 17) rfl w.heap.size _ _ rfl rfl b0 i14 rfl (by simp [Value.oneCell']) ?_ | refine wpList_stX _ rfl _ (.tmp 6) (.tmp 18) rfl w.heap.size _ _ rfl rfl b0 i14 rfl (by simp [Value.oneCell']) ?_ | refine wpList_stX _ rfl _ (.tmp 6) (.tmp 19) rfl w.heap.size _ _ rfl rfl b0 i14 rfl (by simp [Value.oneCell']) ?_ | refine wpList_stX _ rfl _ (.tmp 6) (.tmp 20) rfl w.heap.size _ _ rfl rfl b0 i14 rfl (by simp [Value.oneCell']) ?_ | refine wpList_stX _ rfl _ (.tmp 6) (.tmp 21) rfl w.heap.size _ _ rfl rfl b0 i14 rfl (by simp [Value.oneCell']) ?_ | refine wpList_stX _ rfl _ (.tmp 6) (.tmp 22) rfl w.heap.size _ _ rfl rfl b0 i14 rfl (by simp [Value.oneCell']) ?_ | refine wpList_stX _ rfl _ (.tmp 6) (.tmp 23) rfl w.heap.size _ _ rfl rfl b0 i14 rfl (by simp [Value.oneCell']) ?_ | refine wpList_stX _ rfl _ (.tmp 6) (.tmp 24) rfl w.heap.size _ _ rfl rfl b0 i14 rfl (by simp [Value.oneCell']) ?_ | refine wpList_stX _ rfl _ (.tmp 6) (.tmp 25) rfl w.heap.size _ _ rfl rfl b0 i14 rfl (by simp [Value.oneCell']) ?_ | refine wpList_stX _ rfl _ (.tmp 6) (.tmp 26) rfl w.heap.size _ _ rfl rfl b0 i14 rfl (by simp [Value.oneCell']) ?_ | refine wpList_stX _ rfl _ (.tmp 6) (.tmp 27) rfl w.heap.size _ _ rfl rfl b0 i14 rfl (by simp [Value.oneCell']) ?_ | refine wpList_stX _ rfl _ (.tmp 6) (.tmp 28) rfl w.heap.size _ _ rfl rfl b0 i14 rfl (by simp [Value.oneCell']) ?_ | refine wpList_stX _ rfl _ (.tmp 6) (.tmp 29) rfl w.heap.size _ _ rfl rfl b0 i14 rfl (by simp [Value.oneCell']) ?_ | refine wpList_stX _ rfl _ (.tmp 6) (.tmp 30) rfl w.heap.size _ _ rfl rfl b0 i14 rfl (by simp [Value.oneCell']) ?_ | refine wpList_stX _ rfl _ (.tmp 6) (.tmp 31) rfl w.heap.size _ _ rfl rfl b0 i14 rfl (by simp [Value.oneCell']) ?_ | refine wpList_stX _ rfl _ (.tmp 6) (.tmp 32) rfl w.heap.size _ _ rfl rfl b0 i14 rfl (by simp [Value.oneCell']) ?_ | refine wpList_stX _ rfl _ (.tmp 6) (.tmp 33) rfl w.heap.size _ _ rfl rfl b0 i14 rfl (by simp [Value.oneCell']) ?_); clear t2; intro w9 b9 g9))
    refine bodyPost_ret (results_cell1t rfl _ _ _ ⟨w.heap.size, 0, none⟩ _ (.int .i64 2) rfl (BxS.load (t := 48) b9 Try.underlying48 i14) rfl) rfl ?_
    exact ⟨rfl, grown_far g0 g9 (fun q e => by have e : w.heap.size = q := Option.some.inj e; omega)⟩
  cases b1
  case false =>
    go_enter Try.func26, Try.ntmps26
    go_wp2_with (first
      | (go_at_call 55; (with_reducible first | refine (h0 _).mono ?_ | refine (h1 _).mono ?_ | refine (h2 _).mono ?_); rintro e w1 ⟨rfl, rfl⟩)
      | (have _t := t2; (first | refine wpList_stX _ rfl _ (.tmp 6) (.tmp 9) rfl w.heap.size _ _ rfl rfl b0 i14 rfl (by simp [Value.oneCell']) ?_ | refine wpList_stX _ rfl _ (.tmp 6) (.tmp 10) rfl w.heap.size _ _ rfl rfl b0 i14 rfl (by simp [Value.oneCell']) ?_ | refine wpList_stX _ rfl _ (.tmp 6) (.tmp 11) rfl w.heap.size _ _ rfl rfl b0 i14 rfl (by simp [Value.oneCell']) ?_ | refine wpList_stX _ rfl _ (.tmp 6) (.tmp 12) rfl w.heap.size _ _ rfl rfl b0 i14 rfl (by simp [Value.oneCell']) ?_ | refine wpList_stX _ rfl _ (.tmp 6) (.tmp 13) rfl w.heap.size _ _ rfl rfl b0 i14 rfl (by simp [Value.oneCell']) ?_ | refine wpList_stX _ rfl _ (.tmp 6) (.tmp 14) rfl w.heap.size _ _ rfl rfl b0 i14 rfl (by simp [Value.oneCell']) ?_ | refine wpList_stX _ rfl _ (.tmp 6) (.tmp 15) rfl w.heap.size _ _ rfl rfl b0 i14 rfl (by simp [Value.oneCell']) ?_ | refine wpList_stX _ rfl _ (.tmp 6) (.tmp 16) rfl w.heap.size _ _ rfl rfl b0 i14 rfl (by simp [Value.oneCell']) ?_ | refine wpList_stX _ rfl _ (.tmp 6) (.tmp 17) rfl w.heap.size _ _ rfl rfl b0 i14 rfl (by simp [Value.oneCell']) ?_ | refine wpList_stX _ rfl _ (.tmp 6) (.tmp 18) rfl w.heap.size _ _ rfl rfl b0 i14 rfl (by simp [Value.oneCell']) ?_ | refine wpList_stX _ rfl _ (.tmp 6) (.tmp 19) rfl w.heap.size _ _ rfl rfl b0 i14 rfl (by simp [Value.oneCell']) ?_ | refine wpList_stX _ rfl _ (.tmp 6) (.tmp 20) rfl w.heap.size _ _ rfl rfl b0 i14 rfl (by simp [Value.oneCell']) ?_ | refine wpList_stX _ rfl _ (.tmp 6) (.tmp 21) rfl w.heap.size _ _ rfl rfl b0 i14 rfl (by simp [Value.oneCell']) ?_ | refine wpList_stX _ rfl _ (.tmp 6) (.tmp 22) rfl w.heap.size _ _ rfl rfl b0 i14 rfl (by simp [Value.oneCell']) ?_ | refine wpList_stX _ rfl _ (.tmp 6) (.tmp 23) rfl w.heap.size _ _ rfl rfl b0 i14 rfl (by simp [Value.oneCell']) ?_ | refine wpList_stX _ rfl _ (.tmp 6) (.tmp 24) rfl w.heap.size _ _ rfl rfl b0 i14 rfl (by simp [Value.oneCell']) ?_ | refine wpList_stX _ rfl _ (.tmp 6) (.tmp 25) rfl w.heap.size _ _ rfl rfl b0 i14 rfl (by simp [Value.oneCell']) ?_ | refine wpList_stX _ rfl _ (.tmp 6) (.tmp 26) rfl w.heap.size _ _ rfl rfl b0 i14 rfl (by simp [Value.oneCell']) ?_ | refine wpList_stX _ rfl _ (.tmp 6) (.tmp 27) rfl w.heap.size _ _ rfl rfl b0 i14 rfl (by simp [Value.oneCell']) ?_ | refine wpList_stX _ rfl _ (.tmp 6) (.tmp 28) rfl w.heap.size _ _ rfl rfl b0 i14 rfl (by simp [Value.oneCell']) ?_ | refine wpList_stX _ rfl _ (.tmp 6) (.tmp 29) rfl w.heap.size _ _ rfl rfl b0 i14 rfl (by simp [Value.oneCell']) ?_ | refine wpList_stX _ rfl _ (.tmp 6) (.tmp 30) rfl w.heap.size _ _ rfl rfl b0 i14 rfl (by simp [Value.oneCell']) ?_ | refine wpList_stX _ rfl _ (.tmp 6) (.tmp 31) rfl w.heap.size _ _ rfl rfl b0 i14 rfl (by simp [Value.oneCell']) ?_ | refine wpList_stX _ rfl _ (.tmp 6) (.tmp 32) rfl w.heap.size _ _ rfl rfl b0 i14 rfl (by simp [Value.oneCell']) ?_ | refine wpList_stX _ rfl _ (.tmp 6) (.tmp 33) rfl w.heap.size _ _ rfl rfl b0 i14 rfl (by simp [Value.oneCell']) ?_); clear t2; intro w9 b9 g9))
    refine bodyPost_ret (results_cell1t rfl _ _ _ ⟨w.heap.size, 0, none⟩ _ (.int .i64 2) rfl (BxS.load (t := 48) b9 Try.underlying48 i14) rfl) rfl ?_
    exact ⟨rfl, grown_far g0 g9 (fun q e => by have e : w.heap.size = q := Option.some.inj e; omega)⟩
  cases b2
  case false =>
    go_enter Try.func26, Try.ntmps26
    go_wp2_with (first
      | (go_at_call 55; (with_reducible first | refine (h0 _).mono ?_ | refine (h1 _).mono ?_ | refine (h2 _).mono ?_); rintro e w1 ⟨rfl, rfl⟩)
      | (have _t := t2; (first | refine wpList_stX _ rfl _ (.tmp 6) (.tmp 9) rfl w.heap.size _ _ rfl rfl b0 i14 rfl (by simp [Value.oneCell']) ?_ | refine wpList_stX _ rfl _ (.tmp 6) (.tmp 10) rfl w.heap.size _ _ rfl rfl b0 i14 rfl (by simp [Value.oneCell']) ?_ | refine wpList_stX _ rfl _ (.tmp 6) (.tmp 11) rfl w.heap.size _ _ rfl rfl b0 i14 rfl (by simp [Value.oneCell']) ?_ | refine wpList_stX _ rfl _ (.tmp 6) (.tmp 12) rfl w.heap.size _ _ rfl rfl b0 i14 rfl (by simp [Value.oneCell']) ?_ | refine wpList_stX _ rfl _ (.tmp 6) (.tmp 13) rfl w.heap.size _ _ rfl rfl b0 i14 rfl (by simp [Value.oneCell']) ?_ | refine wpList_stX _ rfl _ (.tmp 6) (.tmp 14) rfl w.heap.size _ _ rfl rfl b0 i14 rfl (by simp [Value.oneCell']) ?_ | refine wpList_stX _ rfl _ (.tmp 6) (.tmp 15) rfl w.heap.size _ _ rfl rfl b0 i14 rfl (by simp [Value.oneCell']) ?_ | refine wpList_stX _ rfl _ (.tmp 6) (.tmp 16) rfl w.heap.size _ _ rfl rfl b0 i14 rfl (by simp [Value.oneCell']) ?_ | refine wpList_stX _ rfl _ (.tmp 6) (.tmp 17) rfl w.heap.size _ _ rfl rfl b0 i14 rfl (by simp [Value.oneCell']) ?_ | refine wpList_stX _ rfl _ (.tmp 6) (.tmp 18) rfl w.heap.size _ _ rfl rfl b0 i14 rfl (by simp [Value.oneCell']) ?_ | refine wpList_stX _ rfl _ (.tmp 6) (.tmp 19) rfl w.heap.size _ _ rfl rfl b0 i14 rfl (by simp [Value.oneCell']) ?_ | refine wpList_stX _ rfl _ (.tmp 6) (.tmp 20) rfl w.heap.size _ _ rfl rfl b0 i14 rfl (by simp [Value.oneCell']) ?_ | refine wpList_stX _ rfl _ (.tmp 6) (.tmp 21) rfl w.heap.size _ _ rfl rfl b0 i14 rfl (by simp [Value.oneCell']) ?_ | refine wpList_stX _ rfl _ (.tmp 6) (.tmp 22) rfl w.heap.size _ _ rfl rfl b0 i14 rfl (by simp [Value.oneCell']) ?_ | refine wpList_stX _ rfl _ (.tmp 6) (.tmp 23) rfl w.heap.size _ _ rfl rfl b0 i14 rfl (by simp [Value.oneCell']) ?_ | refine wpList_stX _ rfl _ (.tmp 6) (.tmp 24) rfl w.heap.size _ _ rfl rfl b0 i14 rfl (by simp [Value.oneCell']) ?_ | refine wpList_stX _ rfl _ (.tmp 6) (.tmp 25) rfl w.heap.size _ _ rfl rfl b0 i14 rfl (by simp [Value.oneCell']) ?_ | refine wpList_stX _ rfl _ (.tmp 6) (.tmp 26) rfl w.heap.size _ _ rfl rfl b0 i14 rfl (by simp [Value.oneCell']) ?_ | refine wpList_stX _ rfl _ (.tmp 6) (.tmp 27) rfl w.heap.size _ _ rfl rfl b0 i14 rfl (by simp [Value.oneCell']) ?_ | refine wpList_stX _ rfl _ (.tmp 6) (.tmp 28) rfl w.heap.size _ _ rfl rfl b0 i14 rfl (by simp [Value.oneCell']) ?_ | refine wpList_stX _ rfl _ (.tmp 6) (.tmp 29) rfl w.heap.size _ _ rfl rfl b0 i14 rfl (by simp [Value.oneCell']) ?_ | refine wpList_stX _ rfl _ (.tmp 6) (.tmp 30) rfl w.heap.size _ _ rfl rfl b0 i14 rfl (by simp [Value.oneCell']) ?_ | refine wpList_stX _ rfl _ (.tmp 6) (.tmp 31) rfl w.heap.size _ _ rfl rfl b0 i14 rfl (by simp [Value.oneCell']) ?_ | refine wpList_stX _ rfl _ (.tmp 6) (.tmp 32) rfl w.heap.size _ _ rfl rfl b0 i14 rfl (by simp [Value.oneCell']) ?_ | refine wpList_stX _ rfl _ (.tmp 6) (.tmp 33) rfl w.heap.size _ _ rfl rfl b0 i14 rfl (by simp [Value.oneCell']) ?_); clear t2; intro w9 b9 g9))
    refine bodyPost_ret (results_cell1t rfl _ _ _ ⟨w.heap.size, 0, none⟩ _ (.int .i64 2) rfl (BxS.load (t := 48) b9 Try.underlying48 i14) rfl) rfl ?_
    exact ⟨rfl, grown_far g0 g9 (fun q e => by have e : w.heap.size = q := Option.some.inj e; omega)⟩
  go_enter Try.func26, Try.ntmps26
  go_wp2_with (first
    | (go_at_call 55; (with_reducible first | refine (h0 _).mono ?_ | refine (h1 _).mono ?_ | refine (h2 _).mono ?_); rintro e w1 ⟨rfl, rfl⟩)
    | (have _t := t2; (first | refine wpList_stX _ rfl _ (.tmp 6) (.tmp 9) rfl w.heap.size _ _ rfl rfl b0 i14 rfl (by simp [Value.oneCell']) ?_ | refine wpList_stX _ rfl _ (.tmp 6) (.tmp 10) rfl w.heap.size _ _ rfl rfl b0 i14 rfl (by simp [Value.oneCell']) ?_ | refine wpList_stX _ rfl _ (.tmp 6) (.tmp 11) rfl w.heap.size _ _ rfl rfl b0 i14 rfl (by simp [Value.oneCell']) ?_ | refine wpList_stX _ rfl _ (.tmp 6) (.tmp 12) rfl w.heap.size _ _ rfl rfl b0 i14 rfl (by simp [Value.oneCell']) ?_ | refine wpList_stX _ rfl _ (.tmp 6) (.tmp 13) rfl w.heap.size _ _ rfl rfl b0 i14 rfl (by simp [Value.oneCell']) ?_ | refine wpList_stX _ rfl _ (.tmp 6) (.tmp 14) rfl w.heap.size _ _ rfl rfl b0 i14 rfl (by simp [Value.oneCell']) ?_ | refine wpList_stX _ rfl _ (.tmp 6) (.tmp 15) rfl w.heap.size _ _ rfl rfl b0 i14 rfl (by simp [Value.oneCell']) ?_ | refine wpList_stX _ rfl _ (.tmp 6) (.tmp 16) rfl w.heap.size _ _ rfl rfl b0 i14 rfl (by simp [Value.oneCell']) ?_ | refine wpList_stX _ rfl _ (.tmp 6) (.tmp 17) rfl w.heap.size _ _ rfl rfl b0 i14 rfl (by simp [Value.oneCell']) ?_ | refine wpList_stX _ rfl _ (.tmp 6) (.tmp 18) rfl w.heap.size _ _ rfl rfl b0 i14 rfl (by simp [Value.oneCell']) ?_ | refine wpList_stX _ rfl _ (.tmp 6) (.tmp 19) rfl w.heap.size _ _ rfl rfl b0 i14 rfl (by simp [Value.oneCell']) ?_ | refine wpList_stX _ rfl _ (.tmp 6) (.tmp 20) rfl w.heap.size _ _ rfl rfl b0 i14 rfl (by simp [Value.oneCell']) ?_ | refine wpList_stX _ rfl _ (.tmp 6) (.tmp 21) rfl w.heap.size _ _ rfl rfl b0 i14 rfl (by simp [Value.oneCell']) ?_ | refine wpList_stX _ rfl _ (.tmp 6) (.tmp 22) rfl w.heap.size _ _ rfl rfl b0 i14 rfl (by simp [Value.oneCell']) ?_ | refine wpList_stX _ rfl _ (.tmp 6) (.tmp 23) rfl w.heap.size _ _ rfl rfl b0 i14 rfl (by simp [Value.oneCell']) ?_ | refine wpList_stX _ rfl _ (.tmp 6) (.tmp 24) rfl w.heap.size _ _ rfl rfl b0 i14 rfl (by simp [Value.oneCell']) ?_ | refine wpList_stX _ rfl _ (.tmp 6) (.tmp 25) rfl w.heap.size _ _ rfl rfl b0 i14 rfl (by simp [Value.oneCell']) ?_ | refine wpList_stX _ rfl _ (.tmp 6) (.tmp 26) rfl w.heap.size _ _ rfl rfl b0 i14 rfl (by simp [Value.oneCell']) ?_ | refine wpList_stX _ rfl _ (.tmp 6) (.tmp 27) rfl w.heap.size _ _ rfl rfl b0 i14 rfl (by simp [Value.oneCell']) ?_ | refine wpList_stX _ rfl _ (.tmp 6) (.tmp 28) rfl w.heap.size _ _ rfl rfl b0 i14 rfl (by simp [Value.oneCell']) ?_ | refine wpList_stX _ rfl _ (.tmp 6) (.tmp 29) rfl w.heap.size _ _ rfl rfl b0 i14 rfl (by simp [Value.oneCell']) ?_ | refine wpList_stX _ rfl _ (.tmp 6) (.tmp 30) rfl w.heap.size _ _ rfl rfl b0 i14 rfl (by simp [Value.oneCell']) ?_ | refine wpList_stX _ rfl _ (.tmp 6) (.tmp 31) rfl w.heap.size _ _ rfl rfl b0 i14 rfl (by simp [Value.oneCell']) ?_ | refine wpList_stX _ rfl _ (.tmp 6) (.tmp 32) rfl w.heap.size _ _ rfl rfl b0 i14 rfl (by simp [Value.oneCell']) ?_ | refine wpList_stX _ rfl _ (.tmp 6) (.tmp 33) rfl w.heap.size _ _ rfl rfl b0 i14 rfl (by simp [Value.oneCell']) ?_); clear t2; intro w9 b9 g9))
  refine bodyPost_ret (results_cell1t rfl _ _ _ ⟨w.heap.size, 0, none⟩ _ (.int .i64 0) rfl (BxS.load (t := 48) b9 Try.underlying48 i14) rfl) rfl ?_
  exact ⟨rfl, grown_far g0 g9 (fun q e => by have e : w.heap.size = q := Option.some.inj e; omega)⟩
end Go.Proofs.Ytamiimcbodhjoaa
