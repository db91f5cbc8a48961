import Derived.Test.YtnimehkfnpepfaaWt1
import Derived.Test.YtnimehkfnpepfaaWt2
import Derived.Test.YtnimehkfnpepfaaWt3
namespace Go.Proofs.Ytnimehkfnpepfaa
open Go.RowKit
set_option maxRecDepth 100000
set_option linter.unusedVariables false
set_option linter.unusedSimpArgs false

section
/-- a taker's cells -/
def tkA (id : Int) (kn : Bool) (nm : ByteArray) (si : Int) (en : Bool) (la su : Int) (ha fl : Value) (st ti pa tr li : Int) : Array Value := #[.int .i64 id, .bool kn, .string nm, .int .i64 si, .bool en, .int .i64 la, .int .i64 su, ha, fl, .int .i64 st, .int .i64 ti, .int .i64 pa, .int .i64 tr, .int .i64 li]
/-- what Expect answers -/
def ExA (id pa li : Int) (w w' : World) (e : Ending) : Prop :=
  e = .returned (.tuple #[.agg (tkA (ofX (dsE id pa li) id) false ⟨#[]⟩ 0 false 0 0 (.slice none 0 0) (.slice none 0 0) 0 0 (ofX (dsE id pa li) pa) 0 (ofX (dsE id pa li) li)), .int .i64 (dsE id pa li : Nat)]) ∧ w.grownBy w' none
set_option maxHeartbeats 8000000 in
theorem expected_any (id pa li : Int) (w : World) : Calls Try.prog 26 #[.int .i64 id, .int .i64 pa, .int .i64 li] w fun e w' => ExA id pa li w w' e := by
  have h0 := fun wz => inRange_any id 0 65535 wz
  have h1 := fun wz => inRange_any pa 1 1000 wz
  have h2 := fun wz => inRange_any li 1 100 wz
  have b0 := BxS.new w 48 #[.int .i64 0, .bool false, .string ⟨#[]⟩, .int .i64 0, .bool false, .int .i64 0, .int .i64 0, .slice none 0 0, .slice none 0 0, .int .i64 0, .int .i64 0, .int .i64 0, .int .i64 0, .int .i64 0]
  have g0 := World.grownBy_alloc w (.cells #[.int .i64 0, .bool false, .string ⟨#[]⟩, .int .i64 0, .bool false, .int .i64 0, .int .i64 0, .slice none 0 0, .slice none 0 0, .int .i64 0, .int .i64 0, .int .i64 0, .int .i64 0, .int .i64 0] 48) none
  have i14 := Try.info_tk
  generalize hw0 : w.alloc (.cells #[.int .i64 0, .bool false, .string ⟨#[]⟩, .int .i64 0, .bool false, .int .i64 0, .int .i64 0, .slice none 0 0, .slice none 0 0, .int .i64 0, .int .i64 0, .int .i64 0, .int .i64 0, .int .i64 0] 48) = w0 at b0 g0
  have hz0 : w0.heap.size = w.heap.size + 1 := by rw [← hw0]; simp
  have t2 : True := trivial
  unfold ExA dsE
  unfold dsB
  generalize kwB id 0 65535 = b0 at h0 ⊢
  generalize kwB pa 1 1000 = b1 at h1 ⊢
  generalize kwB li 1 100 = b2 at h2 ⊢
  cases b0
  case false =>
    go_enter Try.func26, Try.ntmps26
    go_wp2_with (first
      | (go_at_call 55; (with_reducible first | refine (h0 _).mono ?_ | refine (h1 _).mono ?_ | refine (h2 _).mono ?_); rintro e w1 ⟨rfl, rfl⟩)
      | (have _t := t2; (first | refine wpList_stX _ rfl _ (.tmp 6) (.tmp 9) rfl w.heap.size _ _ rfl rfl b0 i14 rfl (by simp [Value.oneCell']) ?_ | refine wpList_stX _ rfl _ (.tmp 6) (.tmp 10) rfl w.heap.size _ _ rfl rfl b0 i14 rfl (by simp [Value.oneCell']) ?_ | refine wpList_stX _ rfl _ (.tmp 6) (.tmp 11) rfl w.heap.size _ _ rfl rfl b0 i14 rfl (by simp [Value.oneCell']) ?_ | refine wpList_stX _ rfl _ (.tmp 6) (.tmp 12) rfl w.heap.size _ _ rfl rfl b0 i14 rfl (by simp [Value.oneCell']) ?_ | refine wpList_stX _ rfl _ (.tmp 6) (.tmp 13) rfl w.heap.size _ _ rfl rfl b0 i14 rfl (by simp [Value.oneCell']) ?_ | refine wpList_stX _ rfl _ (.tmp 6) (.tmp 14) rfl w.heap.size _ _ rfl rfl b0 i14 rfl (by simp [Value.oneCell']) ?_ | refine wpList_stX _ rfl _ (.tmp 6) (.tmp 15) rfl w.heap.size _ _ rfl rfl b0 i14 rfl (by simp [Value.oneCell']) ?_ | refine wpList_stX _ rfl _ (.tmp 6) (.tmp 16) rfl w.heap.size _ _ rfl rfl b0 i14 rfl (by simp [Value.oneCell']) ?_ | refine wpList_stX _ rfl _ (.tmp 6) (.tmp 17) rfl w.heap.size _ _ rfl rfl b0 i14 rfl (by simp [Value.oneCell']) ?_ | refine wpList_stX _ rfl _ (.tmp 6) (.tmp 18) rfl w.heap.size _ _ rfl rfl b0 i14 rfl (by simp [Value.oneCell']) ?_ | refine wpList_stX _ rfl _ (.tmp 6) (.tmp 19) rfl w.heap.size _ _ rfl rfl b0 i14 rfl (by simp [Value.oneCell']) ?_ | refine wpList_stX _ rfl _ (.tmp 6) (.tmp 20) rfl w.heap.size _ _ rfl rfl b0 i14 rfl (by simp [Value.oneCell']) ?_ | refine wpList_stX _ rfl _ (.tmp 6) (.tmp 21) rfl w.heap.size _ _ rfl rfl b0 i14 rfl (by simp [Value.oneCell']) ?_ | refine wpList_stX _ rfl _ (.tmp 6) (.tmp 22) rfl w.heap.size _ _ rfl rfl b0 i14 rfl (by simp [Value.oneCell']) ?_ | refine wpList_stX _ rfl _ (.tmp 6) (.tmp 23) rfl w.heap.size _ _ rfl rfl b0 i14 rfl (by simp [Value.oneCell']) ?_ | refine wpList_stX _ rfl _ (.tmp 6) (.tmp 24) rfl w.heap.size _ _ rfl rfl b0 i14 rfl (by simp [Value.oneCell']) ?_ | refine wpList_stX _ rfl _ (.tmp 6) (.tmp 25) rfl w.heap.size _ _ rfl rfl b0 i14 rfl (by simp [Value.oneCell']) ?_ | refine wpList_stX _ rfl _ (.tmp 6) (.tmp 26) rfl w.heap.size _ _ rfl rfl b0 i14 rfl (by simp [Value.oneCell']) ?_ | refine wpList_stX _ rfl _ (.tmp 6) (.tmp 27) rfl w.heap.size _ _ rfl rfl b0 i14 rfl (by simp [Value.oneCell']) ?_ | refine wpList_stX _ rfl _ (.tmp 6) (.tmp 28) rfl w.heap.size _ _ rfl rfl b0 i14 rfl (by simp [Value.oneCell']) ?_ | refine wpList_stX _ rfl _ (.tmp 6) (.tmp 29) rfl w.heap.size _ _ rfl rfl b0 i14 rfl (by simp [Value.oneCell']) ?_ | refine wpList_stX _ rfl _ (.tmp 6) (.tmp 30) rfl w.heap.size _ _ rfl rfl b0 i14 rfl (by simp [Value.oneCell']) ?_ | refine wpList_stX _ rfl _ (.tmp 6) (.tmp 31) rfl w.heap.size _ _ rfl rfl b0 i14 rfl (by simp [Value.oneCell']) ?_ | refine wpList_stX _ rfl _ (.tmp 6) (.tmp 32) rfl w.heap.size _ _ rfl rfl b0 i14 rfl (by simp [Value.oneCell']) ?_ | refine wpList_stX _ rfl _ (.tmp 6) (.tmp 33) rfl w.heap.size _ _ rfl rfl b0 i14 rfl (by simp [Value.oneCell']) ?_); clear t2; intro w9 b9 g9))
    refine bodyPost_ret (results_cell1t rfl _ _ _ ⟨w.heap.size, 0, none⟩ _ (.int .i64 2) rfl (BxS.load (t := 48) b9 Try.underlying48 i14) rfl) rfl ?_
    exact ⟨rfl, grown_far g0 g9 (fun q e => by have e : w.heap.size = q := Option.some.inj e; omega)⟩
  cases b1
  case false =>
    go_enter Try.func26, Try.ntmps26
    go_wp2_with (first
      | (go_at_call 55; (with_reducible first | refine (h0 _).mono ?_ | refine (h1 _).mono ?_ | refine (h2 _).mono ?_); rintro e w1 ⟨rfl, rfl⟩)
      | (have _t := t2; (first | refine wpList_stX _ rfl _ (.tmp 6) (.tmp 9) rfl w.heap.size _ _ rfl rfl b0 i14 rfl (by simp [Value.oneCell']) ?_ | refine wpList_stX _ rfl _ (.tmp 6) (.tmp 10) rfl w.heap.size _ _ rfl rfl b0 i14 rfl (by simp [Value.oneCell']) ?_ | refine wpList_stX _ rfl _ (.tmp 6) (.tmp 11) rfl w.heap.size _ _ rfl rfl b0 i14 rfl (by simp [Value.oneCell']) ?_ | refine wpList_stX _ rfl _ (.tmp 6) (.tmp 12) rfl w.heap.size _ _ rfl rfl b0 i14 rfl (by simp [Value.oneCell']) ?_ | refine wpList_stX _ rfl _ (.tmp 6) (.tmp 13) rfl w.heap.size _ _ rfl rfl b0 i14 rfl (by simp [Value.oneCell']) ?_ | refine wpList_stX _ rfl _ (.tmp 6) (.tmp 14) rfl w.heap.size _ _ rfl rfl b0 i14 rfl (by simp [Value.oneCell']) ?_ | refine wpList_stX _ rfl _ (.tmp 6) (.tmp 15) rfl w.heap.size _ _ rfl rfl b0 i14 rfl (by simp [Value.oneCell']) ?_ | refine wpList_stX _ rfl _ (.tmp 6) (.tmp 16) rfl w.heap.size _ _ rfl rfl b0 i14 rfl (by simp [Value.oneCell']) ?_ | refine wpList_stX _ rfl _ (.tmp 6) (.tmp 17) rfl w.heap.size _ _ rfl rfl b0 i14 rfl (by simp [Value.oneCell']) ?_ | refine wpList_stX _ rfl _ (.tmp 6) (.tmp 18) rfl w.heap.size _ _ rfl rfl b0 i14 rfl (by simp [Value.oneCell']) ?_ | refine wpList_stX _ rfl _ (.tmp 6) (.tmp 19) rfl w.heap.size _ _ rfl rfl b0 i14 rfl (by simp [Value.oneCell']) ?_ | refine wpList_stX _ rfl _ (.tmp 6) (.tmp 20) rfl w.heap.size _ _ rfl rfl b0 i14 rfl (by simp [Value.oneCell']) ?_ | refine wpList_stX _ rfl _ (.tmp 6) (.tmp 21) rfl w.heap.size _ _ rfl rfl b0 i14 rfl (by simp [Value.oneCell']) ?_ | refine wpList_stX _ rfl _ (.tmp 6) (.tmp 22) rfl w.heap.size _ _ rfl rfl b0 i14 rfl (by simp [Value.oneCell']) ?_ | refine wpList_stX _ rfl _ (.tmp 6) (.tmp 23) rfl w.heap.size _ _ rfl rfl b0 i14 rfl (by simp [Value.oneCell']) ?_ | refine wpList_stX _ rfl _ (.tmp 6) (.tmp 24) rfl w.heap.size _ _ rfl rfl b0 i14 rfl (by simp [Value.oneCell']) ?_ | refine wpList_stX _ rfl _ (.tmp 6) (.tmp 25) rfl w.heap.size _ _ rfl rfl b0 i14 rfl (by simp [Value.oneCell']) ?_ | refine wpList_stX _ rfl _ (.tmp 6) (.tmp 26) rfl w.heap.size _ _ rfl rfl b0 i14 rfl (by simp [Value.oneCell']) ?_ | refine wpList_stX _ rfl _ (.tmp 6) (.tmp 27) rfl w.heap.size _ _ rfl rfl b0 i14 rfl (by simp [Value.oneCell']) ?_ | refine wpList_stX _ rfl _ (.tmp 6) (.tmp 28) rfl w.heap.size _ _ rfl rfl b0 i14 rfl (by simp [Value.oneCell']) ?_ | refine wpList_stX _ rfl _ (.tmp 6) (.tmp 29) rfl w.heap.size _ _ rfl rfl b0 i14 rfl (by simp [Value.oneCell']) ?_ | refine wpList_stX _ rfl _ (.tmp 6) (.tmp 30) rfl w.heap.size _ _ rfl rfl b0 i14 rfl (by simp [Value.oneCell']) ?_ | refine wpList_stX _ rfl _ (.tmp 6) (.tmp 31) rfl w.heap.size _ _ rfl rfl b0 i14 rfl (by simp [Value.oneCell']) ?_ | refine wpList_stX _ rfl _ (.tmp 6) (.tmp 32) rfl w.heap.size _ _ rfl rfl b0 i14 rfl (by simp [Value.oneCell']) ?_ | refine wpList_stX _ rfl _ (.tmp 6) (.tmp 33) rfl w.heap.size _ _ rfl rfl b0 i14 rfl (by simp [Value.oneCell']) ?_); clear t2; intro w9 b9 g9))
    refine bodyPost_ret (results_cell1t rfl _ _ _ ⟨w.heap.size, 0, none⟩ _ (.int .i64 2) rfl (BxS.load (t := 48) b9 Try.underlying48 i14) rfl) rfl ?_
    exact ⟨rfl, grown_far g0 g9 (fun q e => by have e : w.heap.size = q := Option.some.inj e; omega)⟩
  cases b2
  case false =>
    go_enter Try.func26, Try.ntmps26
    go_wp2_with (first
      | (go_at_call 55; (with_reducible first | refine (h0 _).mono ?_ | refine (h1 _).mono ?_ | refine (h2 _).mono ?_); rintro e w1 ⟨rfl, rfl⟩)
      | (have _t := t2; (first | refine wpList_stX _ rfl _ (.tmp 6) (.tmp 9) rfl w.heap.size _ _ rfl rfl b0 i14 rfl (by simp [Value.oneCell']) ?_ | refine wpList_stX _ rfl _ (.tmp 6) (.tmp 10) rfl w.heap.size _ _ rfl rfl b0 i14 rfl (by simp [Value.oneCell']) ?_ | refine wpList_stX _ rfl _ (.tmp 6) (.tmp 11) rfl w.heap.size _ _ rfl rfl b0 i14 rfl (by simp [Value.oneCell']) ?_ | refine wpList_stX _ rfl _ (.tmp 6) (.tmp 12) rfl w.heap.size _ _ rfl rfl b0 i14 rfl (by simp [Value.oneCell']) ?_ | refine wpList_stX _ rfl _ (.tmp 6) (.tmp 13) rfl w.heap.size _ _ rfl rfl b0 i14 rfl (by simp [Value.oneCell']) ?_ | refine wpList_stX _ rfl _ (.tmp 6) (.tmp 14) rfl w.heap.size _ _ rfl rfl b0 i14 rfl (by simp [Value.oneCell']) ?_ | refine wpList_stX _ rfl _ (.tmp 6) (.tmp 15) rfl w.heap.size _ _ rfl rfl b0 i14 rfl (by simp [Value.oneCell']) ?_ | refine wpList_stX _ rfl _ (.tmp 6) (.tmp 16) rfl w.heap.size _ _ rfl rfl b0 i14 rfl (by simp [Value.oneCell']) ?_ | refine wpList_stX _ rfl _ (.tmp 6) (.tmp 17) rfl w.heap.size _ _ rfl rfl b0 i14 rfl (by simp [Value.oneCell']) ?_ | refine wpList_stX _ rfl _ (.tmp 6) (.tmp 18) rfl w.heap.size _ _ rfl rfl b0 i14 rfl (by simp [Value.oneCell']) ?_ | refine wpList_stX _ rfl _ (.tmp 6) (.tmp 19) rfl w.heap.size _ _ rfl rfl b0 i14 rfl (by simp [Value.oneCell']) ?_ | refine wpList_stX _ rfl _ (.tmp 6) (.tmp 20) rfl w.heap.size _ _ rfl rfl b0 i14 rfl (by simp [Value.oneCell']) ?_ | refine wpList_stX _ rfl _ (.tmp 6) (.tmp 21) rfl w.heap.size _ _ rfl rfl b0 i14 rfl (by simp [Value.oneCell']) ?_ | refine wpList_stX _ rfl _ (.tmp 6) (.tmp 22) rfl w.heap.size _ _ rfl rfl b0 i14 rfl (by simp [Value.oneCell']) ?_ | refine wpList_stX _ rfl _ (.tmp 6) (.tmp 23) rfl w.heap.size _ _ rfl rfl b0 i14 rfl (by simp [Value.oneCell']) ?_ | refine wpList_stX _ rfl _ (.tmp 6) (.tmp 24) rfl w.heap.size _ _ rfl rfl b0 i14 rfl (by simp [Value.oneCell']) ?_ | refine wpList_stX _ rfl _ (.tmp 6) (.tmp 25) rfl w.heap.size _ _ rfl rfl b0 i14 rfl (by simp [Value.oneCell']) ?_ | refine wpList_stX _ rfl _ (.tmp 6) (.tmp 26) rfl w.heap.size _ _ rfl rfl b0 i14 rfl (by simp [Value.oneCell']) ?_ | refine wpList_stX _ rfl _ (.tmp 6) (.tmp 27) rfl w.heap.size _ _ rfl rfl b0 i14 rfl (by simp [Value.oneCell']) ?_ | refine wpList_stX _ rfl _ (.tmp 6) (.tmp 28) rfl w.heap.size _ _ rfl rfl b0 i14 rfl (by simp [Value.oneCell']) ?_ | refine wpList_stX _ rfl _ (.tmp 6) (.tmp 29) rfl w.heap.size _ _ rfl rfl b0 i14 rfl (by simp [Value.oneCell']) ?_ | refine wpList_stX _ rfl _ (.tmp 6) (.tmp 30) rfl w.heap.size _ _ rfl rfl b0 i14 rfl (by simp [Value.oneCell']) ?_ | refine wpList_stX _ rfl _ (.tmp 6) (.tmp 31) rfl w.heap.size _ _ rfl rfl b0 i14 rfl (by simp [Value.oneCell']) ?_ | refine wpList_stX _ rfl _ (.tmp 6) (.tmp 32) rfl w.heap.size _ _ rfl rfl b0 i14 rfl (by simp [Value.oneCell']) ?_ | refine wpList_stX _ rfl _ (.tmp 6) (.tmp 33) rfl w.heap.size _ _ rfl rfl b0 i14 rfl (by simp [Value.oneCell']) ?_); clear t2; intro w9 b9 g9))
    refine bodyPost_ret (results_cell1t rfl _ _ _ ⟨w.heap.size, 0, none⟩ _ (.int .i64 2) rfl (BxS.load (t := 48) b9 Try.underlying48 i14) rfl) rfl ?_
    exact ⟨rfl, grown_far g0 g9 (fun q e => by have e : w.heap.size = q := Option.some.inj e; omega)⟩
  go_enter Try.func26, Try.ntmps26
  go_wp2_with (first
    | (go_at_call 55; (with_reducible first | refine (h0 _).mono ?_ | refine (h1 _).mono ?_ | refine (h2 _).mono ?_); rintro e w1 ⟨rfl, rfl⟩)
    | (have _t := t2; (first | refine wpList_stX _ rfl _ (.tmp 6) (.tmp 9) rfl w.heap.size _ _ rfl rfl b0 i14 rfl (by simp [Value.oneCell']) ?_ | refine wpList_stX _ rfl _ (.tmp 6) (.tmp 10) rfl w.heap.size _ _ rfl rfl b0 i14 rfl (by simp [Value.oneCell']) ?_ | refine wpList_stX _ rfl _ (.tmp 6) (.tmp 11) rfl w.heap.size _ _ rfl rfl b0 i14 rfl (by simp [Value.oneCell']) ?_ | refine wpList_stX _ rfl _ (.tmp 6) (.tmp 12) rfl w.heap.size _ _ rfl rfl b0 i14 rfl (by simp [Value.oneCell']) ?_ | refine wpList_stX _ rfl _ (.tmp 6) (.tmp 13) rfl w.heap.size _ _ rfl rfl b0 i14 rfl (by simp [Value.oneCell']) ?_ | refine wpList_stX _ rfl _ (.tmp 6) (.tmp 14) rfl w.heap.size _ _ rfl rfl b0 i14 rfl (by simp [Value.oneCell']) ?_ | refine wpList_stX _ rfl _ (.tmp 6) (.tmp 15) rfl w.heap.size _ _ rfl rfl b0 i14 rfl (by simp [Value.oneCell']) ?_ | refine wpList_stX _ rfl _ (.tmp 6) (.tmp 16) rfl w.heap.size _ _ rfl rfl b0 i14 rfl (by simp [Value.oneCell']) ?_ | refine wpList_stX _ rfl _ (.tmp 6) (.tmp 17) rfl w.heap.size _ _ rfl rfl b0 i14 rfl (by simp [Value.oneCell']) ?_ | refine wpList_stX _ rfl _ (.tmp 6) (.tmp 18) rfl w.heap.size _ _ rfl rfl b0 i14 rfl (by simp [Value.oneCell']) ?_ | refine wpList_stX _ rfl _ (.tmp 6) (.tmp 19) rfl w.heap.size _ _ rfl rfl b0 i14 rfl (by simp [Value.oneCell']) ?_ | refine wpList_stX _ rfl _ (.tmp 6) (.tmp 20) rfl w.heap.size _ _ rfl rfl b0 i14 rfl (by simp [Value.oneCell']) ?_ | refine wpList_stX _ rfl _ (.tmp 6) (.tmp 21) rfl w.heap.size _ _ rfl rfl b0 i14 rfl (by simp [Value.oneCell']) ?_ | refine wpList_stX _ rfl _ (.tmp 6) (.tmp 22) rfl w.heap.size _ _ rfl rfl b0 i14 rfl (by simp [Value.oneCell']) ?_ | refine wpList_stX _ rfl _ (.tmp 6) (.tmp 23) rfl w.heap.size _ _ rfl rfl b0 i14 rfl (by simp [Value.oneCell']) ?_ | refine wpList_stX _ rfl _ (.tmp 6) (.tmp 24) rfl w.heap.size _ _ rfl rfl b0 i14 rfl (by simp [Value.oneCell']) ?_ | refine wpList_stX _ rfl _ (.tmp 6) (.tmp 25) rfl w.heap.size _ _ rfl rfl b0 i14 rfl (by simp [Value.oneCell']) ?_ | refine wpList_stX _ rfl _ (.tmp 6) (.tmp 26) rfl w.heap.size _ _ rfl rfl b0 i14 rfl (by simp [Value.oneCell']) ?_ | refine wpList_stX _ rfl _ (.tmp 6) (.tmp 27) rfl w.heap.size _ _ rfl rfl b0 i14 rfl (by simp [Value.oneCell']) ?_ | refine wpList_stX _ rfl _ (.tmp 6) (.tmp 28) rfl w.heap.size _ _ rfl rfl b0 i14 rfl (by simp [Value.oneCell']) ?_ | refine wpList_stX _ rfl _ (.tmp 6) (.tmp 29) rfl w.heap.size _ _ rfl rfl b0 i14 rfl (by simp [Value.oneCell']) ?_ | refine wpList_stX _ rfl _ (.tmp 6) (.tmp 30) rfl w.heap.size _ _ rfl rfl b0 i14 rfl (by simp [Value.oneCell']) ?_ | refine wpList_stX _ rfl _ (.tmp 6) (.tmp 31) rfl w.heap.size _ _ rfl rfl b0 i14 rfl (by simp [Value.oneCell']) ?_ | refine wpList_stX _ rfl _ (.tmp 6) (.tmp 32) rfl w.heap.size _ _ rfl rfl b0 i14 rfl (by simp [Value.oneCell']) ?_ | refine wpList_stX _ rfl _ (.tmp 6) (.tmp 33) rfl w.heap.size _ _ rfl rfl b0 i14 rfl (by simp [Value.oneCell']) ?_); clear t2; intro w9 b9 g9))
  refine bodyPost_ret (results_cell1t rfl _ _ _ ⟨w.heap.size, 0, none⟩ _ (.int .i64 0) rfl (BxS.load (t := 48) b9 Try.underlying48 i14) rfl) rfl ?_
  exact ⟨rfl, grown_far g0 g9 (fun q e => by have e : w.heap.size = q := Option.some.inj e; omega)⟩
end

section
/-- a note and where its memory lies -/
structure Nx where
  kd : Int
  id : Int
  nm : ByteArray
  si : Int
  su : Int
  at' : Int
  da : List Nat
  ga : List (Int × Int)
  o : Int
  co : Int
  a : Option Addr
  c : Nat
  q : Option Addr
  d : Nat
def Nx.arr (x : Nx) : Array Value := #[.int .i64 x.kd, .int .i64 x.id, .string x.nm, .int .i64 x.si, .int .i64 x.su, .int .i64 x.at', .slice x.a x.da.length x.c, .slice x.q x.ga.length x.d, .int .i64 x.o, .int .i64 x.co]
def Nx.cells (x : Nx) : List Value := x.arr.toList
def flN (xs : List Nx) : List Value := xs.flatMap Nx.cells
theorem flN_add (xs : List Nx) (x : Nx) : flN (xs ++ [x]) = flN xs ++ x.cells := by
  unfold flN
  rw [List.flatMap_append]
  simp
theorem flN_at : ∀ (xs : List Nx) (i : Nat) (x : Nx), xs[i]? = some x → ∀ j, j < 10 → (flN xs)[i * 10 + j]? = x.cells[j]? := by
  intro xs
  induction xs with
  | nil => intro i x h; cases h
  | cons y xs ih =>
    intro i x h j hj
    have hy : y.cells.length = 10 := rfl
    show (y.cells ++ flN xs)[i * 10 + j]? = _
    cases i with
    | zero =>
      have e : y = x := Option.some.inj h
      subst e
      rw [Nat.zero_mul, Nat.zero_add, List.getElem?_append_left (by omega)]
    | succ i =>
      rw [List.getElem?_append_right (by omega), hy, show (i + 1) * 10 + j - 10 = i * 10 + j by omega]
      exact ih i x h j hj
/-- notes in new memory -/
structure OwN (w : World) (lo : Nat) (a : Option Addr) (n c : Nat) (xs : List Nx) : Prop where
  own : w.ownsRow 0 27 10 (.slice a n c) n (flN xs)
  len : xs.length = n
  new : ∀ g, (Value.slice a n c).ownBlock = some g → lo ≤ g
  eA : ∀ x, x ∈ xs → Ans w lo x.a x.da.length x.c x.da
  eO : ∀ x, x ∈ xs → OwGi w lo x.q x.ga.length x.d x.ga
  pA : xs.Pairwise fun x y => ∀ g, (Value.slice x.a x.da.length x.c).ownBlock = some g → (Value.slice y.a y.da.length y.c).ownBlock ≠ some g
  pO : xs.Pairwise fun x y => ∀ g, (Value.slice x.q x.ga.length x.d).ownBlock = some g → (Value.slice y.q y.ga.length y.d).ownBlock ≠ some g
/-- the blocks of notes -/
def Nbl (a : Option Addr) (n c : Nat) (xs : List Nx) (g : Nat) : Prop := (Value.slice a n c).ownBlock = some g ∨ ∃ x, x ∈ xs ∧ ((Value.slice x.a x.da.length x.c).ownBlock = some g ∨ (Value.slice x.q x.ga.length x.d).ownBlock = some g)
section
variable {w w' : World} {lo lo' : Nat} {a : Option Addr} {n c : Nat} {xs : List Nx} {r : Option Nat}
theorem OwN.nil (w : World) (lo : Nat) : OwN w lo none 0 0 [] := ⟨World.ownsRow_nil _ _ _ _, rfl, (fun g h => by cases h), (fun x h => by cases h), (fun x h => by cases h), List.Pairwise.nil, List.Pairwise.nil⟩
theorem OwN.kR (h : OwN w lo a n c xs) (hg : w.grownBy w' r) (hr : ∀ z, r = some z → ¬ Nbl a n c xs z) : OwN w' lo a n c xs := by
  refine ⟨h.own.kept hg ?_, h.len, h.new, fun x hx => (h.eA x hx).kept hg ?_, fun x hx => (h.eO x hx).kR hg (fun z e e2 => hr z e (.inr ⟨x, hx, .inr e2⟩)), h.pA, h.pO⟩
  · cases hz : (Value.slice a n c).ownBlock with
    | none => exact .inl rfl
    | some z => exact .inr (fun e => hr z e.symm (.inl hz))
  · cases hz : (Value.slice x.a x.da.length x.c).ownBlock with
    | none => exact .inl rfl
    | some z => exact .inr (fun e => hr z e.symm (.inr ⟨x, hx, .inl hz⟩))
theorem OwN.keep (h : OwN w lo a n c xs) (hg : w.grownBy w' none) : OwN w' lo a n c xs := h.kR hg (fun z e => by cases e)
theorem OwN.wide (h : OwN w lo a n c xs) (hl : lo' ≤ lo) : OwN w lo' a n c xs := ⟨h.own, h.len, fun g e => Nat.le_trans hl (h.new g e), fun x hx => (h.eA x hx).wide hl, fun x hx => (h.eO x hx).wide hl, h.pA, h.pO⟩
theorem OwN.low (h : OwN w lo a n c xs) {z : Nat} (hz : Nbl a n c xs z) : lo ≤ z := by
  rcases hz with hz | ⟨x, hx, hz | hz⟩
  · exact h.new z hz
  · exact (h.eA x hx).new z hz
  · exact (h.eO x hx).new z hz
theorem own_ltN {t : TypeId} {k : Nat} {v : Value} {ys : List Value} (h : w.ownsRow 0 t k v n ys) {g : Nat} (e : v.ownBlock = some g) : g < w.heap.size := by
  rcases h.2 with ⟨h1, _⟩ | ⟨g', cap', cur, h1, _, h3, _⟩
  · rw [h1] at e; cases e
  · rw [h1] at e
    have e : g' = g := Option.some.inj e
    subst e
    exact (Array.getElem?_eq_some_iff.1 h3).1
theorem OwN.lt (h : OwN w lo a n c xs) {z : Nat} (hz : Nbl a n c xs z) : z < w.heap.size := by
  rcases hz with hz | ⟨x, hx, hz | hz⟩
  · exact own_ltN h.own hz
  · exact own_ltN (h.eA x hx).own hz
  · exact own_ltN (h.eO x hx).own hz
theorem own_ty {t u : TypeId} {k : Nat} {v : Value} {ys : List Value} {cs : Array Value} (h : w.ownsRow 0 t k v n ys) {g : Nat} (hb : BxS w g u cs) (ht : t ≠ u) : v.ownBlock ≠ some g := by
  intro e
  rcases h.2 with ⟨h1, _⟩ | ⟨g', cap', cur, h1, _, h3, _⟩
  · rw [h1] at e; cases e
  · rw [h1] at e
    have e : g' = g := Option.some.inj e
    subst e
    have hb : w.heap[g']? = some (.cells cs u) := hb
    rw [h3] at hb
    injection hb with hb
    injection hb with _ hb
    exact ht hb
/-- a box of a type of its own -/
theorem OwN.bx {g : Nat} {t : TypeId} {cs : Array Value} (h : OwN w lo a n c xs) (hb : BxS w g t cs) (h1 : 27 ≠ t) (h2 : 5 ≠ t) (h3 : 82 ≠ t) (hg : w.grownBy w' (some g)) : OwN w' lo a n c xs :=
  h.kR hg (fun z e hz => by
    have e := Option.some.inj e
    subst e
    rcases hz with hz | ⟨x, hx, hz | hz⟩
    · exact own_ty h.own hb h1 hz
    · exact own_ty (h.eA x hx).own hb h2 hz
    · exact own_ty (h.eO x hx).own hb h3 hz)
end
end

section
/-- a giver at work; wB: the world when the call began -/
structure GW (wB w : World) (gw : Nat) (id : Int) (nm : ByteArray) (mo bu st : Int) (fi : Bool) (at' ti pa tr li : Int) (a : Option Addr) (n c : Nat) (L : List Nat) (q : Option Addr) (m d : Nat) (G : List (Int × Int)) (na : Option Addr) (nn nc : Nat) (xs : List Nx) : Prop where
  bx : BxS w gw 100 #[.int .i64 id, .string nm, .slice a n c, .int .i64 mo, .int .i64 bu, .int .i64 st, .bool fi, .int .i64 at', .slice q m d, .int .i64 ti, .int .i64 pa, .int .i64 tr, .int .i64 li, .slice na nn nc]
  A : Ans w wB.heap.size a n c L
  O : OwGi w wB.heap.size q m d G
  N : OwN w wB.heap.size na nn nc xs
  gl : wB.heap.size ≤ gw
  sA : ∀ z, (Value.slice a n c).ownBlock = some z → ¬ Nbl na nn nc xs z
  sO : ∀ z, (Value.slice q m d).ownBlock = some z → ¬ Nbl na nn nc xs z
  g : wB.grownBy w none
theorem two_nx (x : Nx) (y : Int) : (x.arr).set! 1 (.int .i64 y) = ({ x with id := y } : Nx).arr := rfl
theorem Try.info_nt3 : (Try.prog.info? 27).map (fun i => (i.zero, i.size, i.bytes)) = some (some (.agg #[.int .i64 0, .int .i64 0, .string ⟨#[]⟩, .int .i64 0, .int .i64 0, .int .i64 0, .slice none 0 0, .slice none 0 0, .int .i64 0, .int .i64 0]), 10, 120) := by kernel_rfl
theorem ld_execD {w : World} {o : Oper} {a : Act} {t : TypeId} {p : Operand} {g : Nat} {cs : Array Value} (hop : o.op = Op.load t p) (hp : a.eval p = .pointer (some ⟨g, 0, none⟩)) (h : BxS w g t cs) {fs : Array Field} (hu : Try.prog.underlying t = some (.struct fs)) (hi : (Try.prog.info? t).map (·.size) = some cs.size) : (execOp a.eval o).run Try.prog w = .ok (.value (.agg cs)) w := by
  have hld : (Instr.loadAt t (.pointer (some ⟨g, 0, none⟩))).run Try.prog w = .ok (.agg cs) w := by
    simp only [Instr.loadAt, Instr.sureAddr, Sem.run_bind, Sem.run_pure, Result.andThen]
    exact h.load hu hi
  simp [execOp, hop, hp, hld, Result.andThen]
theorem stc_slN (g i : Nat) (p : Option Addr) (l c : Nat) (w : World) (hc : ∃ u, w.cell? ⟨g, i, none⟩ = some u) (hf : w.frozen? ⟨g, i, none⟩ = false) : (Instr.storeAt 54 (.pointer (some ⟨g, i, none⟩)) (.slice p l c)).run Try.prog w = .ok () (w.setCell ⟨g, i, none⟩ (.slice p l c)) := by
  obtain ⟨u, hc⟩ := hc
  simp [go_sem, hc, hf]
theorem own_bxS {w : World} {t : TypeId} {k n : Nat} {v : Value} {ys : List Value} (h : w.ownsRow 0 t k v n ys) {g : Nat} (e : v.ownBlock = some g) : ∃ cs, BxS w g t cs := by
  rcases h.2 with ⟨h1, _⟩ | ⟨g', cap', cur, h1, _, h3, _⟩
  · rw [h1] at e; cases e
  · rw [h1] at e
    have e : g' = g := Option.some.inj e
    subst e
    exact ⟨cur, h3⟩
theorem Ans.kRR {w w' : World} {lo : Nat} {a : Option Addr} {n c : Nat} {L : List Nat} {r : Option Nat} (h : Ans w lo a n c L) (hg : w.grownBy w' r) (hr : ∀ z, r = some z → (Value.slice a n c).ownBlock ≠ some z) : Ans w' lo a n c L :=
  h.kept hg (by
    cases hz : (Value.slice a n c).ownBlock with
    | none => exact .inl rfl
    | some z => exact .inr (fun e => hr z e.symm hz))
theorem BxS.newsA {w : World} {g : Nat} {t : TypeId} {A : Array Value} (h : BxS w g t A) : ∀ j u, A.toList[j]? = some u → w.cell? ((⟨g, 0, none⟩ : Addr).add j) = some u := by
  intro j u hu
  have hj : j < A.size := by have := (List.getElem?_eq_some_iff.1 hu).1; rwa [Array.length_toList] at this
  rw [addr_add, Nat.zero_add]
  have := h.cell j hj
  rw [this]
  rw [List.getElem?_eq_getElem (by rw [Array.length_toList]; exact hj)] at hu
  rw [← Option.some.inj hu]
  simp
end

section
/-- boxes of givers lie as they lay -/
def KpT (w w' : World) : Prop := ∀ g cs, BxS w g 44 cs → BxS w' g 44 cs
theorem KpT.none {w w' : World} (u : w.grownBy w' none) : KpT w w' := fun g cs hb => hb.keep u (by simp)
theorem KpT.trans {u v w : World} (h : KpT u v) (k : KpT v w) : KpT u w := fun g cs hb => k g cs (h g cs hb)
theorem KpT.bx {w w' : World} {g : Nat} {t : TypeId} {cs : Array Value} (b : BxS w g t cs) (ht : 44 ≠ t) (u : w.grownBy w' (some g)) : KpT w w' := fun g9 cs9 hb => hb.keep u (fun e => BxS.apart hb b ht (Option.some.inj e))
/-- a giver's own numbers are written -/
theorem GW.set {wB w w' : World} {gw : Nat} {id : Int} {nm : ByteArray} {mo bu st : Int} {fi : Bool} {at' ti pa tr li : Int} {a : Option Addr} {n c : Nat} {L : List Nat} {q : Option Addr} {m d : Nat} {G : List (Int × Int)} {na : Option Addr} {nn nc : Nat} {xs : List Nx} (h : GW wB w gw id nm mo bu st fi at' ti pa tr li a n c L q m d G na nn nc xs) (u : w.grownBy w' (some gw)) {st2 : Int} {fi2 : Bool} {at2 ti2 tr2 : Int} (b : BxS w' gw 100 #[.int .i64 id, .string nm, .slice a n c, .int .i64 mo, .int .i64 bu, .int .i64 st2, .bool fi2, .int .i64 at2, .slice q m d, .int .i64 ti2, .int .i64 pa, .int .i64 tr2, .int .i64 li, .slice na nn nc]) :
    GW wB w' gw id nm mo bu st2 fi2 at2 ti2 pa tr2 li a n c L q m d G na nn nc xs :=
  ⟨b, h.A.kRR u (fun z e e2 => by have e := Option.some.inj e; subst e; exact own_ty h.A.own h.bx (by decide) e2), h.O.bx h.bx (by decide) u, h.N.bx h.bx (by decide) (by decide) (by decide) u, h.gl, h.sA, h.sO, grown_far h.g u (fun z e => by have e := Option.some.inj e; have := h.gl; omega)⟩
end

section
/-- one more that has to go once more -/
theorem giF_push (G : List (Int × Int)) (p : Int × Int) (j : Nat) (h : G.length = j) : flG (giF (G ++ [p])) (j + 1) = flG (giF G) j ++ [.int .i64 p.1, .int .i64 p.2] := by
  have e := flG_app G (fun _ => p) j h 1
  have t : tabG (fun _ => p) 1 = [p] := rfl
  rw [t] at e
  rw [e]
  rfl
end

section
theorem GW.keepN {wB w w' : World} {gw : Nat} {id : Int} {nm : ByteArray} {mo bu st : Int} {fi : Bool} {at' ti pa tr li : Int} {a : Option Addr} {n c : Nat} {L : List Nat} {q : Option Addr} {m d : Nat} {G : List (Int × Int)} {na : Option Addr} {nn nc : Nat} {xs : List Nx} (h : GW wB w gw id nm mo bu st fi at' ti pa tr li a n c L q m d G na nn nc xs) (u : w.grownBy w' none) : GW wB w' gw id nm mo bu st fi at' ti pa tr li a n c L q m d G na nn nc xs :=
  ⟨h.bx.keep u (by simp), h.A.keep u, h.O.keep u, h.N.keep u, h.gl, h.sA, h.sO, grown_trans h.g u⟩
end

section
def xSeen (id : Int) : Nx := ⟨6, id, ⟨#[]⟩, 0, 0, 0, [], [], 5, 0, none, 0, none, 0⟩
end

section
set_option maxHeartbeats 16000000 in
theorem sameTaker_any (id : Int) (kn : Bool) (nm : ByteArray) (si : Int) (en : Bool) (la su st ti pa tr li : Int) (a a' q q' : Option Addr) (n c c' m d d' : Nat) (L : List Nat) (F F' : Nat → Int × Int) (w : World) (hL : Rd w a n c L) (hL' : Rd w a' n c' L) (hF : RdG w q m d F) (hF' : RdG w q' m d' F') (he : ∀ i, i < m → F i = F' i) :
    Calls Try.prog 29 #[.agg (tkA id kn nm si en la su (.slice q m d) (.slice a n c) st ti pa tr li), .agg (tkA id kn nm si en la su (.slice q' m d') (.slice a' n c') st ti pa tr li)] w fun e w' => e = .returned (.bool true) ∧ w.grownBy w' none := by
  unfold tkA
  have b0 := BxS.new w 48 #[.int .i64 id, .bool kn, .string nm, .int .i64 si, .bool en, .int .i64 la, .int .i64 su, .slice q m d, .slice a n c, .int .i64 st, .int .i64 ti, .int .i64 pa, .int .i64 tr, .int .i64 li]
  have g0 := World.grownBy_alloc w (.cells #[.int .i64 id, .bool kn, .string nm, .int .i64 si, .bool en, .int .i64 la, .int .i64 su, .slice q m d, .slice a n c, .int .i64 st, .int .i64 ti, .int .i64 pa, .int .i64 tr, .int .i64 li] 48) none
  generalize hw0 : w.alloc (.cells #[.int .i64 id, .bool kn, .string nm, .int .i64 si, .bool en, .int .i64 la, .int .i64 su, .slice q m d, .slice a n c, .int .i64 st, .int .i64 ti, .int .i64 pa, .int .i64 tr, .int .i64 li] 48) = w0 at b0 g0
  have hz0 : w0.heap.size = w.heap.size + 1 := by rw [← hw0]; simp
  have b1 := BxS.new w0 48 #[.int .i64 id, .bool kn, .string nm, .int .i64 si, .bool en, .int .i64 la, .int .i64 su, .slice q' m d', .slice a' n c', .int .i64 st, .int .i64 ti, .int .i64 pa, .int .i64 tr, .int .i64 li]
  have g1 := World.grownBy_alloc w0 (.cells #[.int .i64 id, .bool kn, .string nm, .int .i64 si, .bool en, .int .i64 la, .int .i64 su, .slice q' m d', .slice a' n c', .int .i64 st, .int .i64 ti, .int .i64 pa, .int .i64 tr, .int .i64 li] 48) none
  generalize hw1 : w0.alloc (.cells #[.int .i64 id, .bool kn, .string nm, .int .i64 si, .bool en, .int .i64 la, .int .i64 su, .slice q' m d', .slice a' n c', .int .i64 st, .int .i64 ti, .int .i64 pa, .int .i64 tr, .int .i64 li] 48) = w1 at b1 g1
  rw [hz0] at b1
  have b01 := b0.keep g1 (by simp)
  have G1 := grown_trans g0 g1
  obtain ⟨c0, c1, c2, c3, c4, c5, c6, c7, c8, c9, c10, c11, c12, c13⟩ := b01.cell14
  obtain ⟨d0, d1, d2, d3, d4, d5, d6, d7, d8, d9, d10, d11, d12, d13⟩ := b1.cell14
  have hB := fun wz (hz : w1.grownBy wz none) => sameBytes_any a a' n n c c' L wz ((hL.keep G1).keep hz) ((hL'.keep G1).keep hz)
  have hG := fun wz (hz : w1.grownBy wz none) => sameGaps_any q q' m d d' F F' wz ((hF.keep G1).keep hz) ((hF'.keep G1).keep hz) he
  clear b0 hL hL' hF hF' he
  go_enter Try.func29, Try.ntmps29
  go_wp2_with (first
    | (go_at_call 51; refine (hB _ (by first | exact World.grownBy.refl _ _ | exact g2)).mono ?_; rintro e w5 ⟨rfl, hw⟩; have hw := hw.symm; subst hw)
    | (go_at_call 52; refine (hG _ (World.grownBy.refl _ _)).mono ?_; rintro e w2 ⟨rfl, g2⟩; clear c0 d0 c1 d1 c2 d2 c3 d3 c4 d4 c5 d5 c6 d6 c7 d7 c8 d8 c9 d9 c10 d10 c11 d11 c12 d12 c13 d13; obtain ⟨c0, c1, c2, c3, c4, c5, c6, c7, c8, c9, c10, c11, c12, c13⟩ := (b01.keep g2 (by simp)).cell14; obtain ⟨d0, d1, d2, d3, d4, d5, d6, d7, d8, d9, d10, d11, d12, d13⟩ := (b1.keep g2 (by simp)).cell14))
  go_ret
  exact ⟨rfl, grown_trans G1 g2⟩
end

section
theorem results_c1t2 {fn : Func} {p u v : Tmp} {ty : TypeId} (h : fn.results = #[.cell p ty, .tmp u, .tmp v]) (tmps : Array Value) (P : Program) (w : World) (a : Addr) (x y z : Value) (ha : tmps.getD p undef = .pointer (some a)) (hl : (loadVar ty a).run P w = .ok x w) (hy : tmps.getD u undef = y) (hz : tmps.getD v undef = z) :
    (results fn tmps).run P w = .ok (.tuple #[x, y, z]) w := by
  simp only [results, h]
  rw [Array.getD_eq_getD_getElem?] at ha hy hz
  simp [Sem.run_bind, Result.andThen]
  rw [ha]
  simp [asAddr, hl, hy, hz]
end

section
/-- an answer of a giver: the giver, what goes, an error -/
def RpA (w : World) (id : Int) (nm : ByteArray) (mo bu st : Int) (fi : Bool) (at' ti pa tr li : Int) (L : List Nat) (G : List (Int × Int)) (xs : List Nx) (E : Nat) (e : Ending) (w' : World) : Prop :=
  ∃ a c q d na nc, e = .returned (.tuple #[.agg (gvA id nm (.slice a L.length c) mo bu st fi at' (.slice q G.length d) ti pa tr li), .slice na xs.length nc, .int .i64 (E : Nat)]) ∧ Ans w' w.heap.size a L.length c L ∧ OwGi w' w.heap.size q G.length d G ∧ OwN w' w.heap.size na xs.length nc xs ∧ (∀ z, (Value.slice a L.length c).ownBlock = some z → ¬ Nbl na xs.length nc xs z) ∧ (∀ z, (Value.slice q G.length d).ownBlock = some z → ¬ Nbl na xs.length nc xs z) ∧ w.grownBy w' none
end

section
theorem nbl_nil {z : Nat} : ¬ Nbl none 0 0 [] z := fun h => by
  rcases h with h | ⟨x, hx, _⟩
  · cases h
  · cases hx
end
end Go.Proofs.Ytnimehkfnpepfaa
