import Derived.Test.YtnimehkfnpepfaaWh5
namespace Go.Proofs.Ytnimehkfnpepfaa
open Go.RowKit
set_option maxRecDepth 100000
set_option linter.unusedVariables false
set_option linter.unusedSimpArgs false

section
/-- a taker's cells -/
def tkA (id : Int) (kn : Bool) (nm : ByteArray) (si : Int) (en : Bool) (la su : Int) (ha fl : Value) (st ti pa tr li : Int) : Array Value := #[.int .i64 id, .bool kn, .string nm, .int .i64 si, .bool en, .int .i64 la, .int .i64 su, ha, fl, .int .i64 st, .int .i64 ti, .int .i64 pa, .int .i64 tr, .int .i64 li]
/-- what Expect answers -/
def ExA (id pa li : Int) (w w' : World) (e : Ending) : Prop :=
  e = .returned (.tuple #[.agg (tkA (ofX (dsE id pa li) id) false ⟨#[]⟩ 0 false 0 0 (.slice none 0 0) (.slice none 0 0) 0 0 (ofX (dsE id pa li) pa) 0 (ofX (dsE id pa li) li)), .int .i64 (dsE id pa li : Nat)]) ∧ w.grownBy w' none
set_option maxHeartbeats 8000000 in
theorem expect_any (id pa li : Int) (w : World) : Calls Try.prog 27 #[.int .i64 id, .int .i64 pa, .int .i64 li] w fun e w' => ExA id pa li w w' e := by
  have h0 := fun wz => wrongSide_any id pa li wz
  unfold dsE at h0
  have b0 := BxS.new w 48 #[.int .i64 0, .bool false, .string ⟨#[]⟩, .int .i64 0, .bool false, .int .i64 0, .int .i64 0, .slice none 0 0, .slice none 0 0, .int .i64 0, .int .i64 0, .int .i64 0, .int .i64 0, .int .i64 0]
  have g0 := World.grownBy_alloc w (.cells #[.int .i64 0, .bool false, .string ⟨#[]⟩, .int .i64 0, .bool false, .int .i64 0, .int .i64 0, .slice none 0 0, .slice none 0 0, .int .i64 0, .int .i64 0, .int .i64 0, .int .i64 0, .int .i64 0] 48) none
  have i14 := Try.info_tk
  generalize hw0 : w.alloc (.cells #[.int .i64 0, .bool false, .string ⟨#[]⟩, .int .i64 0, .bool false, .int .i64 0, .int .i64 0, .slice none 0 0, .slice none 0 0, .int .i64 0, .int .i64 0, .int .i64 0, .int .i64 0, .int .i64 0] 48) = w0 at b0 g0
  have hz0 : w0.heap.size = w.heap.size + 1 := by rw [← hw0]; simp
  have t2 : True := trivial
  unfold ExA dsE
  generalize dsB id pa li = b at h0 ⊢
  cases b
  case false =>
    go_enter Try.func27, Try.ntmps27
    go_wp2_with (first
      | (go_at_call 58; refine (h0 _).mono ?_; rintro e w1 ⟨rfl, rfl⟩)
      | (have _t := t2; (first | refine wpList_stX _ rfl _ (.tmp 6) (.tmp 9) rfl w.heap.size _ _ rfl rfl b0 i14 rfl (by simp [Value.oneCell']) ?_ | refine wpList_stX _ rfl _ (.tmp 6) (.tmp 10) rfl w.heap.size _ _ rfl rfl b0 i14 rfl (by simp [Value.oneCell']) ?_ | refine wpList_stX _ rfl _ (.tmp 6) (.tmp 11) rfl w.heap.size _ _ rfl rfl b0 i14 rfl (by simp [Value.oneCell']) ?_ | refine wpList_stX _ rfl _ (.tmp 6) (.tmp 12) rfl w.heap.size _ _ rfl rfl b0 i14 rfl (by simp [Value.oneCell']) ?_ | refine wpList_stX _ rfl _ (.tmp 6) (.tmp 13) rfl w.heap.size _ _ rfl rfl b0 i14 rfl (by simp [Value.oneCell']) ?_ | refine wpList_stX _ rfl _ (.tmp 6) (.tmp 14) rfl w.heap.size _ _ rfl rfl b0 i14 rfl (by simp [Value.oneCell']) ?_ | refine wpList_stX _ rfl _ (.tmp 6) (.tmp 15) rfl w.heap.size _ _ rfl rfl b0 i14 rfl (by simp [Value.oneCell']) ?_ | refine wpList_stX _ rfl _ (.tmp 6) (.tmp 16) rfl w.heap.size _ _ rfl rfl b0 i14 rfl (by simp [Value.oneCell']) ?_ | refine wpList_stX _ rfl _ (.tmp 6) (.tmp 17) rfl w.heap.size _ _ rfl rfl b0 i14 rfl (by simp [Value.oneCell']) ?_ | refine wpList_stX _ rfl _ (.tmp 6) (.tmp 18) rfl w.heap.size _ _ rfl rfl b0 i14 rfl (by simp [Value.oneCell']) ?_ | refine wpList_stX _ rfl _ (.tmp 6) (.tmp 19) rfl w.heap.size _ _ rfl rfl b0 i14 rfl (by simp [Value.oneCell']) ?_ | refine wpList_stX _ rfl _ (.tmp 6) (.tmp 20) rfl w.heap.size _ _ rfl rfl b0 i14 rfl (by simp [Value.oneCell']) ?_ | refine wpList_stX _ rfl _ (.tmp 6) (.tmp 21) rfl w.heap.size _ _ rfl rfl b0 i14 rfl (by simp [Value.oneCell']) ?_ | refine wpList_stX _ rfl _ (.tmp 6) (.tmp 22) rfl w.heap.size _ _ rfl rfl b0 i14 rfl (by simp [Value.oneCell']) ?_ | refine wpList_stX _ rfl _ (.tmp 6) (.tmp 23) rfl w.heap.size _ _ rfl rfl b0 i14 rfl (by simp [Value.oneCell']) ?_ | refine wpList_stX _ rfl _ (.tmp 6) (.tmp 24) rfl w.heap.size _ _ rfl rfl b0 i14 rfl (by simp [Value.oneCell']) ?_ | refine wpList_stX _ rfl _ (.tmp 6) (.tmp 25) rfl w.heap.size _ _ rfl rfl b0 i14 rfl (by simp [Value.oneCell']) ?_ | refine wpList_stX _ rfl _ (.tmp 6) (.tmp 26) rfl w.heap.size _ _ rfl rfl b0 i14 rfl (by simp [Value.oneCell']) ?_ | refine wpList_stX _ rfl _ (.tmp 6) (.tmp 27) rfl w.heap.size _ _ rfl rfl b0 i14 rfl (by simp [Value.oneCell']) ?_ | refine wpList_stX _ rfl _ (.tmp 6) (.tmp 28) rfl w.heap.size _ _ rfl rfl b0 i14 rfl (by simp [Value.oneCell']) ?_ | refine wpList_stX _ rfl _ (.tmp 6) (.tmp 29) rfl w.heap.size _ _ rfl rfl b0 i14 rfl (by simp [Value.oneCell']) ?_); clear t2; intro w9 b9 g9))
    refine bodyPost_ret (results_cell1t rfl _ _ _ ⟨w.heap.size, 0, none⟩ _ (.int .i64 2) rfl (BxS.load (t := 48) b9 Try.underlying48 i14) rfl) rfl ?_
    exact ⟨rfl, grown_far g0 g9 (fun q e => by have e : w.heap.size = q := Option.some.inj e; omega)⟩
  go_enter Try.func27, Try.ntmps27
  go_wp2_with (first
    | (go_at_call 58; refine (h0 _).mono ?_; rintro e w1 ⟨rfl, rfl⟩)
    | (have _t := t2; (first | refine wpList_stX _ rfl _ (.tmp 6) (.tmp 9) rfl w.heap.size _ _ rfl rfl b0 i14 rfl (by simp [Value.oneCell']) ?_ | refine wpList_stX _ rfl _ (.tmp 6) (.tmp 10) rfl w.heap.size _ _ rfl rfl b0 i14 rfl (by simp [Value.oneCell']) ?_ | refine wpList_stX _ rfl _ (.tmp 6) (.tmp 11) rfl w.heap.size _ _ rfl rfl b0 i14 rfl (by simp [Value.oneCell']) ?_ | refine wpList_stX _ rfl _ (.tmp 6) (.tmp 12) rfl w.heap.size _ _ rfl rfl b0 i14 rfl (by simp [Value.oneCell']) ?_ | refine wpList_stX _ rfl _ (.tmp 6) (.tmp 13) rfl w.heap.size _ _ rfl rfl b0 i14 rfl (by simp [Value.oneCell']) ?_ | refine wpList_stX _ rfl _ (.tmp 6) (.tmp 14) rfl w.heap.size _ _ rfl rfl b0 i14 rfl (by simp [Value.oneCell']) ?_ | refine wpList_stX _ rfl _ (.tmp 6) (.tmp 15) rfl w.heap.size _ _ rfl rfl b0 i14 rfl (by simp [Value.oneCell']) ?_ | refine wpList_stX _ rfl _ (.tmp 6) (.tmp 16) rfl w.heap.size _ _ rfl rfl b0 i14 rfl (by simp [Value.oneCell']) ?_ | refine wpList_stX _ rfl _ (.tmp 6) (.tmp 17) rfl w.heap.size _ _ rfl rfl b0 i14 rfl (by simp [Value.oneCell']) ?_ | refine wpList_stX _ rfl _ (.tmp 6) (.tmp 18) rfl w.heap.size _ _ rfl rfl b0 i14 rfl (by simp [Value.oneCell']) ?_ | refine wpList_stX _ rfl _ (.tmp 6) (.tmp 19) rfl w.heap.size _ _ rfl rfl b0 i14 rfl (by simp [Value.oneCell']) ?_ | refine wpList_stX _ rfl _ (.tmp 6) (.tmp 20) rfl w.heap.size _ _ rfl rfl b0 i14 rfl (by simp [Value.oneCell']) ?_ | refine wpList_stX _ rfl _ (.tmp 6) (.tmp 21) rfl w.heap.size _ _ rfl rfl b0 i14 rfl (by simp [Value.oneCell']) ?_ | refine wpList_stX _ rfl _ (.tmp 6) (.tmp 22) rfl w.heap.size _ _ rfl rfl b0 i14 rfl (by simp [Value.oneCell']) ?_ | refine wpList_stX _ rfl _ (.tmp 6) (.tmp 23) rfl w.heap.size _ _ rfl rfl b0 i14 rfl (by simp [Value.oneCell']) ?_ | refine wpList_stX _ rfl _ (.tmp 6) (.tmp 24) rfl w.heap.size _ _ rfl rfl b0 i14 rfl (by simp [Value.oneCell']) ?_ | refine wpList_stX _ rfl _ (.tmp 6) (.tmp 25) rfl w.heap.size _ _ rfl rfl b0 i14 rfl (by simp [Value.oneCell']) ?_ | refine wpList_stX _ rfl _ (.tmp 6) (.tmp 26) rfl w.heap.size _ _ rfl rfl b0 i14 rfl (by simp [Value.oneCell']) ?_ | refine wpList_stX _ rfl _ (.tmp 6) (.tmp 27) rfl w.heap.size _ _ rfl rfl b0 i14 rfl (by simp [Value.oneCell']) ?_ | refine wpList_stX _ rfl _ (.tmp 6) (.tmp 28) rfl w.heap.size _ _ rfl rfl b0 i14 rfl (by simp [Value.oneCell']) ?_ | refine wpList_stX _ rfl _ (.tmp 6) (.tmp 29) rfl w.heap.size _ _ rfl rfl b0 i14 rfl (by simp [Value.oneCell']) ?_); clear t2; intro w9 b9 g9))
  refine bodyPost_ret (results_cell1t rfl _ _ _ ⟨w.heap.size, 0, none⟩ _ (.int .i64 0) rfl (BxS.load (t := 48) b9 Try.underlying48 i14) rfl) rfl ?_
  exact ⟨rfl, grown_far g0 g9 (fun q e => by have e : w.heap.size = q := Option.some.inj e; omega)⟩
end
end Go.Proofs.Ytnimehkfnpepfaa
