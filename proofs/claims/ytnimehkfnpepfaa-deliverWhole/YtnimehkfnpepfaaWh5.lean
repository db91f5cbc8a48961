import Derived.Test.YtnimehkfnpepfaaWh4
namespace Go.Proofs.Ytnimehkfnpepfaa
open Go.RowKit
set_option maxRecDepth 100000
set_option linter.unusedVariables false
set_option linter.unusedSimpArgs false

section
theorem Ans.nil (w : World) (lo : Nat) : Ans w lo none 0 0 [] := ⟨World.ownsRow_nil _ _ _ _, (fun x h => by cases h), fun g h => by cases h⟩
theorem dclone_any (a : Option Addr) (n cap : Nat) (D : List Nat) (w : World) (hp : Rd w a n cap D) (hn : n ≤ 140737488355328) :
    Calls Try.prog 57 #[.slice a n cap] w fun e w' => ∃ a' c', e = .returned (.slice a' n c') ∧ Ans w' w.heap.size a' n c' D ∧ w.grownBy w' none := by
  cases a with
  | none =>
    have hc0 : cap = 0 := hp.nil rfl
    have hn0 : n = 0 := by have := hp.le; omega
    subst hc0 hn0
    have e : D = [] := List.eq_nil_of_length_eq_zero hp.len
    subst e
    have heq := fun w => Lib.run_eql_slice_nil (P := Try.prog) w 23 5 none 0 0 0 0 Try.underlying23
    go_enter Try.func57, Try.ntmps57
    go_wp2
    go_ret
    exact ⟨none, 0, rfl, Ans.nil _ _, World.grownBy.refl _ _⟩
  | some ad =>
    have gA := World.grownBy_alloc w (.cells #[] 5) none
    have hA := heap_alloc_new w (.cells #[] 5)
    have hown : Ans (w.alloc (.cells #[] 5)) w.heap.size (some ⟨w.heap.size, 0, none⟩) 0 0 [] := ⟨⟨rfl, .inr ⟨w.heap.size, 0, #[], rfl, Nat.zero_le _, hA, Nat.le_refl _, Nat.zero_le _, rfl, rfl⟩⟩, (fun x h => by cases h), fun g h => by have e : w.heap.size = g := Option.some.inj h; omega⟩
    have hpA := hp.keep gA
    have heq := fun w => Lib.run_eql_slice_nil (P := Try.prog) w 23 5 (some ad) n cap 0 0 Try.underlying23
    go_enter Try.func57, Try.ntmps57
    go_wp2_with (at_builtin; refine wpList_joinZ rfl _ _ rfl _ 0 0 w.heap.size [] rfl hown (by simp) _ n cap D rfl hpA (by omega) ?_; intro a' c' w2 hA2 hg2)
    go_ret
    rw [Nat.zero_add] at *
    exact ⟨a', c', rfl, hA2, grown_far gA hg2 (fun x hx => by have e : w.heap.size = x := Option.some.inj hx; omega)⟩
def ofX (E : Nat) (z : Int) : Int := if E = 0 then z else 0
def ofS (E : Nat) (s : ByteArray) : ByteArray := if E = 0 then s else ⟨#[]⟩
def ofL (E : Nat) (L : List Nat) : List Nat := if E = 0 then L else []
/-- what Offer answers -/
def OfA (id : Int) (nm : ByteArray) (mo bu pa li : Int) (E : Nat) (L : List Nat) (w w' : World) (e : Ending) : Prop :=
  ∃ a' c', e = .returned (.tuple #[.agg (gvA (ofX E id) (ofS E nm) (.slice a' (ofL E L).length c') (ofX E mo) (ofX E bu) 0 (decide (E = 0)) 0 (.slice none 0 0) 0 (ofX E pa) 0 (ofX E li)), .int .i64 (E : Nat)]) ∧ Ans w' w.heap.size a' (ofL E L).length c' (ofL E L) ∧ w.grownBy w' none
theorem ofA_bad (id : Int) (nm : ByteArray) (mo bu pa li : Int) (E : Nat) (L : List Nat) (w w' : World) (hE : E ≠ 0) (hg : w.grownBy w' none) : OfA id nm mo bu pa li E L w w' (.returned (.tuple #[.agg #[.int .i64 0, .string ⟨#[]⟩, .slice none 0 0, .int .i64 0, .int .i64 0, .int .i64 0, .bool false, .int .i64 0, .slice none 0 0, .int .i64 0, .int .i64 0, .int .i64 0, .int .i64 0], .int .i64 (E : Nat)])) := by
  refine ⟨none, 0, ?_, ?_, hg⟩
  · unfold ofX ofS ofL gvA; simp [hE]
  · unfold ofL; rw [if_neg hE]; exact Ans.nil _ _
theorem ofA_ok (id : Int) (nm : ByteArray) (mo bu pa li : Int) (n : Nat) (L : List Nat) (w w' : World) (a' : Option Addr) (c' : Nat) (hA : Ans w' w.heap.size a' n c' L) (hg : w.grownBy w' none) : OfA id nm mo bu pa li 0 L w w' (.returned (.tuple #[.agg #[.int .i64 id, .string nm, .slice a' n c', .int .i64 mo, .int .i64 bu, .int .i64 0, .bool true, .int .i64 0, .slice none 0 0, .int .i64 0, .int .i64 pa, .int .i64 0, .int .i64 li], .int .i64 0])) := by
  have hl := hA.len
  subst hl
  exact ⟨a', c', rfl, hA, hg⟩
set_option maxHeartbeats 4000000 in
theorem offer_any (id : Int) (nm : ByteArray) (a : Option Addr) (n cap : Nat) (mo bu pa li : Int) (L : List Nat) (w : World) (hL : Rd w a n cap L) :
    Calls Try.prog 25 #[.int .i64 id, .string nm, .slice a n cap, .int .i64 mo, .int .i64 bu, .int .i64 pa, .int .i64 li] w fun e w' => OfA id nm mo bu pa li (ofE id pa li mo bu nm.size n) L w w' e := by
  have h0 := fun wz => wrongOffer_any id nm a n cap mo bu 0 true 0 (.slice none 0 0) 0 pa 0 li wz
  have hn : ofE id pa li mo bu nm.size n = 0 → n ≤ 65536 := by
    intro h
    unfold ofE ofC at h
    by_cases h2 : n ≤ 65536
    · exact h2
    · exfalso
      rw [decide_eq_false h2, Bool.and_false] at h
      split at h <;> simp at h
  have b0 := BxS.new w 44 #[.int .i64 0, .string ⟨#[]⟩, .slice none 0 0, .int .i64 0, .int .i64 0, .int .i64 0, .bool false, .int .i64 0, .slice none 0 0, .int .i64 0, .int .i64 0, .int .i64 0, .int .i64 0]
  have g0 := World.grownBy_alloc w (.cells #[.int .i64 0, .string ⟨#[]⟩, .slice none 0 0, .int .i64 0, .int .i64 0, .int .i64 0, .bool false, .int .i64 0, .slice none 0 0, .int .i64 0, .int .i64 0, .int .i64 0, .int .i64 0] 44) none
  have i13 := Try.info_gv
  unfold gvA at h0
  generalize hw0 : w.alloc (.cells #[.int .i64 0, .string ⟨#[]⟩, .slice none 0 0, .int .i64 0, .int .i64 0, .int .i64 0, .bool false, .int .i64 0, .slice none 0 0, .int .i64 0, .int .i64 0, .int .i64 0, .int .i64 0] 44) = w0 at b0 g0
  have hz0 : w0.heap.size = w.heap.size + 1 := by rw [← hw0]; simp
  have b1 := BxS.new w0 44 #[.int .i64 id, .string nm, .slice a n cap, .int .i64 mo, .int .i64 bu, .int .i64 0, .bool true, .int .i64 0, .slice none 0 0, .int .i64 0, .int .i64 pa, .int .i64 0, .int .i64 li]
  have g1 := World.grownBy_alloc w0 (.cells #[.int .i64 id, .string nm, .slice a n cap, .int .i64 mo, .int .i64 bu, .int .i64 0, .bool true, .int .i64 0, .slice none 0 0, .int .i64 0, .int .i64 pa, .int .i64 0, .int .i64 li] 44) none
  generalize hw1 : w0.alloc (.cells #[.int .i64 id, .string nm, .slice a n cap, .int .i64 mo, .int .i64 bu, .int .i64 0, .bool true, .int .i64 0, .slice none 0 0, .int .i64 0, .int .i64 pa, .int .i64 0, .int .i64 li] 44) = w1 at b1 g1
  rw [hz0] at b1
  have b01 := b0.keep g1 (by simp)
  have G1 := grown_trans g0 g1
  obtain ⟨d0, d1, d2, d3, d4, d5, d6, d7, d8, d9, d10, d11, d12⟩ := b1.cell13
  have t1 : True := trivial
  generalize ofE id pa li mo bu nm.size n = E at h0 hn ⊢
  by_cases hE : E = 0
  · subst hE
    have hn := hn rfl
    go_enter Try.func25, Try.ntmps25
    go_wp2_with (first
      | (go_at_call 56; refine (h0 _).mono ?_; rintro e w2 ⟨rfl, g2⟩; clear d0 d1 d2 d3 d4 d5 d6 d7 d8 d9 d10 d11 d12)
      | (go_at_call 57; refine (dclone_any a n cap L _ (hL.keep (grown_trans G1 g2)) (by omega)).mono ?_; rintro e w3 ⟨a3, c3, rfl, hA3, g3⟩; have G23 := grown_trans g2 g3; have b3 := b1.keep G23 (by simp); have b03 := b01.keep G23 (by simp); have t2 : True := trivial)
      | (have _t := t2; refine wpList_stC _ rfl _ (.tmp 34) (.tmp 33) rfl (w.heap.size + 1) 2 _ _ _ _ rfl rfl b3 (stc_sl _ _ _ _ _) (by simp) rfl ?_; clear t2; intro w4 b4 g4; have b04 := b03.keep g4 (by simp); have b4' : BxS w4 (w.heap.size + 1) 44 #[.int .i64 id, .string nm, .slice a3 n c3, .int .i64 mo, .int .i64 bu, .int .i64 0, .bool true, .int .i64 0, .slice none 0 0, .int .i64 0, .int .i64 pa, .int .i64 0, .int .i64 li] := b4; have t3 : True := trivial)
      | (have _t := t3; refine wpList_ldX _ rfl _ (.tmp 16) rfl (w.heap.size + 1) _ rfl b4' Try.underlying44 i13 ?_; clear t3; have t4 : True := trivial)
      | (have _t := t4; refine wpList_stX _ rfl _ (.tmp 14) (.tmp 35) rfl w.heap.size _ _ rfl rfl b04 i13 rfl (by simp [Value.oneCell']) ?_; clear t4; intro w9 b9 g9))
    refine bodyPost_ret (results_cell1t rfl _ _ _ ⟨w.heap.size, 0, none⟩ _ (.int .i64 0) rfl (BxS.load (t := 44) b9 Try.underlying44 i13) rfl) rfl ?_
    have G3 : w.grownBy w3 none := grown_trans G1 G23
    have G4 : w.grownBy w4 none := grown_far G3 g4 (fun q e => by have e : w.heap.size + 1 = q := Option.some.inj e; omega)
    have G9 : w.grownBy w9 none := grown_far G4 g9 (fun q e => by have e : w.heap.size = q := Option.some.inj e; omega)
    have hs2 := g2.size; have hs1 := g1.size
    have hA4 := hA3.kept g4 (by
      rcases hA3.cases with ⟨rfl, _, _⟩ | ⟨g, rfl, hg, _⟩
      · exact .inl rfl
      · refine .inr fun e => ?_
        have e : g = w.heap.size + 1 := Option.some.inj e
        have h1 := b1.lt; omega)
    have hA9 := hA4.kept g9 (by
      rcases hA3.cases with ⟨rfl, _, _⟩ | ⟨g, rfl, hg, _⟩
      · exact .inl rfl
      · refine .inr fun e => ?_
        have e : g = w.heap.size := Option.some.inj e
        omega)
    refine ofA_ok id nm mo bu pa li n L w w9 a3 c3 ⟨hA9.own, hA9.byte, fun g h => ?_⟩ G9
    have := hA9.new g h
    omega
  · have hE' : ((E : Int) = 0) = False := by simp; omega
    have hE2 : ¬ ((E : Int) = 0) := by omega
    go_enter Try.func25, Try.ntmps25
    go_wp2_with (first
      | (go_at_call 56; refine (h0 _).mono ?_; rintro e w2 ⟨rfl, g2⟩; have b02 := b01.keep g2 (by simp); clear d0 d1 d2 d3 d4 d5 d6 d7 d8 d9 d10 d11 d12; have t2 : True := trivial)
      | (have _t := t2; refine wpList_stX _ rfl _ (.tmp 14) (.tmp 30) rfl w.heap.size _ _ rfl rfl b02 i13 rfl (by simp [Value.oneCell']) ?_; clear t2; intro w9 b9 g9))
    refine bodyPost_ret (results_cell1t rfl _ _ _ ⟨w.heap.size, 0, none⟩ _ (.int .i64 E) rfl (BxS.load (t := 44) b9 Try.underlying44 i13) rfl) rfl ?_
    exact ofA_bad id nm mo bu pa li E L w w9 hE (grown_far (grown_trans G1 g2) g9 (fun q e => by have e : w.heap.size = q := Option.some.inj e; omega))
end
end Go.Proofs.Ytnimehkfnpepfaa
