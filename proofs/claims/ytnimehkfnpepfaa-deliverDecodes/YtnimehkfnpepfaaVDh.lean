import Derived.Test.YtnimehkfnpepfaaVDg
namespace Go.Proofs.Ytnimehkfnpepfaa
open Go.RowKit
set_option maxRecDepth 100000
set_option linter.unusedVariables false
set_option linter.unusedSimpArgs false

theorem strB_size (L : List Nat) : (strB L).size = L.length := by
  unfold strB strOfNums
  simp [ByteArray.size]
def mayN (N : Nd) : Bool := ntB (N.kd : Int) (N.id : Int) N.nm.length (N.si : Int) (N.su : Int) (N.at' : Int) N.da.length N.ga.length (N.o : Int) (N.co : Int) (alG (gpF N.ga) 65536 N.ga.length)
/-- what Decode answers -/
def decN (D : List Nat) : Option Nd := match rdN D with
  | some N => if mayN N = true then some N else none
  | none => none
theorem OwGp.rd {w : World} {lo : Nat} {q : Option Addr} {m d : Nat} {G : List (Nat × Nat)} (h : OwGp w lo q m d G) : RdG w q m d (gpF G) := by
  obtain ⟨q', c', e, h1, _⟩ := own_rdG h.own
  cases e
  exact h1
theorem ans_lt {w : World} {lo : Nat} {a : Option Addr} {n c : Nat} {L : List Nat} (h : Ans w lo a n c L) {g : Nat} (e : (Value.slice a n c).ownBlock = some g) : g < w.heap.size := by
  rcases h.own.2 with ⟨h1, _⟩ | ⟨g', cap', cur, h1, _, h3, _⟩
  · rw [h1] at e; cases e
  · rw [h1] at e
    have e : g' = g := Option.some.inj e
    subst e
    exact (Array.getElem?_eq_some_iff.1 h3).1
set_option maxHeartbeats 8000000 in
theorem decode_any (a : Option Addr) (n c : Nat) (D : List Nat) (w : World) (hD : Rd w a n c D) :
    Calls Try.prog 18 #[.slice a n c] w fun e w' => RdNA w (decN D) e w' ∧ w.grownBy w' none := by
  have b2 := BxS.new w 27 #[.int .i64 0, .int .i64 0, .string ⟨#[]⟩, .int .i64 0, .int .i64 0, .int .i64 0, .slice none 0 0, .slice none 0 0, .int .i64 0, .int .i64 0]
  have y1 := World.grownBy_alloc w (.cells #[.int .i64 0, .int .i64 0, .string ⟨#[]⟩, .int .i64 0, .int .i64 0, .int .i64 0, .slice none 0 0, .slice none 0 0, .int .i64 0, .int .i64 0] 27) none
  have l2 := b2.lt
  generalize hw1 : w.alloc (.cells #[.int .i64 0, .int .i64 0, .string ⟨#[]⟩, .int .i64 0, .int .i64 0, .int .i64 0, .slice none 0 0, .slice none 0 0, .int .i64 0, .int .i64 0] 27) = w1 at b2 y1 l2
  have i10 := Try.info_nt
  have kR := readNote_any a n c D w1 (hD.keep y1)
  cases hN : rdN D with
  | none =>
    rw [hN] at kR
    have hd : decN D = none := by unfold decN; rw [hN]
    rw [hd]
    have s0 : True := trivial
    go_enter Try.func18, Try.ntmps18
    go_wp2_with (first
      | (go_at_call 54; have _t := s0; clear s0; refine kR.mono ?_; rintro e w2 ⟨he, y2⟩; have he : e = .returned (.tuple #[.agg ntZ, .int .i64 8]) := he; subst he; have b22 := b2.keep y2 (by simp); have b4 := BxS.new w2 27 #[.int .i64 0, .int .i64 0, .string ⟨#[]⟩, .int .i64 0, .int .i64 0, .int .i64 0, .slice none 0 0, .slice none 0 0, .int .i64 0, .int .i64 0]; have y3 := World.grownBy_alloc w2 (.cells #[.int .i64 0, .int .i64 0, .string ⟨#[]⟩, .int .i64 0, .int .i64 0, .int .i64 0, .slice none 0 0, .slice none 0 0, .int .i64 0, .int .i64 0] 27) none; generalize hw3 : w2.alloc (.cells #[.int .i64 0, .int .i64 0, .string ⟨#[]⟩, .int .i64 0, .int .i64 0, .int .i64 0, .slice none 0 0, .slice none 0 0, .int .i64 0, .int .i64 0] 27) = w3 at b4 y3; have b23 := b22.keep y3 (by simp); have s1 : True := trivial)
      | (have _t := s1; clear s1; refine wpList_stX _ rfl _ (.tmp 4) (.tmp 9) rfl w2.heap.size _ _ rfl rfl b4 i10 rfl (by simp [ntZ, ntA, Value.oneCell']) ?_; intro w4 b44 u4; have b24 := b23.keep u4 (fun e => by have e := Option.some.inj e; have := b22.lt; omega); have s2 : True := trivial)
      | (have _t := s2; clear s2; refine wpList_stX _ rfl _ (.tmp 2) (.tmp 18) rfl w.heap.size _ _ rfl rfl b24 i10 rfl (by simp [Value.oneCell']) ?_; intro w5 b25 u5))
    refine bodyPost_ret (results_cell1t rfl _ _ _ ⟨w.heap.size, 0, none⟩ _ (.int .i64 8) rfl (BxS.load (t := 27) b25 Try.underlying27 Try.info_nt) rfl) rfl ?_
    exact ⟨rfl, grown_far (grown_far (grown_trans (grown_trans y1 y2) y3) u4 (fun q e => by have e := Option.some.inj e; have := y2.size; omega)) u5 (fun q e => by have e := Option.some.inj e; omega)⟩
  | some N =>
    rw [hN] at kR
    cases hm : mayN N with
    | true =>
      have hd : decN D = some N := by unfold decN; rw [hN]; simp only [hm]; rfl
      rw [hd]
      have s0 : True := trivial
      go_enter Try.func18, Try.ntmps18
      go_wp2_with (first
        | (go_at_call 54; have _t := s0; clear s0; refine kR.mono ?_; rintro e w2 ⟨⟨v, rfl, a5, n5, c5, q5, m5, d5, rfl, hA5, hO5⟩, y2⟩; have b22 := b2.keep y2 (by simp); have b4 := BxS.new w2 27 #[.int .i64 0, .int .i64 0, .string ⟨#[]⟩, .int .i64 0, .int .i64 0, .int .i64 0, .slice none 0 0, .slice none 0 0, .int .i64 0, .int .i64 0]; have y3 := World.grownBy_alloc w2 (.cells #[.int .i64 0, .int .i64 0, .string ⟨#[]⟩, .int .i64 0, .int .i64 0, .int .i64 0, .slice none 0 0, .slice none 0 0, .int .i64 0, .int .i64 0] 27) none; generalize hw3 : w2.alloc (.cells #[.int .i64 0, .int .i64 0, .string ⟨#[]⟩, .int .i64 0, .int .i64 0, .int .i64 0, .slice none 0 0, .slice none 0 0, .int .i64 0, .int .i64 0] 27) = w3 at b4 y3; have b23 := b22.keep y3 (by simp); have s1 : True := trivial)
        | (have _t := s1; clear s1; refine wpList_stX _ rfl _ (.tmp 4) (.tmp 9) rfl w2.heap.size _ _ rfl rfl b4 i10 rfl (by simp [ntA, Value.oneCell']) ?_; intro w4 b44 u4; unfold ntA at b44; have b24 := b23.keep u4 (fun e => by have e := Option.some.inj e; have := b22.lt; omega); have hA4 := (hA5.keep y3).kept u4 (.inr (fun e => by have := hA5.new _ e; obtain ⟨g9, h9⟩ : ∃ g9, (Value.slice a5 n5 c5).ownBlock = some g9 := ⟨_, e⟩; have hlt9 := ans_lt hA5 h9; rw [h9] at e; have e := Option.some.inj e; omega)); have hO4 := (hO5.keep y3).bx b4 (by decide) u4; obtain ⟨z0, z1, z2, z3, z4, z5, z6, z7, z8, z9⟩ := b44.cell10; have s2 : True := trivial)
        | (go_at_call 49; have _t := s2; clear s2; refine (noteMay_any _ _ _ _ _ _ a5 n5 c5 q5 m5 d5 _ _ (gpF N.ga) w4 hO4.rd).mono ?_; rintro e w5 ⟨he, y5⟩; rw [strB_size, ← hA5.len, ← hO5.len] at he; have he : e = .returned (.bool (mayN N)) := he; rw [hm] at he; subst he; have b45 := b44.keep y5 (by simp); have b25 := b24.keep y5 (by simp); have s3 : True := trivial)
        | (have _t := s3; clear s3; refine wpList_ldX _ rfl _ (.tmp 4) rfl w2.heap.size _ rfl b45 Try.underlying27 i10 ?_; have s4 : True := trivial)
        | (have _t := s4; clear s4; refine wpList_stX _ rfl _ (.tmp 2) (.tmp 19) rfl w.heap.size _ _ rfl rfl b25 i10 rfl (by simp [Value.oneCell']) ?_; intro w6 b26 u6))
      refine bodyPost_ret (results_cell1t rfl _ _ _ ⟨w.heap.size, 0, none⟩ _ (.int .i64 0) rfl (BxS.load (t := 27) b26 Try.underlying27 Try.info_nt) rfl) rfl ?_
      exact ⟨⟨_, rfl, a5, n5, c5, q5, m5, d5, rfl, ((hA4.keep y5).kept u6 (.inr (fun e => by have := hA5.new _ e; omega))).wide (by omega), ((hO4.keep y5).bx b25 (by decide) u6).wide (by omega)⟩, grown_far (grown_trans (grown_far (grown_trans (grown_trans y1 y2) y3) u4 (fun q e => by have e := Option.some.inj e; have := y2.size; omega)) y5) u6 (fun q e => by have e := Option.some.inj e; omega)⟩
    | false =>
      have hd : decN D = none := by unfold decN; rw [hN]; simp only [hm]; rfl
      rw [hd]
      have s0 : True := trivial
      go_enter Try.func18, Try.ntmps18
      go_wp2_with (first
        | (go_at_call 54; have _t := s0; clear s0; refine kR.mono ?_; rintro e w2 ⟨⟨v, rfl, a5, n5, c5, q5, m5, d5, rfl, hA5, hO5⟩, y2⟩; have b22 := b2.keep y2 (by simp); have b4 := BxS.new w2 27 #[.int .i64 0, .int .i64 0, .string ⟨#[]⟩, .int .i64 0, .int .i64 0, .int .i64 0, .slice none 0 0, .slice none 0 0, .int .i64 0, .int .i64 0]; have y3 := World.grownBy_alloc w2 (.cells #[.int .i64 0, .int .i64 0, .string ⟨#[]⟩, .int .i64 0, .int .i64 0, .int .i64 0, .slice none 0 0, .slice none 0 0, .int .i64 0, .int .i64 0] 27) none; generalize hw3 : w2.alloc (.cells #[.int .i64 0, .int .i64 0, .string ⟨#[]⟩, .int .i64 0, .int .i64 0, .int .i64 0, .slice none 0 0, .slice none 0 0, .int .i64 0, .int .i64 0] 27) = w3 at b4 y3; have b23 := b22.keep y3 (by simp); have s1 : True := trivial)
        | (have _t := s1; clear s1; refine wpList_stX _ rfl _ (.tmp 4) (.tmp 9) rfl w2.heap.size _ _ rfl rfl b4 i10 rfl (by simp [ntA, Value.oneCell']) ?_; intro w4 b44 u4; unfold ntA at b44; have b24 := b23.keep u4 (fun e => by have e := Option.some.inj e; have := b22.lt; omega); have hA4 := (hA5.keep y3).kept u4 (.inr (fun e => by have := hA5.new _ e; obtain ⟨g9, h9⟩ : ∃ g9, (Value.slice a5 n5 c5).ownBlock = some g9 := ⟨_, e⟩; have hlt9 := ans_lt hA5 h9; rw [h9] at e; have e := Option.some.inj e; omega)); have hO4 := (hO5.keep y3).bx b4 (by decide) u4; obtain ⟨z0, z1, z2, z3, z4, z5, z6, z7, z8, z9⟩ := b44.cell10; have s2 : True := trivial)
        | (go_at_call 49; have _t := s2; clear s2; refine (noteMay_any _ _ _ _ _ _ a5 n5 c5 q5 m5 d5 _ _ (gpF N.ga) w4 hO4.rd).mono ?_; rintro e w5 ⟨he, y5⟩; rw [strB_size, ← hA5.len, ← hO5.len] at he; have he : e = .returned (.bool (mayN N)) := he; rw [hm] at he; subst he; have b45 := b44.keep y5 (by simp); have b25 := b24.keep y5 (by simp); have s3 : True := trivial)
        | (have _t := s3; clear s3; refine wpList_stX _ rfl _ (.tmp 2) (.tmp 18) rfl w.heap.size _ _ rfl rfl b25 i10 rfl (by simp [Value.oneCell']) ?_; intro w6 b26 u6))
      refine bodyPost_ret (results_cell1t rfl _ _ _ ⟨w.heap.size, 0, none⟩ _ (.int .i64 8) rfl (BxS.load (t := 27) b26 Try.underlying27 Try.info_nt) rfl) rfl ?_
      exact ⟨rfl, grown_far (grown_trans (grown_far (grown_trans (grown_trans y1 y2) y3) u4 (fun q e => by have e := Option.some.inj e; have := y2.size; omega)) y5) u6 (fun q e => by have e := Option.some.inj e; omega)⟩
end Go.Proofs.Ytnimehkfnpepfaa
