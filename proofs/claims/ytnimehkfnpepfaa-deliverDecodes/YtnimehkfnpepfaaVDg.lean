import Derived.Defers
import Derived.Recover
import Derived.Stop.Asserts
import Derived.Lib.IfaceEq
import Derived.Test.YtnimehkfnpepfaaVDf
namespace Go.Proofs.Ytnimehkfnpepfaa
open Go.RowKit
set_option maxRecDepth 100000
set_option linter.unusedVariables false
set_option linter.unusedSimpArgs false

theorem ta_early (x : Int) (xT : TypeId) (w : World) : (Instr.typeAssert (.iface 120 (.int .i64 x)) xT 120 true).run Try.prog w = .ok (.tuple #[.int .i64 x, .bool true]) w := by
  simp [Instr.typeAssert, run_underlying Try.underlying120, go_sem, Result.andThen]
theorem early_idle (p q : Addr) (w : World) :
    CallsD Try.prog 88 #[.pointer (some p), .pointer (some q)] .returning w fun e u' w' => e = .returned (.tuple #[]) ∧ u' = .returning ∧ w' = w := by
  refine callsD_of_wpS Try.func88 rfl fun c₀ cs hu => ?_
  apply wpS_seq
  apply wpS_region
  simp [wpOpsS, go_sem, recoverD, hu, Try.ntmps88, Exit.thenS]
  refine wpS_of_wp ?_
  go_wp2
  cases c₀
  simp_all [bodyPostS, results, Try.results88]
set_option maxHeartbeats 4000000 in
theorem early_pan (g2 g3 : Nat) (x : Int) (cs2 : Array Value) (e0 : Value) (w : World) (b2 : BxS w g2 27 cs2) (hs : cs2.size = 10) (b3 : BxS w g3 25 #[e0]) :
    CallsD Try.prog 88 #[.pointer (some ⟨g2, 0, none⟩), .pointer (some ⟨g3, 0, none⟩)] (.panicking [{ v := .iface 120 (.int .i64 x), recovered := false }]) w fun e u' w' =>
      e = .returned (.tuple #[]) ∧ u' = .panicking [{ v := .iface 120 (.int .i64 x), recovered := true }] ∧ BxS w' g2 27 ntZ ∧ BxS w' g3 25 #[.int .i64 8] ∧ ∃ w1, w.grownBy w1 (some g2) ∧ w1.grownBy w' (some g3) := by
  refine callsD_of_wpS Try.func88 rfl fun c₀ cs hu => ?_
  apply wpS_seq
  apply wpS_region
  simp [wpOpsS, go_sem, recoverD, hu, Try.ntmps88, Exit.thenS]
  refine wpS_of_wp ?_
  have i10 := Try.info_nt
  have hta := fun xT wz => ta_early x xT wz
  have c3 : w.cell? ⟨g3, 0, none⟩ = some e0 := b3.cell 0 (by show 0 < 1; decide)
  change Code.wp Try.prog _ _ (Act.mk #[.pointer (some ⟨g2, 0, none⟩), .pointer (some ⟨g3, 0, none⟩), undef, undef, undef, .iface 120 (.int .i64 x), undef, undef, undef, undef, undef, undef] []) w
  have s0 : True := trivial
  go_wp2_with (have _t := s0; clear s0; refine wpList_stX _ rfl _ (.tmp 0) (.tmp 11) rfl g2 _ _ rfl rfl b2 i10 hs (by simp [Value.oneCell']) ?_; intro w3 b23 u3; have b33 := b3.keep u3 (fun e => BxS.apart b3 b2 (by decide) (Option.some.inj e)); have c33 : w3.cell? ⟨g3, 0, none⟩ = some e0 := b33.cell 0 (by show 0 < 1; decide); have f33 := b33.free 0)
  have fin : BxS (w3.setCell ⟨g3, 0, none⟩ (.int .i64 8)) g2 27 ntZ ∧ BxS (w3.setCell ⟨g3, 0, none⟩ (.int .i64 8)) g3 25 #[.int .i64 8] ∧ ∃ w1, w.grownBy w1 (some g2) ∧ w1.grownBy (w3.setCell ⟨g3, 0, none⟩ (.int .i64 8)) (some g3) :=
    ⟨b23.keep (grown_set w3 g3 0 _) (fun e => BxS.apart b23 b33 (by decide) (Option.some.inj e)), b33.set 0 _, w3, u3, grown_set w3 g3 0 _⟩
  simp [bodyPostS, results, Try.results88]
  exact fin
theorem results_cell2 {fn : Func} {p q : Tmp} {ty tz : TypeId} (h : fn.results = #[.cell p ty, .cell q tz]) (tmps : Array Value) (P : Program) (w : World) (a b : Addr) (v y : Value) (ha : tmps.getD p undef = .pointer (some a)) (hl : (loadVar ty a).run P w = .ok v w) (hb : tmps.getD q undef = .pointer (some b)) (hy : (loadVar tz b).run P w = .ok y w) :
    (results fn tmps).run P w = .ok (.tuple #[v, y]) w := by
  simp only [results, h]
  rw [Array.getD_eq_getD_getElem?] at ha hb
  simp [Sem.run_bind, Result.andThen]
  rw [ha, hb]
  simp [asAddr, hl, hy]
theorem load_errno {w : World} {g : Nat} {e : Int} (h : BxS w g 25 #[.int .i64 e]) : (loadVar 25 ⟨g, 0, none⟩).run Try.prog w = .ok (.int .i64 e) w := by
  have hc : w.cell? ⟨g, 0, none⟩ = some (.int .i64 e) := h.cell 0 (by show 0 < 1; decide)
  simp [go_sem, hc]
theorem OwGp.wide {w : World} {lo lo' : Nat} {q : Option Addr} {m d : Nat} {G : List (Nat × Nat)} (h : OwGp w lo q m d G) (hl : lo' ≤ lo) : OwGp w lo' q m d G := ⟨h.own, h.len, fun g e => Nat.le_trans hl (h.new g e)⟩
/-- what is read of bytes -/
def rdN (D : List Nat) : Option Nd := if 1031 < D.length then none else match noteR D with
  | some (N, []) => some N
  | _ => none
def RdNA (w : World) (oN : Option Nd) (e : Ending) (w' : World) : Prop := match oN with
  | some N => ∃ v, e = .returned (.tuple #[v, .int .i64 0]) ∧ NtD w' w.heap.size N v
  | none => e = .returned (.tuple #[.agg ntZ, .int .i64 8])
set_option maxHeartbeats 8000000 in
theorem readNote_any (a : Option Addr) (n c : Nat) (D : List Nat) (w : World) (hD : Rd w a n c D) :
    Calls Try.prog 54 #[.slice a n c] w fun e w' => RdNA w (rdN D) e w' ∧ w.grownBy w' none := by
  have hmf : ∀ (fn : Fn) (first cap : Array Value) (w : World), (Instr.makeFunc fn first cap).run Try.prog w = .ok (.func fn first cap) w := fun _ _ _ _ => rfl
  have hn := hD.len
  have b2 := BxS.new w 27 #[.int .i64 0, .int .i64 0, .string ⟨#[]⟩, .int .i64 0, .int .i64 0, .int .i64 0, .slice none 0 0, .slice none 0 0, .int .i64 0, .int .i64 0]
  have y1 := World.grownBy_alloc w (.cells #[.int .i64 0, .int .i64 0, .string ⟨#[]⟩, .int .i64 0, .int .i64 0, .int .i64 0, .slice none 0 0, .slice none 0 0, .int .i64 0, .int .i64 0] 27) none
  have hsz : (w.alloc (.cells #[.int .i64 0, .int .i64 0, .string ⟨#[]⟩, .int .i64 0, .int .i64 0, .int .i64 0, .slice none 0 0, .slice none 0 0, .int .i64 0, .int .i64 0] 27)).heap.size = w.heap.size + 1 := by simp
  generalize hw1 : w.alloc (.cells #[.int .i64 0, .int .i64 0, .string ⟨#[]⟩, .int .i64 0, .int .i64 0, .int .i64 0, .slice none 0 0, .slice none 0 0, .int .i64 0, .int .i64 0] 27) = w1 at b2 y1 hsz
  have b3 := BxS.new w1 25 #[.int .i64 0]
  rw [hsz] at b3
  have y2 := World.grownBy_alloc w1 (.cells #[.int .i64 0] 25) none
  generalize hw2 : w1.alloc (.cells #[.int .i64 0] 25) = w2 at b3 y2
  have b22 := b2.keep y2 (by simp)
  have i10 := Try.info_nt
  by_cases hbig : 1031 < n
  · have db : (1031 : Int) < (n : Int) := by omega
    have s0 : True := trivial
    go_enter_defers Try.func54, Try.ntmps54
    go_wp2_with (have _t := s0; clear s0; refine wpList_stX _ rfl _ (.tmp 2) (.tmp 8) rfl w.heap.size _ _ rfl rfl b22 i10 rfl (by simp [Value.oneCell']) ?_; intro w3 b23 u3; have b33 := b3.keep u3 (fun e => BxS.apart b3 b22 (by decide) (Option.some.inj e)); have c33 : w3.cell? ⟨w.heap.size + 1, 0, none⟩ = some (.int .i64 0) := b33.cell 0 (by show 0 < 1; decide); have f33 := b33.free 0)
    have u4 := grown_set w3 (w.heap.size + 1) 0 (.int .i64 8)
    have b24 := b23.keep u4 (fun e => BxS.apart b23 b33 (by decide) (Option.some.inj e))
    have b34 := b33.set 0 (.int .i64 8)
    refine ⟨_, results_cell2 rfl _ _ _ ⟨w.heap.size, 0, none⟩ ⟨w.heap.size + 1, 0, none⟩ _ _ rfl (BxS.load (t := 27) b24 Try.underlying27 Try.info_nt) rfl (load_errno b34), ?_, ?_⟩
    · unfold rdN
      rw [if_pos (by omega)]
      rfl
    · exact grown_far (grown_far (grown_trans y1 y2) u3 (fun q e => by have e := Option.some.inj e; omega)) u4 (fun q e => by have e := Option.some.inj e; omega)
  · have db : ¬ (1031 : Int) < (n : Int) := by omega
    have b4 := BxS.new w2 123 #[.slice a n c]
    have y3 := World.grownBy_alloc w2 (.cells #[.slice a n c] 123) none
    have hs2 : w2.heap.size = w.heap.size + 2 := by rw [← hw2]; simp [hsz]
    rw [hs2] at b4
    generalize hw3 : w2.alloc (.cells #[.slice a n c] 123) = w3 at b4 y3
    have b23 := b22.keep y3 (by simp)
    have b33 := b3.keep y3 (by simp)
    have hz3 := b4.lt
    have G3 := grown_trans (grown_trans y1 y2) y3
    have hR3 : Rdr w w3 (w.heap.size + 2) D := ⟨by omega, ⟨a, n, c, b4, hD⟩, G3⟩
    have kN := note_any w w3 (w.heap.size + 2) D hR3 (by omega)
    have hrd : rdN D = match noteR D with | some (N, []) => some N | _ => none := by unfold rdN; rw [if_neg (by omega)]
    have HRD : Hid _ := hrd
    clear hrd
    cases hN : noteR D with
    | none =>
      rw [hN] at kN
      have s0 : True := trivial
      go_enter_defers Try.func54, Try.ntmps54
      go_wp2_with (go_at_call 89; have _t := s0; clear s0; refine kN.mono ?_; rintro e w4 ⟨⟨x, rfl⟩, y4⟩)
      have b24 := b23.keep y4 (fun e => by have e := Option.some.inj e; omega)
      have b34 := b33.keep y4 (fun e => by have e := Option.some.inj e; omega)
      refine leaves_cons (f := 88) (args := #[.pointer (some ⟨w.heap.size, 0, none⟩), .pointer (some ⟨w.heap.size + 1, 0, none⟩)]) (by simp) (by simp [go_sem]) ?_
      refine (early_pan w.heap.size (w.heap.size + 1) x _ _ w4 b24 rfl b34).mono ?_
      rintro e u' w5 ⟨rfl, rfl, c2, c3, w6, v1, v2⟩
      refine ⟨_, results_cell2 rfl _ _ _ ⟨w.heap.size, 0, none⟩ ⟨w.heap.size + 1, 0, none⟩ _ _ rfl (BxS.load (t := 27) c2 Try.underlying27 Try.info_nt) rfl (load_errno c3), ?_, ?_⟩
      · rw [HRD.out, hN]
        rfl
      · exact grown_far (grown_far (grown_far G3 y4 (fun q e => by have e := Option.some.inj e; omega)) v1 (fun q e => by have e := Option.some.inj e; omega)) v2 (fun q e => by have e := Option.some.inj e; omega)
    | some P =>
      obtain ⟨N, R⟩ := P
      rw [hN] at kN
      have s0 : True := trivial
      have ARM : True := trivial
      cases R with
      | nil =>
        go_enter_defers Try.func54, Try.ntmps54
        go_wp2_with (first
          | (go_at_call 89; have _t := s0; clear s0; refine kN.mono ?_; rintro e w4 ⟨⟨v, rfl, a5, n5, c5, q5, m5, d5, rfl, hA5, hO5⟩, hR4, y4⟩; have b24 := b23.keep y4 (fun e => by have e := Option.some.inj e; omega); have b34 := b33.keep y4 (fun e => by have e := Option.some.inj e; omega); have s1 : True := trivial)
          | (have _t := s1; clear s1; refine wpList_stX _ rfl _ (.tmp 2) (.tmp 14) rfl w.heap.size _ _ rfl rfl b24 i10 rfl (by simp [ntA, Value.oneCell']) ?_; intro w5 b25 u5; have hR5 := hR4.bx b24 u5 (Nat.le_refl _); obtain ⟨a6, n6, c6, b6, r6⟩ := hR5.ex; have cr : w5.cell? ⟨w.heap.size + 2, 0, none⟩ = some (.slice a6 n6 c6) := b6.cell 0 (by show 0 < 1; decide); have hn6 : n6 = 0 := r6.len.symm; subst hn6; have b35 := b34.keep u5 (fun e => by have e := Option.some.inj e; omega); have s2 : True := trivial)
          | (have _t := s2; clear s2; refine wpList_ldX _ rfl _ (.tmp 2) rfl w.heap.size _ rfl b25 Try.underlying27 i10 ?_; have s3 : True := trivial)
          | (have _t := s3; clear s3; refine wpList_stX _ rfl _ (.tmp 2) (.tmp 22) rfl w.heap.size _ _ rfl rfl b25 i10 rfl (by simp [ntA, Value.oneCell']) ?_; intro w6 b26 u6; have b36 := b35.keep u6 (fun e => by have e := Option.some.inj e; omega); have c36 : w6.cell? ⟨w.heap.size + 1, 0, none⟩ = some (.int .i64 0) := b36.cell 0 (by show 0 < 1; decide); have f36 := b36.free 0))
        have u7 := grown_set w6 (w.heap.size + 1) 0 (.int .i64 0)
        have b27 := b26.keep u7 (fun e => by have e := Option.some.inj e; omega)
        have b37 := b36.set 0 (.int .i64 0)
        refine leaves_cons (f := 88) (args := #[.pointer (some ⟨w.heap.size, 0, none⟩), .pointer (some ⟨w.heap.size + 1, 0, none⟩)]) (by simp) (by simp [go_sem]) ?_
        refine (early_idle ⟨w.heap.size, 0, none⟩ ⟨w.heap.size + 1, 0, none⟩ _).mono ?_
        rintro e u' w9 ⟨rfl, rfl, rfl⟩
        refine ⟨_, results_cell2 rfl _ _ _ ⟨w.heap.size, 0, none⟩ ⟨w.heap.size + 1, 0, none⟩ _ _ rfl (BxS.load (t := 27) b27 Try.underlying27 Try.info_nt) rfl (load_errno b37), ?_, ?_⟩
        · rw [HRD.out, hN]
          refine ⟨_, rfl, a5, n5, c5, q5, m5, d5, rfl, ?_, ?_⟩
          · exact (((hA5.kept u5 (.inr (fun e => by have := hA5.new _ e; omega))).kept u6 (.inr (fun e => by have := hA5.new _ e; omega))).kept u7 (.inr (fun e => by have := hA5.new _ e; omega))).wide (by omega)
          · exact (((hO5.bx b24 (by decide) u5).bx b25 (by decide) u6).bx b36 (by decide) u7).wide (by omega)
        · exact grown_far (grown_far (grown_far (grown_far G3 y4 (fun q e => by have e := Option.some.inj e; omega)) u5 (fun q e => by have e := Option.some.inj e; omega)) u6 (fun q e => by have e := Option.some.inj e; omega)) u7 (fun q e => by have e := Option.some.inj e; omega)
      | cons r R =>
        go_enter_defers Try.func54, Try.ntmps54
        go_wp2_with (first
          | (go_at_call 89; have _t := s0; clear s0; refine kN.mono ?_; rintro e w4 ⟨⟨v, rfl, a5, n5, c5, q5, m5, d5, rfl, hA5, hO5⟩, hR4, y4⟩; have b24 := b23.keep y4 (fun e => by have e := Option.some.inj e; omega); have b34 := b33.keep y4 (fun e => by have e := Option.some.inj e; omega); have s1 : True := trivial)
          | (have _t := s1; clear s1; refine wpList_stX _ rfl _ (.tmp 2) (.tmp 14) rfl w.heap.size _ _ rfl rfl b24 i10 rfl (by simp [ntA, Value.oneCell']) ?_; intro w5 b25 u5; have hR5 := hR4.bx b24 u5 (Nat.le_refl _); obtain ⟨a6, n6, c6, b6, r6⟩ := hR5.ex; have cr : w5.cell? ⟨w.heap.size + 2, 0, none⟩ = some (.slice a6 n6 c6) := b6.cell 0 (by show 0 < 1; decide); have hn6 : (0 : Int) < (n6 : Int) := (by have h9 := r6.len; rw [List.length_cons] at h9; omega); have b35 := b34.keep u5 (fun e => by have e := Option.some.inj e; omega); have s2 : True := trivial)
          | (have _t := s2; clear s2; refine wpList_stX _ rfl _ (.tmp 2) (.tmp 21) rfl w.heap.size _ _ rfl rfl b25 i10 rfl (by simp [Value.oneCell']) ?_; intro w6 b26 u6; have b36 := b35.keep u6 (fun e => by have e := Option.some.inj e; omega); have c36 : w6.cell? ⟨w.heap.size + 1, 0, none⟩ = some (.int .i64 0) := b36.cell 0 (by show 0 < 1; decide); have f36 := b36.free 0))
        have u7 := grown_set w6 (w.heap.size + 1) 0 (.int .i64 8)
        have b27 := b26.keep u7 (fun e => by have e := Option.some.inj e; omega)
        have b37 := b36.set 0 (.int .i64 8)
        refine leaves_cons (f := 88) (args := #[.pointer (some ⟨w.heap.size, 0, none⟩), .pointer (some ⟨w.heap.size + 1, 0, none⟩)]) (by simp) (by simp [go_sem]) ?_
        refine (early_idle ⟨w.heap.size, 0, none⟩ ⟨w.heap.size + 1, 0, none⟩ _).mono ?_
        rintro e u' w9 ⟨rfl, rfl, rfl⟩
        refine ⟨_, results_cell2 rfl _ _ _ ⟨w.heap.size, 0, none⟩ ⟨w.heap.size + 1, 0, none⟩ _ _ rfl (BxS.load (t := 27) b27 Try.underlying27 Try.info_nt) rfl (load_errno b37), ?_, ?_⟩
        · rw [HRD.out, hN]
          rfl
        · exact grown_far (grown_far (grown_far (grown_far G3 y4 (fun q e => by have e := Option.some.inj e; omega)) u5 (fun q e => by have e := Option.some.inj e; omega)) u6 (fun q e => by have e := Option.some.inj e; omega)) u7 (fun q e => by have e := Option.some.inj e; omega)
end Go.Proofs.Ytnimehkfnpepfaa
