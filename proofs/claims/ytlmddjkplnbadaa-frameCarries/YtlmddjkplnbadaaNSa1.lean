import Derived.Test.YtlmddjkplnbadaaNUn2
namespace Go.Proofs.Ytlmddjkplnbadaa
open Go.RowKit
set_option maxRecDepth 100000
set_option linter.unusedVariables false
set_option linter.unusedSimpArgs false

/-- bytes as they lie in memory, and what they are -/
structure Rw where
  a : Option Addr
  n : Nat
  c : Nat
  D : List Nat
/-- rows of bytes as they are read -/
structure RdR (w : World) (a : Option Addr) (n cap : Nat) (F : Nat → Rw) : Prop where
  le : n ≤ cap
  max : cap ≤ maxLen
  at' : 0 < n → ∃ b off, a = some ⟨b, off, none⟩ ∧ b < w.heap.size ∧ ∀ i, i < n → w.cell? ⟨b, off + i, none⟩ = some (.slice (F i).a (F i).n (F i).c)
  data : ∀ i, i < n → Rd w (F i).a (F i).n (F i).c (F i).D
theorem RdR.keep {w w' : World} {a : Option Addr} {n cap : Nat} {F : Nat → Rw} (h : RdR w a n cap F) (hg : w.grownBy w' none) : RdR w' a n cap F :=
  ⟨h.le, h.max, fun h0 => by
    obtain ⟨b, off, e, hb, hc⟩ := h.at' h0
    exact ⟨b, off, e, Nat.lt_of_lt_of_le hb hg.size, fun i hi => cell_grown (hc i hi) hg hb (by simp)⟩, fun i hi => (h.data i hi).keep hg⟩
set_option maxHeartbeats 4000000 in
theorem sameRows_any (a b : Option Addr) (n cap cap' : Nat) (F G : Nat → Rw) (w : World) (h : RdR w a n cap F) (k : RdR w b n cap' G) (he : ∀ i, i < n → (F i).D = (G i).D) :
    Calls Try.prog 52 #[.slice a n cap, .slice b n cap'] w fun e w' => e = .returned (.bool true) ∧ w.grownBy w' none := by
  have h1 := h.le; have h2 := h.max; have h3 := k.le
  unfold maxLen at h2
  have HE : Hid (∀ i, i < n → (F i).D = (G i).D) := he
  clear he
  go_enter Try.func52, Try.ntmps52
  go_wp2
  go_loopw [5] (fun i wr => ∃ j : Nat, j ≤ n ∧ i = .int .i64 j ∧ w.grownBy wr none) (fun i _ => n - (intOf i).toNat)
  case atStart => exact ⟨0, by omega, rfl, World.grownBy.refl _ _⟩
  case round =>
    obtain ⟨j, hj, rfl, hgr⟩ := hrel
    by_cases hlt : j < n
    · have h' := h.keep hgr
      have k' := k.keep hgr
      obtain ⟨ba, oa, rfl, _, ca⟩ := h'.at' (by omega)
      obtain ⟨bb, ob, rfl, _, cb⟩ := k'.at' (by omega)
      have c1 := ca j hlt
      have c2 := cb j hlt
      have e := HE.out j hlt
      have d1 := h'.data j hlt
      have d2 := k'.data j hlt
      rw [e] at d1
      have hS := fun q => Calls.quiet_of_same (n := q) (sameBytes_any _ _ _ _ _ _ _ (wr.drewN q) (d1.keep (grown_drewN wr q none)) (d2.keep (grown_drewN wr q none)))
      have l1 : (j : Int) < (n : Int) := by omega
      clear ca cb h' k' h k
      go_wp2
      go_quiet (first | (go_at_call 46; with_reducible exact hS _))
      go_wp2
      go_roundw
      case rel => exact ⟨j + 1, by omega, by go_num, grown_trans hgr (grown_drewN _ _ _)⟩
      case measure => simp [intOf]; omega
    · go_wp2
      go_ret
      exact ⟨rfl, hgr⟩
/-- an ear as it lies in memory -/
structure Er where
  x : Int
  r : Rw
structure RdE (w : World) (a : Option Addr) (n cap : Nat) (F : Nat → Er) : Prop where
  le : n ≤ cap
  max : cap ≤ maxLen
  at' : 0 < n → ∃ b off, a = some ⟨b, off, none⟩ ∧ b < w.heap.size ∧ ∀ i, i < n → w.cell? ⟨b, off + i * 2, none⟩ = some (.int .i64 (F i).x) ∧ w.cell? ⟨b, off + i * 2 + 1, none⟩ = some (.slice (F i).r.a (F i).r.n (F i).r.c)
  data : ∀ i, i < n → Rd w (F i).r.a (F i).r.n (F i).r.c (F i).r.D
theorem RdE.keep {w w' : World} {a : Option Addr} {n cap : Nat} {F : Nat → Er} (h : RdE w a n cap F) (hg : w.grownBy w' none) : RdE w' a n cap F :=
  ⟨h.le, h.max, fun h0 => by
    obtain ⟨b, off, e, hb, hc⟩ := h.at' h0
    exact ⟨b, off, e, Nat.lt_of_lt_of_le hb hg.size, fun i hi => ⟨cell_grown (hc i hi).1 hg hb (by simp), cell_grown (hc i hi).2 hg hb (by simp)⟩⟩, fun i hi => (h.data i hi).keep hg⟩
theorem BxS.cell4 {w : World} {g : Nat} {t : TypeId} {a b c d : Value} (h : BxS w g t #[a, b, c, d]) : w.cell? ⟨g, 0, none⟩ = some a ∧ w.cell? ⟨g, 1, none⟩ = some b ∧ w.cell? ⟨g, 2, none⟩ = some c ∧ w.cell? ⟨g, 3, none⟩ = some d := by
  simp [World.cell?, show w.heap[g]? = _ from h]
def liA (cr sz ma : Int) (a : Option Addr) (n cap : Nat) : Array Value := #[.int .i64 cr, .int .i64 sz, .int .i64 ma, .slice a n cap]
set_option maxHeartbeats 4000000 in
theorem sameListener_any (cr sz ma : Int) (a b : Option Addr) (n cap cap' : Nat) (F G : Nat → Er) (w : World) (h : RdE w a n cap F) (k : RdE w b n cap' G) (he : ∀ i, i < n → (F i).x = (G i).x ∧ (F i).r.D = (G i).r.D) :
    Calls Try.prog 26 #[.agg (liA cr sz ma a n cap), .agg (liA cr sz ma b n cap')] w fun e w' => e = .returned (.bool true) ∧ w.grownBy w' none := by
  have h1 := h.le; have h2 := h.max; have h3 := k.le
  unfold maxLen at h2
  have HE : Hid (∀ i, i < n → (F i).x = (G i).x ∧ (F i).r.D = (G i).r.D) := he
  clear he
  have b0 := BxS.new w 43 (liA cr sz ma a n cap)
  have g0 := World.grownBy_alloc w (.cells (liA cr sz ma a n cap) 43) none
  unfold liA at b0 g0 ⊢
  generalize hw0 : w.alloc (.cells #[.int .i64 cr, .int .i64 sz, .int .i64 ma, .slice a n cap] 43) = w0 at b0 g0
  have hz0 : w0.heap.size = w.heap.size + 1 := by rw [← hw0]; simp
  have b1 := BxS.new w0 43 #[.int .i64 cr, .int .i64 sz, .int .i64 ma, .slice b n cap']
  have g1 := World.grownBy_alloc w0 (.cells #[.int .i64 cr, .int .i64 sz, .int .i64 ma, .slice b n cap'] 43) none
  generalize hw1 : w0.alloc (.cells #[.int .i64 cr, .int .i64 sz, .int .i64 ma, .slice b n cap'] 43) = w1 at b1 g1
  rw [hz0] at b1
  have b01 := b0.keep g1 (by simp)
  have h' := (h.keep g0).keep g1
  have k' := (k.keep g0).keep g1
  have G1 := grown_trans g0 g1
  obtain ⟨c0, c1, c2, c3⟩ := b01.cell4
  obtain ⟨d0, d1, d2, d3⟩ := b1.cell4
  clear h k b0 g0 g1
  go_enter Try.func26, Try.ntmps26
  go_wp2
  clear c0 c1 c2 c3 d0 d1 d2 d3 hw0 hw1 hz0
  go_loopw [5] (fun i wr => ∃ j : Nat, j ≤ n ∧ i = .int .i64 j ∧ w1.grownBy wr none) (fun i _ => n - (intOf i).toNat)
  case atStart => exact ⟨0, by omega, rfl, World.grownBy.refl _ _⟩
  case round =>
    obtain ⟨j, hj, rfl, hgr⟩ := hrel
    obtain ⟨_, _, _, q0⟩ := (b01.keep hgr (by simp)).cell4
    obtain ⟨_, _, _, q1⟩ := (b1.keep hgr (by simp)).cell4
    by_cases hlt : j < n
    · have h'' := h'.keep hgr
      have k'' := k'.keep hgr
      obtain ⟨ba, oa, rfl, _, ca⟩ := h''.at' (by omega)
      obtain ⟨bb, ob, rfl, _, cb⟩ := k''.at' (by omega)
      obtain ⟨c1, c2⟩ := ca j hlt
      obtain ⟨d1, d2⟩ := cb j hlt
      obtain ⟨e1, e2⟩ := HE.out j hlt
      have r1 := h''.data j hlt
      have r2 := k''.data j hlt
      rw [e2] at r1
      rw [e1] at c1
      have hS := fun q => Calls.quiet_of_same (n := q) (sameBytes_any _ _ _ _ _ _ _ (wr.drewN q) (r1.keep (grown_drewN wr q none)) (r2.keep (grown_drewN wr q none)))
      have l1 : (j : Int) < (n : Int) := by omega
      clear ca cb h' k' h'' k'' e1 e2 r1 r2 b01 b1
      generalize (G j).x = x at *
      go_wp2
      go_quiet (first | (go_at_call 46; with_reducible exact hS _))
      go_wp2
      go_roundw
      case rel => exact ⟨j + 1, by omega, by go_num, grown_trans hgr (grown_drewN _ _ _)⟩
      case measure => simp [intOf]; omega
    · go_wp2
      go_ret
      exact ⟨rfl, grown_trans G1 hgr⟩
end Go.Proofs.Ytlmddjkplnbadaa
