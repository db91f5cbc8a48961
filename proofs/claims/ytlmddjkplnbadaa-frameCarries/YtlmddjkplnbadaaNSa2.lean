import Derived.Test.YtlmddjkplnbadaaNSa1
import Derived.Deep.DeepCutAuto
namespace Go.Proofs.Ytlmddjkplnbadaa
open Go.RowKit
set_option maxRecDepth 100000
set_option linter.unusedVariables false
set_option linter.unusedSimpArgs false

/-- a queue as it lies in memory -/
structure Qu where
  ow : Int
  a : Option Addr
  n : Nat
  c : Nat
  go : Int
  R : Nat → Rw
structure RdQ (w : World) (a : Option Addr) (n cap : Nat) (F : Nat → Qu) : Prop where
  le : n ≤ cap
  max : cap ≤ maxLen
  at' : 0 < n → ∃ b off, a = some ⟨b, off, none⟩ ∧ b < w.heap.size ∧ ∀ i, i < n → w.cell? ⟨b, off + i * 3, none⟩ = some (.int .i64 (F i).ow) ∧ w.cell? ⟨b, off + i * 3 + 1, none⟩ = some (.slice (F i).a (F i).n (F i).c) ∧ w.cell? ⟨b, off + i * 3 + 2, none⟩ = some (.int .i64 (F i).go)
  data : ∀ i, i < n → RdR w (F i).a (F i).n (F i).c (F i).R
theorem RdQ.keep {w w' : World} {a : Option Addr} {n cap : Nat} {F : Nat → Qu} (h : RdQ w a n cap F) (hg : w.grownBy w' none) : RdQ w' a n cap F :=
  ⟨h.le, h.max, fun h0 => by
    obtain ⟨b, off, e, hb, hc⟩ := h.at' h0
    exact ⟨b, off, e, Nat.lt_of_lt_of_le hb hg.size, fun i hi => ⟨cell_grown (hc i hi).1 hg hb (by simp), cell_grown (hc i hi).2.1 hg hb (by simp), cell_grown (hc i hi).2.2 hg hb (by simp)⟩⟩, fun i hi => (h.data i hi).keep hg⟩
def seA (cr sz ma tu : Int) (a : Option Addr) (n cap : Nat) : Array Value := #[.int .i64 cr, .int .i64 sz, .int .i64 ma, .int .i64 tu, .slice a n cap]
theorem BxS.cell3 {w : World} {g : Nat} {t : TypeId} {a b c : Value} (h : BxS w g t #[a, b, c]) : w.cell? ⟨g, 0, none⟩ = some a ∧ w.cell? ⟨g, 1, none⟩ = some b ∧ w.cell? ⟨g, 2, none⟩ = some c := by
  simp [World.cell?, show w.heap[g]? = _ from h]
theorem two_bx (w : World) (t u : TypeId) (A B : Array Value) :
    BxS ((w.alloc (.cells A t)).alloc (.cells B u)).drew w.heap.size t A ∧ BxS ((w.alloc (.cells A t)).alloc (.cells B u)).drew (w.heap.size + 1) u B ∧ w.grownBy ((w.alloc (.cells A t)).alloc (.cells B u)).drew none := by
  refine ⟨(BxS.new w t A).keep (grown_trans (World.grownBy_alloc _ _ none) (grown_drew _ _)) (by simp), ?_, grown_trans (World.grownBy_alloc _ _ _) (grown_trans (World.grownBy_alloc _ _ _) (grown_drew _ _))⟩
  have h := (BxS.new (w.alloc (.cells A t)) u B).keep (grown_drew _ none) (by simp)
  simpa using h
theorem cell_al {w : World} {a : Addr} {v : Value} (h : w.cell? a = some v) (o : Obj) : (w.alloc o).cell? a = some v := by
  have hb := World.block_lt_of_cell? w a h
  rw [← h]
  unfold World.cell?
  rw [(World.grownBy_alloc w o none).block _ hb (by simp)]
theorem cell_al2 {w : World} {a : Addr} {v : Value} (h : w.cell? a = some v) (o o' : Obj) : ((w.alloc o).alloc o').cell? a = some v := cell_al (cell_al h o) o'
set_option maxHeartbeats 8000000 in
theorem sameSender_any (cr sz ma tu : Int) (a b : Option Addr) (n cap cap' : Nat) (F G : Nat → Qu) (w : World) (h : RdQ w a n cap F) (k : RdQ w b n cap' G)
    (he : ∀ i, i < n → (F i).ow = (G i).ow ∧ (F i).go = (G i).go ∧ (F i).n = (G i).n ∧ ∀ j, j < (F i).n → ((F i).R j).D = ((G i).R j).D) :
    Calls Try.prog 25 #[.agg (seA cr sz ma tu a n cap), .agg (seA cr sz ma tu b n cap')] w fun e w' => e = .returned (.bool true) ∧ w.grownBy w' none := by
  have h1 := h.le; have h2 := h.max; have h3 := k.le
  unfold maxLen at h2
  have HE : Hid (∀ i, i < n → (F i).ow = (G i).ow ∧ (F i).go = (G i).go ∧ (F i).n = (G i).n ∧ ∀ j, j < (F i).n → ((F i).R j).D = ((G i).R j).D) := he
  clear he
  have b0 := BxS.new w 38 (seA cr sz ma tu a n cap)
  have g0 := World.grownBy_alloc w (.cells (seA cr sz ma tu a n cap) 38) none
  unfold seA at b0 g0 ⊢
  generalize hw0 : w.alloc (.cells #[.int .i64 cr, .int .i64 sz, .int .i64 ma, .int .i64 tu, .slice a n cap] 38) = w0 at b0 g0
  have hz0 : w0.heap.size = w.heap.size + 1 := by rw [← hw0]; simp
  have b1 := BxS.new w0 38 #[.int .i64 cr, .int .i64 sz, .int .i64 ma, .int .i64 tu, .slice b n cap']
  have g1 := World.grownBy_alloc w0 (.cells #[.int .i64 cr, .int .i64 sz, .int .i64 ma, .int .i64 tu, .slice b n cap'] 38) none
  generalize hw1 : w0.alloc (.cells #[.int .i64 cr, .int .i64 sz, .int .i64 ma, .int .i64 tu, .slice b n cap'] 38) = w1 at b1 g1
  rw [hz0] at b1
  have b01 := b0.keep g1 (by simp)
  have h' := (h.keep g0).keep g1
  have k' := (k.keep g0).keep g1
  have G1 := grown_trans g0 g1
  obtain ⟨c0, c1, c2, c3, c4⟩ := b01.cell5
  obtain ⟨d0, d1, d2, d3, d4⟩ := b1.cell5
  clear h k b0 g0 g1
  go_enter Try.func25, Try.ntmps25
  go_wp2
  clear c0 c1 c2 c3 c4 d0 d1 d2 d3 d4 hw0 hw1 hz0
  go_loopw [5] (fun i wr => ∃ j : Nat, j ≤ n ∧ i = .int .i64 j ∧ w1.grownBy wr none) (fun i _ => n - (intOf i).toNat)
  case atStart => exact ⟨0, by omega, rfl, World.grownBy.refl _ _⟩
  case round =>
    obtain ⟨j, hj, rfl, hgr⟩ := hrel
    have p0 := (b01.keep hgr (by simp)).cell5.2.2.2.2
    have p1 := (b1.keep hgr (by simp)).cell5.2.2.2.2
    by_cases hlt : j < n
    · have h'' := h'.keep hgr
      have k'' := k'.keep hgr
      obtain ⟨ba, oa, rfl, hba, ca⟩ := h''.at' (by omega)
      obtain ⟨bb, ob, rfl, hbb, cb⟩ := k''.at' (by omega)
      obtain ⟨c1, c2, c3⟩ := ca j hlt
      obtain ⟨d1, d2, d3⟩ := cb j hlt
      obtain ⟨e1, e2, e3, e4⟩ := HE.out j hlt
      have r1 := h''.data j hlt
      have r2 := k''.data j hlt
      rw [e3] at r1 c2 e4
      rw [e1] at c1
      rw [e2] at c3
      have hS := fun wz (hz : wr.grownBy wz none) => sameRows_any _ _ _ _ _ _ _ wz (r1.keep hz) (r2.keep hz) e4
      have l1 : (j : Int) < (n : Int) := by omega
      generalize (G j).ow = xo at *
      generalize (G j).go = xg at *
      generalize (F j).a = xa at *
      generalize (F j).c = xc at *
      generalize (G j).a = ya at *
      generalize (G j).c = yc at *
      generalize (G j).n = yn at *
      have hzr : w.heap.size + 1 < wr.heap.size := Nat.lt_of_lt_of_le b1.lt hgr.size
      clear ca cb h' k' h'' k'' e1 e2 e3 e4 r1 r2
      go_wp2
      go_cut [6, 7] (fun s6 s7 wx => ∃ g h, s6 = .pointer (some ⟨g, 0, none⟩) ∧ s7 = .pointer (some ⟨h, 0, none⟩) ∧ BxS wx g 83 #[.int .i64 xo, .slice xa yn xc, .int .i64 xg] ∧ BxS wx h 83 #[.int .i64 xo, .slice ya yn yc, .int .i64 xg] ∧ wr.grownBy wx none)
      case first =>
        have p0a := fun o => cell_al p0 o
        have p0b := fun o o' => cell_al2 p0 o o'
        have p1a := fun o => cell_al p1 o
        have p1b := fun o o' => cell_al2 p1 o o'
        have c1a := fun o => cell_al c1 o
        have c1b := fun o o' => cell_al2 c1 o o'
        have c2a := fun o => cell_al c2 o
        have c2b := fun o o' => cell_al2 c2 o o'
        have c3a := fun o => cell_al c3 o
        have c3b := fun o o' => cell_al2 c3 o o'
        have d1a := fun o => cell_al d1 o
        have d1b := fun o o' => cell_al2 d1 o o'
        have d2a := fun o => cell_al d2 o
        have d2b := fun o o' => cell_al2 d2 o o'
        have d3a := fun o => cell_al d3 o
        have d3b := fun o o' => cell_al2 d3 o o'
        clear hS HE
        go_region
        all_goals go_wp2_with fail
        all_goals go_meet
        all_goals first
          | exact ⟨wr.heap.size, wr.heap.size + 1, rfl, rfl, (two_bx wr _ _ _ _).1, (two_bx wr _ _ _ _).2.1, (two_bx wr _ _ _ _).2.2⟩
          | exact ⟨wr.heap.size + 1, wr.heap.size, rfl, rfl, (two_bx wr _ _ _ _).2.1, (two_bx wr _ _ _ _).1, (two_bx wr _ _ _ _).2.2⟩
      case rest =>
        obtain ⟨g, h, rfl, rfl, Bg, Bh, gx⟩ := hcut
        obtain ⟨x0, x1, x2⟩ := Bg.cell3
        obtain ⟨y0, y1, y2⟩ := Bh.cell3
        go_wp2_with (go_at_call 52; refine (hS _ gx).mono ?_; rintro e w5 ⟨rfl, g5⟩)
        go_roundw
        case rel => exact ⟨j + 1, by omega, by go_num, grown_trans hgr (grown_trans gx g5)⟩
        case measure => simp [intOf]; omega
    · go_wp2
      go_ret
      exact ⟨rfl, grown_trans G1 hgr⟩
end Go.Proofs.Ytlmddjkplnbadaa
