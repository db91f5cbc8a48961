import Derived.Test.YtlaiocefbhoccaaDoorYSm
import Derived.Deep.DeepCutAuto
namespace Go.Proofs.YtlaiocefbhoccaaDoor
open Go.RowKit
set_option maxRecDepth 100000
set_option linter.unusedVariables false
set_option linter.unusedSimpArgs false
theorem set_c4 {w : World} {b : Nat} {x0 x1 x2 x3 : Value} {t : TypeId} (h : w.heap[b]? = some (.cells #[x0, x1, x2, x3] t)) :
    (∀ u, (w.setCell ⟨b, 0, none⟩ u).heap[b]? = some (.cells #[u, x1, x2, x3] t)) ∧ (∀ u, (w.setCell ⟨b, 1, none⟩ u).heap[b]? = some (.cells #[x0, u, x2, x3] t)) ∧ (∀ u, (w.setCell ⟨b, 2, none⟩ u).heap[b]? = some (.cells #[x0, x1, u, x3] t)) ∧ (∀ u, (w.setCell ⟨b, 3, none⟩ u).heap[b]? = some (.cells #[x0, x1, x2, u] t)) := by
  have hlt : b < w.heap.size := by
    rcases Nat.lt_or_ge b w.heap.size with h' | h'
    · exact h'
    · rw [Array.getElem?_eq_none h'] at h; cases h
  have h' : w.heap[b] = .cells #[x0, x1, x2, x3] t := by simpa [Array.getElem?_eq_getElem hlt] using h
  refine ⟨fun u => ?_, fun u => ?_, fun u => ?_, fun u => ?_⟩ <;>
    (show (w.heap.modify b _)[b]? = _; rw [Array.getElem?_eq_getElem (by simpa using hlt), Array.getElem_modify_self, h']; rfl)
theorem gr_set (w : World) (a : Addr) (u : Value) : w.grownBy (w.setCell a u) (some a.block) :=
  ⟨rfl, rfl, rfl, by simp [World.setCell], fun i hi hn => Below.heap_setCell w a u i (fun e => hn (by rw [e]))⟩
theorem gr_set4 (w : World) (b : Nat) (u0 u1 u2 u3 : Value) : w.grownBy ((((w.setCell ⟨b, 0, none⟩ u0).setCell ⟨b, 1, none⟩ u1).setCell ⟨b, 2, none⟩ u2).setCell ⟨b, 3, none⟩ u3) (some b) :=
  ⟨rfl, rfl, rfl, by simp [World.setCell], fun i hi hn => by
    have hne : i ≠ b := fun e => hn (by rw [e])
    rw [Below.heap_setCell _ ⟨b, 3, none⟩ _ _ hne, Below.heap_setCell _ ⟨b, 2, none⟩ _ _ hne, Below.heap_setCell _ ⟨b, 1, none⟩ _ _ hne, Below.heap_setCell _ ⟨b, 0, none⟩ _ _ hne]⟩
theorem set4_row {w : World} {b : Nat} {x0 x1 x2 x3 : Value} {t : TypeId} (h : w.heap[b]? = some (.cells #[x0, x1, x2, x3] t)) (u0 u1 u2 u3 : Value) :
    ((((w.setCell ⟨b, 0, none⟩ u0).setCell ⟨b, 1, none⟩ u1).setCell ⟨b, 2, none⟩ u2).setCell ⟨b, 3, none⟩ u3).heap[b]? = some (.cells #[u0, u1, u2, u3] t) :=
  (set_c4 ((set_c4 ((set_c4 ((set_c4 h).1 u0)).2.1 u1)).2.2.1 u2)).2.2.2 u3
theorem Roomy.lt {w : World} {g n : Nat} {L D : List Nat} (h : Roomy w g n L D) : g < w.heap.size := by
  rcases Nat.lt_or_ge g w.heap.size with h' | h'
  · exact h'
  · have hb := h.blk; unfold Blk at hb; rw [Array.getElem?_eq_none h'] at hb; cases hb
/-! the law, given hide -/
theorem row4 {w : World} {b : Nat} {x0 x1 x2 x3 : Value} {t : TypeId} (h : w.heap[b]? = some (.cells #[x0, x1, x2, x3] t)) :
    w.cell? ⟨b, 0, none⟩ = some x0 ∧ w.cell? ⟨b, 1, none⟩ = some x1 ∧ w.cell? ⟨b, 2, none⟩ = some x2 ∧ w.cell? ⟨b, 3, none⟩ = some x3 :=
  ⟨by rw [cell_of_row _ _ _ _ _ _ h]; rfl, by rw [cell_of_row _ _ _ _ _ _ h]; rfl, by rw [cell_of_row _ _ _ _ _ _ h]; rfl, by rw [cell_of_row _ _ _ _ _ _ h]; rfl⟩
set_option maxHeartbeats 4000000 in
theorem seals_walk (HD : HideOk) (id : Int) (a bo : Option Addr) (n cap m cb : Nat) (top seen z : Int) (S : List Int) (B : List Nat) (w : World) (hL : Lin w) (hp : RdI w a n cap S) (hn : n ≤ 17592186044000) (bt : -9223372036854775808 ≤ top ∧ top ≤ 9223372036854775807) (bs : -9223372036854775808 ≤ seen ∧ seen ≤ 9223372036854775807) (hb : Rd w bo m cb B) (hm : m ≤ 140737488351232) :
    Calls Tryd.prog 5 #[kyV id a n cap top seen, .int .i64 z, .slice bo m cb] w fun e w' => e = .returned (.bool true) ∧ Below w.heap.size w w' := by
  have gA := World.grownBy_alloc w (.cells #[.int .i64 id, .slice a n cap, .int .i64 top, .int .i64 seen] 36) none
  have bx := heap_alloc_new w (.cells #[.int .i64 id, .slice a n cap, .int .i64 top, .int .i64 seen] 36)
  have hsb : (w.alloc (.cells #[.int .i64 id, .slice a n cap, .int .i64 top, .int .i64 seen] 36)).heap.size = w.heap.size + 1 := by simp
  go_enter Tryd.func5, Tryd.ntmps5
  go_wp2
  generalize w.alloc (.cells #[.int .i64 id, .slice a n cap, .int .i64 top, .int .i64 seen] 36) = wb at *
  have hbb := hb.keep gA
  have d0 : wb.cell? ⟨w.heap.size, 0, none⟩ = some (.int .i64 id) := by rw [cell_of_row _ _ _ _ _ _ bx]; rfl
  have d1 : wb.cell? ⟨w.heap.size, 1, none⟩ = some (.slice a n cap) := by rw [cell_of_row _ _ _ _ _ _ bx]; rfl
  have d2 : wb.cell? ⟨w.heap.size, 2, none⟩ = some (.int .i64 top) := by rw [cell_of_row _ _ _ _ _ _ bx]; rfl
  have d3 : wb.cell? ⟨w.heap.size, 3, none⟩ = some (.int .i64 seen) := by rw [cell_of_row _ _ _ _ _ _ bx]; rfl
  go_cut [7, 8] (fun s7 s8 wx => ∃ g7 gh Dh, s7 = .pointer (some ⟨g7, 0, none⟩) ∧ s8 = .slice (some ⟨gh, 0, none⟩) m (m + 5) ∧ wx.heap[g7]? = some (.cells #[.int .i64 id, .slice a n cap, .int .i64 top, .int .i64 seen] 36) ∧ Roomy wx gh m B Dh ∧ wb.grownBy wx none ∧ wb.heap.size ≤ g7 ∧ wb.heap.size ≤ gh ∧ g7 ≠ gh)
  case first =>
    have hr1 := roomy_any bo m cb B wb.drew (hbb.keep (grown_drew _ _)) hm
    have hr2 := fun z0 z1 z2 z3 => roomy_any bo m cb B (wb.alloc (.cells #[z0, z1, z2, z3] 36)).drew (hbb.keep (grown_trans (World.grownBy_alloc _ _ _) (grown_drew _ _))) hm
    have hz : ∀ z0 z1 z2 z3 wx, (wb.alloc (.cells #[z0, z1, z2, z3] 36)).drew.grownBy wx none → wx.heap[wb.heap.size]? = some (.cells #[z0, z1, z2, z3] 36) := fun z0 z1 z2 z3 wx h => (h.block wb.heap.size (by simp [World.drew]) (by simp)).trans (heap_alloc_new wb _)
    go_region_law (go_simp; go_at_call 14; first
      | ((with_reducible refine hr1.mono ?_); rintro e wx ⟨rfl, ⟨Dh, hh⟩, gx⟩; have gw := grown_trans (grown_drew wb none) gx; have e0 : wx.cell? ⟨w.heap.size, 0, none⟩ = some (.int .i64 id) := (by rw [World.cell?_of_block (gw.block w.heap.size (by omega) (by simp))]; exact d0); have e1 : wx.cell? ⟨w.heap.size, 1, none⟩ = some (.slice a n cap) := (by rw [World.cell?_of_block (gw.block w.heap.size (by omega) (by simp))]; exact d1); have e2 : wx.cell? ⟨w.heap.size, 2, none⟩ = some (.int .i64 top) := (by rw [World.cell?_of_block (gw.block w.heap.size (by omega) (by simp))]; exact d2); have e3 : wx.cell? ⟨w.heap.size, 3, none⟩ = some (.int .i64 seen) := (by rw [World.cell?_of_block (gw.block w.heap.size (by omega) (by simp))]; exact d3); have hlx : w.heap.size < wx.heap.size := (by have := gw.size; omega); have ea0 : ∀ o, (wx.alloc o).cell? ⟨w.heap.size, 0, none⟩ = some (.int .i64 id) := (fun o => (World.cell?_of_block ((World.grownBy_alloc wx o none).block _ hlx (by simp))).trans e0); have ea1 : ∀ o, (wx.alloc o).cell? ⟨w.heap.size, 1, none⟩ = some (.slice a n cap) := (fun o => (World.cell?_of_block ((World.grownBy_alloc wx o none).block _ hlx (by simp))).trans e1); have ea2 : ∀ o, (wx.alloc o).cell? ⟨w.heap.size, 2, none⟩ = some (.int .i64 top) := (fun o => (World.cell?_of_block ((World.grownBy_alloc wx o none).block _ hlx (by simp))).trans e2); have ea3 : ∀ o, (wx.alloc o).cell? ⟨w.heap.size, 3, none⟩ = some (.int .i64 seen) := (fun o => (World.cell?_of_block ((World.grownBy_alloc wx o none).block _ hlx (by simp))).trans e3))
      | ((with_reducible refine (hr2 _ _ _ _).mono ?_); rintro e wx ⟨rfl, ⟨Dh, hh⟩, gx⟩; have gw := grown_trans (grown_trans (World.grownBy_alloc wb _ none) (grown_drew _ none)) gx; have e0 : wx.cell? ⟨w.heap.size, 0, none⟩ = some (.int .i64 id) := (by rw [World.cell?_of_block (gw.block w.heap.size (by omega) (by simp))]; exact d0); have e1 : wx.cell? ⟨w.heap.size, 1, none⟩ = some (.slice a n cap) := (by rw [World.cell?_of_block (gw.block w.heap.size (by omega) (by simp))]; exact d1); have e2 : wx.cell? ⟨w.heap.size, 2, none⟩ = some (.int .i64 top) := (by rw [World.cell?_of_block (gw.block w.heap.size (by omega) (by simp))]; exact d2); have e3 : wx.cell? ⟨w.heap.size, 3, none⟩ = some (.int .i64 seen) := (by rw [World.cell?_of_block (gw.block w.heap.size (by omega) (by simp))]; exact d3); have hzz : wx.heap[w.heap.size + 1]? = some (.cells #[.int .i64 0, .slice none 0 0, .int .i64 0, .int .i64 0] 36) := (by have h := hz _ _ _ _ _ gx; rw [hsb] at h; exact h); have y0 : wx.cell? ⟨w.heap.size + 1, 0, none⟩ = some (.int .i64 0) := (by rw [cell_of_row _ _ _ _ _ _ hzz]; rfl); have y1 : wx.cell? ⟨w.heap.size + 1, 1, none⟩ = some (.slice none 0 0) := (by rw [cell_of_row _ _ _ _ _ _ hzz]; rfl); have y2 : wx.cell? ⟨w.heap.size + 1, 2, none⟩ = some (.int .i64 0) := (by rw [cell_of_row _ _ _ _ _ _ hzz]; rfl); have y3 : wx.cell? ⟨w.heap.size + 1, 3, none⟩ = some (.int .i64 0) := (by rw [cell_of_row _ _ _ _ _ _ hzz]; rfl); have fz0 := frozen_of_row _ _ 0 _ _ hzz; have fz1 := frozen_of_row _ _ 1 _ _ hzz; have fz2 := frozen_of_row _ _ 2 _ _ hzz; have fz3 := frozen_of_row _ _ 3 _ _ hzz))
    all_goals go_wp2_with fail
    all_goals go_meet
    all_goals first
      | exact ⟨_, _, Dh, rfl, rfl, heap_alloc_new wx _, ((show Roomy wx (w.heap.size + 1) m B Dh by simpa [hsb] using hh).keep (World.grownBy_alloc wx _ none)), grown_trans gw (World.grownBy_alloc wx _ none), gw.size, (by omega), (by have h : wb.heap.size < wx.heap.size := hh.lt; omega)⟩
      | exact ⟨_, _, Dh, rfl, rfl, set4_row hzz _ _ _ _, (show Roomy wx (w.heap.size + 1 + 1) m B Dh by simpa [hsb] using hh).grown (gr_set4 wx _ _ _ _ _) (by simp), grown_far gw (gr_set4 wx _ _ _ _ _) (fun g e => by cases e; omega), (by omega), (by omega), (by omega)⟩
  case rest =>
    obtain ⟨g7, gh, Dh, rfl, rfl, bx7, hh, G0, l7, lh, hne⟩ := hcut
    have rwB : wc.heap[w.heap.size]? = some (.cells #[.int .i64 id, .slice a n cap, .int .i64 top, .int .i64 seen] 36) := (G0.block _ (by omega) (by simp)).trans bx
    have c1 : wc.cell? ⟨w.heap.size, 1, none⟩ = some (.slice a n cap) := by rw [cell_of_row _ _ _ _ _ _ rwB]; rfl
    have GC := grown_trans gA G0
    have hcp := copied_any a n cap S wc (hp.keep GC) hn
    have l7c : g7 < wc.heap.size := by
      rcases Nat.lt_or_ge g7 wc.heap.size with h' | h'
      · exact h'
      · rw [Array.getElem?_eq_none h'] at bx7; cases bx7
    go_upto_region 3 with (go_at_call 9; refine hcp.mono ?_; rintro e w1 ⟨aw, cw, rfl, hA1, g01⟩; have b1 := (g01.block g7 l7c (by simp)).trans bx7; have y1 : w1.cell? ⟨g7, 1, none⟩ = some (.slice a n cap) := (by rw [cell_of_row _ _ _ _ _ _ b1]; rfl); have fz1 := frozen_of_row _ _ 1 _ _ b1)
    have r2 := (set_c4 b1).2.1 (.slice aw n cw)
    have gs := gr_set w1 ⟨g7, 1, none⟩ (.slice aw n cw)
    generalize w1.setCell ⟨g7, 1, none⟩ (.slice aw n cw) = w2 at *
    have g02 : wb.grownBy w2 none := grown_far (grown_trans G0 g01) gs (fun g e => by cases e; omega)
    have G2 := grown_trans gA g02
    have rb2 := (g02.block w.heap.size (by omega) (by simp)).trans bx
    have hA2 := hA1.kept gs (by cases h : (Value.slice aw n cw).ownBlock with | none => exact .inl rfl | some q => refine .inr ?_; have := hA1.new q h; intro e; have e2 : q = g7 := Option.some.inj e; omega)
    have hh2 := (hh.keep g01).grown gs (by intro e; cases e; exact hne rfl)
    have l72 : g7 < w2.heap.size := by have := g01.size; have := gs.size; omega
    have lwb : w.heap.size < w2.heap.size := by have := g02.size; omega
    have hS1 := sealed_all id a bo n cap m cb top seen z S B w2 (hp.keep G2) bt bs (hb.keep G2)
    have hS2 := fun w' (g : w2.grownBy w' none) => seal_all HD id aw (some ⟨gh, 0, none⟩) n cw m (m + 5) top seen z S B w' (hL.keep (grown_trans G2 g)) (hA2.keep g).rd ((hh2.keep g).rd hb.byte hb.len hm)
    generalize slE id n S top seen z m = E at *
    generalize slR id n S top seen z B = R at *
    obtain ⟨q0, q1, q2, q3⟩ := row4 rb2
    clear b1 y1 fz1 c1 rwB bx7 d0 d1 d2 d3 bx hcp
    have t1 : True := trivial
    go_wp2_with (first
      | (go_at_call 18; have _t := t1; clear t1; refine hS1.mono ?_; rintro e w3 ⟨ar, nr, cr, rfl, hR3, g23, nrl⟩; have r3 := (g23.block g7 l72 (by simp)).trans r2; obtain ⟨p0, p1, p2, p3⟩ := row4 r3; have t2 : True := trivial)
      | (go_at_call 19; have _t := t2; clear t2; refine (hS2 w3 g23).mono ?_; rintro e w4 ⟨aa, na, ca, rfl, ha4, g34, nal⟩; have g24 := grown_trans g23 g34; have r4 := (g24.block g7 l72 (by simp)).trans r2; obtain ⟨o0, o1, o2, o3⟩ := row4 r4; have t3 : True := trivial)
      | (go_at_call 19; have _t := t3; clear t3; refine (hS2 w4 g24).mono ?_; rintro e w5 ⟨ab, nb, cb', rfl, hb5, g45, nbl⟩; have t4 : True := trivial)
      | (go_at_call 12; have _t := t4; clear t4; refine (twice_any aa ab ar na nb nr ca cb' cr w3.heap.size _ w5 (ha4.keep g45) hb5.rd (hR3.keep (grown_trans g34 g45)).rd (by omega) (ha4.later hb5 (Nat.le_refl _)) (ha4.earlier hR3 (Nat.le_refl _))).mono ?_; rintro e w6 ⟨rfl, g56⟩; have g26 := grown_far (grown_trans g23 (grown_trans g34 g45)) g56 (ha4.far _ g23.size); have r6 := (g26.block g7 l72 (by simp)).trans r2; have rb6 := (g26.block w.heap.size lwb (by simp)).trans rb2; obtain ⟨i0, i1, i2, i3⟩ := row4 r6; obtain ⟨j0, j1, j2, j3⟩ := row4 rb6; have t5 : True := trivial)
      | (go_at_call 20; have _t := t5; clear t5; refine (sameKey_any id aw a n cw cap top seen S w6 (hA2.keep g26).rd (hp.keep (grown_trans G2 g26))).mono ?_; rintro e w7 ⟨rfl, g67⟩; have g27 := grown_trans g26 g67; have t6 : True := trivial)
      | (go_at_call 17; have _t := t6; clear t6; refine (left_any gh bo m cb B Dh w7 (hh2.keep g27) (hb.keep (grown_trans G2 g27)) hm).mono ?_; rintro e w8 ⟨rfl, g78⟩))

    go_ret
    exact ⟨rfl, (Below.refl _ _).grown (grown_trans G2 (grown_trans g27 g78)) (Nat.le_refl _) (fun k hk => by cases hk)⟩
end Go.Proofs.YtlaiocefbhoccaaDoor
