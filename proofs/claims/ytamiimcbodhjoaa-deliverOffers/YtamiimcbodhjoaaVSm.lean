import Derived.Test.YtamiimcbodhjoaaVGp
import Derived.Test.YtamiimcbodhjoaaVOf3
import Derived.Test.YtamiimcbodhjoaaPSam
namespace Go.Proofs.Ytamiimcbodhjoaa
open Go.RowKit
set_option maxRecDepth 100000
set_option linter.unusedVariables false
set_option linter.unusedSimpArgs false

set_option maxHeartbeats 16000000 in
theorem sameGiver_any (id : Int) (nm : ByteArray) (mo bu st : Int) (fi : Bool) (at' ti pa tr li : Int) (a a' q q' : Option Addr) (n c c' m d d' : Nat) (L : List Nat) (F F' : Nat → Int × Int) (w : World) (hL : Rd w a n c L) (hL' : Rd w a' n c' L) (hF : RdG w q m d F) (hF' : RdG w q' m d' F') (he : ∀ i, i < m → F i = F' i) :
    Calls Try.prog 28 #[.agg (gvA id nm (.slice a n c) mo bu st fi at' (.slice q m d) ti pa tr li), .agg (gvA id nm (.slice a' n c') mo bu st fi at' (.slice q' m d') ti pa tr li)] w fun e w' => e = .returned (.bool true) ∧ w.grownBy w' none := by
  unfold gvA
  have b0 := BxS.new w 44 #[.int .i64 id, .string nm, .slice a n c, .int .i64 mo, .int .i64 bu, .int .i64 st, .bool fi, .int .i64 at', .slice q m d, .int .i64 ti, .int .i64 pa, .int .i64 tr, .int .i64 li]
  have g0 := World.grownBy_alloc w (.cells #[.int .i64 id, .string nm, .slice a n c, .int .i64 mo, .int .i64 bu, .int .i64 st, .bool fi, .int .i64 at', .slice q m d, .int .i64 ti, .int .i64 pa, .int .i64 tr, .int .i64 li] 44) none
  generalize hw0 : w.alloc (.cells #[.int .i64 id, .string nm, .slice a n c, .int .i64 mo, .int .i64 bu, .int .i64 st, .bool fi, .int .i64 at', .slice q m d, .int .i64 ti, .int .i64 pa, .int .i64 tr, .int .i64 li] 44) = w0 at b0 g0
  have hz0 : w0.heap.size = w.heap.size + 1 := by rw [← hw0]; simp
  have b1 := BxS.new w0 44 #[.int .i64 id, .string nm, .slice a' n c', .int .i64 mo, .int .i64 bu, .int .i64 st, .bool fi, .int .i64 at', .slice q' m d', .int .i64 ti, .int .i64 pa, .int .i64 tr, .int .i64 li]
  have g1 := World.grownBy_alloc w0 (.cells #[.int .i64 id, .string nm, .slice a' n c', .int .i64 mo, .int .i64 bu, .int .i64 st, .bool fi, .int .i64 at', .slice q' m d', .int .i64 ti, .int .i64 pa, .int .i64 tr, .int .i64 li] 44) none
  generalize hw1 : w0.alloc (.cells #[.int .i64 id, .string nm, .slice a' n c', .int .i64 mo, .int .i64 bu, .int .i64 st, .bool fi, .int .i64 at', .slice q' m d', .int .i64 ti, .int .i64 pa, .int .i64 tr, .int .i64 li] 44) = w1 at b1 g1
  rw [hz0] at b1
  have b01 := b0.keep g1 (by simp)
  have G1 := grown_trans g0 g1
  obtain ⟨c0, c1, c2, c3, c4, c5, c6, c7, c8, c9, c10, c11, c12⟩ := b01.cell13
  obtain ⟨d0, d1, d2, d3, d4, d5, d6, d7, d8, d9, d10, d11, d12⟩ := b1.cell13
  have hB := fun wz (hz : w1.grownBy wz none) => sameBytes_any a a' n n c c' L wz ((hL.keep G1).keep hz) ((hL'.keep G1).keep hz)
  have hG := fun wz (hz : w1.grownBy wz none) => sameGaps_any q q' m d d' F F' wz ((hF.keep G1).keep hz) ((hF'.keep G1).keep hz) he
  clear b0 hL hL' hF hF' he
  go_enter Try.func28, Try.ntmps28
  go_wp2_with (first
    | (go_at_call 51; refine (hB _ (by first | exact World.grownBy.refl _ _ | exact g2)).mono ?_; rintro e w5 ⟨rfl, hw⟩; have hw := hw.symm; subst hw)
    | (go_at_call 52; refine (hG _ (World.grownBy.refl _ _)).mono ?_; rintro e w2 ⟨rfl, g2⟩; clear c0 d0 c1 d1 c2 d2 c3 d3 c4 d4 c5 d5 c6 d6 c7 d7 c8 d8 c9 d9 c10 d10 c11 d11 c12 d12; obtain ⟨c0, c1, c2, c3, c4, c5, c6, c7, c8, c9, c10, c11, c12⟩ := (b01.keep g2 (by simp)).cell13; obtain ⟨d0, d1, d2, d3, d4, d5, d6, d7, d8, d9, d10, d11, d12⟩ := (b1.keep g2 (by simp)).cell13))
  go_ret
  exact ⟨rfl, grown_trans G1 g2⟩
set_option maxHeartbeats 16000000 in
theorem sameTaker_any (id : Int) (kn : Bool) (nm : ByteArray) (si : Int) (en : Bool) (la su st ti pa tr li : Int) (a a' q q' : Option Addr) (n c c' m d d' : Nat) (L : List Nat) (F F' : Nat → Int × Int) (w : World) (hL : Rd w a n c L) (hL' : Rd w a' n c' L) (hF : RdG w q m d F) (hF' : RdG w q' m d' F') (he : ∀ i, i < m → F i = F' i) :
    Calls Try.prog 29 #[.agg (tkA id kn nm si en la su (.slice q m d) (.slice a n c) st ti pa tr li), .agg (tkA id kn nm si en la su (.slice q' m d') (.slice a' n c') st ti pa tr li)] w fun e w' => e = .returned (.bool true) ∧ w.grownBy w' none := by
  unfold tkA
  have b0 := BxS.new w 48 #[.int .i64 id, .bool kn, .string nm, .int .i64 si, .bool en, .int .i64 la, .int .i64 su, .slice q m d, .slice a n c, .int .i64 st, .int .i64 ti, .int .i64 pa, .int .i64 tr, .int .i64 li]
  have g0 := World.grownBy_alloc w (.cells #[.int .i64 id, .bool kn, .string nm, .int .i64 si, .bool en, .int .i64 la, .int .i64 su, .slice q m d, .slice a n c, .int .i64 st, .int .i64 ti, .int .i64 pa, .int .i64 tr, .int .i64 li] 48) none
  generalize hw0 : w.alloc (.cells #[.int .i64 id, .bool kn, .string nm, .int .i64 si, .bool en, .int .i64 la, .int .i64 su, .slice q m d, .slice a n c, .int .i64 st, .int .i64 ti, .int .i64 pa, .int .i64 tr, .int .i64 li] 48) = w0 at b0 g0
  have hz0 : w0.heap.size = w.heap.size + 1 := by rw [← hw0]; simp
  have b1 := BxS.new w0 48 #[.int .i64 id, .bool kn, .string nm, .int .i64 si, .bool en, .int .i64 la, .int .i64 su, .slice q' m d', .slice a' n c', .int .i64 st, .int .i64 ti, .int .i64 pa, .int .i64 tr, .int .i64 li]
  have g1 := World.grownBy_alloc w0 (.cells #[.int .i64 id, .bool kn, .string nm, .int .i64 si, .bool en, .int .i64 la, .int .i64 su, .slice q' m d', .slice a' n c', .int .i64 st, .int .i64 ti, .int .i64 pa, .int .i64 tr, .int .i64 li] 48) none
  generalize hw1 : w0.alloc (.cells #[.int .i64 id, .bool kn, .string nm, .int .i64 si, .bool en, .int .i64 la, .int .i64 su, .slice q' m d', .slice a' n c', .int .i64 st, .int .i64 ti, .int .i64 pa, .int .i64 tr, .int .i64 li] 48) = w1 at b1 g1
  rw [hz0] at b1
  have b01 := b0.keep g1 (by simp)
  have G1 := grown_trans g0 g1
  obtain ⟨c0, c1, c2, c3, c4, c5, c6, c7, c8, c9, c10, c11, c12, c13⟩ := b01.cell14
  obtain ⟨d0, d1, d2, d3, d4, d5, d6, d7, d8, d9, d10, d11, d12, d13⟩ := b1.cell14
  have hB := fun wz (hz : w1.grownBy wz none) => sameBytes_any a a' n n c c' L wz ((hL.keep G1).keep hz) ((hL'.keep G1).keep hz)
  have hG := fun wz (hz : w1.grownBy wz none) => sameGaps_any q q' m d d' F F' wz ((hF.keep G1).keep hz) ((hF'.keep G1).keep hz) he
  clear b0 hL hL' hF hF' he
  go_enter Try.func29, Try.ntmps29
  go_wp2_with (first
    | (go_at_call 51; refine (hB _ (by first | exact World.grownBy.refl _ _ | exact g2)).mono ?_; rintro e w5 ⟨rfl, hw⟩; have hw := hw.symm; subst hw)
    | (go_at_call 52; refine (hG _ (World.grownBy.refl _ _)).mono ?_; rintro e w2 ⟨rfl, g2⟩; clear c0 d0 c1 d1 c2 d2 c3 d3 c4 d4 c5 d5 c6 d6 c7 d7 c8 d8 c9 d9 c10 d10 c11 d11 c12 d12 c13 d13; obtain ⟨c0, c1, c2, c3, c4, c5, c6, c7, c8, c9, c10, c11, c12, c13⟩ := (b01.keep g2 (by simp)).cell14; obtain ⟨d0, d1, d2, d3, d4, d5, d6, d7, d8, d9, d10, d11, d12, d13⟩ := (b1.keep g2 (by simp)).cell14))
  go_ret
  exact ⟨rfl, grown_trans G1 g2⟩
end Go.Proofs.Ytamiimcbodhjoaa
