import Derived.Test.YtlmddjkplnbadaaPTak
namespace Go.Proofs.Ytlmddjkplnbadaa
open Go.RowKit
set_option maxRecDepth 100000
set_option linter.unusedVariables false
set_option linter.unusedSimpArgs false

theorem Roomy.ans {w : World} {g n lo : Nat} {L D : List Nat} (h : Roomy w g n L D) (hL : IsB L) (hl : L.length = n) (hn : n ≤ 140737488351232) (hlo : lo ≤ g) : Ans w lo (some ⟨g, 0, none⟩) n (n + 5) L := by
  refine ⟨⟨by rw [bys_length, hl, Nat.mul_one], .inr ⟨g, n + 5, (bys D).toArray, rfl, Nat.zero_le _, h.blk, by omega, by unfold maxLen; omega, by simp [bys_length, h.len], ?_⟩⟩, hL, fun x hx => ?_⟩
  · simp only [Nat.mul_one, List.toList_toArray]
    apply List.ext_getElem?
    intro i
    by_cases hi : i < n
    · rw [List.getElem?_take, if_pos hi, nth_bys D i (by rw [h.len]; omega), nth_bys L i (by omega), h.own i hi]
    · rw [List.getElem?_eq_none (by simp [bys_length]; omega), List.getElem?_eq_none (by rw [bys_length]; omega)]
  · have e : g = x := Option.some.inj hx
    omega
set_option maxHeartbeats 8000000 in
theorem samePacket_any (up se : Bool) (ap pt ct : Int) (a b : Option Addr) (n m cap cap' : Nat) (D : List Nat) (w : World) (ha : Rd w a n cap D) (hb : Rd w b m cap' D) :
    Calls Try.prog 71 #[pkV up se ap pt ct a n cap, pkV up se ap pt ct b m cap'] w fun e w' => e = .returned (.bool true) ∧ w.grownBy w' none := by
  unfold pkV
  have b0 := BxP.new w up se ap pt ct a n cap
  have g0 := World.grownBy_alloc w (.cells #[.bool up, .bool se, .int .i64 ap, .int .i64 pt, .int .i64 ct, .slice a n cap] 64) none
  generalize hw0 : w.alloc (.cells #[.bool up, .bool se, .int .i64 ap, .int .i64 pt, .int .i64 ct, .slice a n cap] 64) = w0 at b0 g0
  have hz0 : w0.heap.size = w.heap.size + 1 := by rw [← hw0]; simp
  have b1 := BxP.new w0 up se ap pt ct b m cap'
  have g1 := World.grownBy_alloc w0 (.cells #[.bool up, .bool se, .int .i64 ap, .int .i64 pt, .int .i64 ct, .slice b m cap'] 64) none
  generalize hw1 : w0.alloc (.cells #[.bool up, .bool se, .int .i64 ap, .int .i64 pt, .int .i64 ct, .slice b m cap'] 64) = w1 at b1 g1
  rw [hz0] at b1
  obtain ⟨c0, c1, c2, c3, c4, c5⟩ := (b0.keep g1 (by simp)).cell
  obtain ⟨d0, d1, d2, d3, d4, d5⟩ := b1.cell
  have ha1 := ha.keep (grown_trans g0 g1)
  have hb1 := hb.keep (grown_trans g0 g1)
  clear b0 b1
  go_enter Try.func71, Try.ntmps71
  go_wp2_with (go_at_call 46; refine (sameBytes_any _ _ _ _ _ _ D w1 ha1 hb1).mono ?_; rintro e w2 ⟨rfl, hw⟩; have hw := hw.symm; subst hw)
  go_ret
  exact ⟨rfl, grown_trans g0 g1⟩
end Go.Proofs.Ytlmddjkplnbadaa
