import Derived.Test.YtijjkhmdhpbhpaaPHead
namespace Go.Proofs.Ytijjkhmdhpbhpaa
open Go.RowKit
set_option maxRecDepth 100000
set_option linter.unusedVariables false
set_option linter.unusedSimpArgs false

/-- 'append(v, x...)', v an answer, x other bytes, in a region that draws -/
theorem step_join (w0 w : World) {ops : Array Oper} {o : Oper} {a : Act} {K : Act → World → Prop} {Q : Exit → Act → World → Prop} {E : Prop} (hg : o.guard = none) (s x : Operand)
    (hop : o.op = Op.call { callee := .builtin .append, args := #[s, x], argTypes := #[23, 23] }) (ao : Option Addr) (m co lo : Nat) (r : Option Nat) (D : List Nat) (hs : a.eval s = .slice ao m co)
    (hA : Ans w lo ao m co D) (hG : w0.grownBy w r) (hM : Mine w0 r ao m co) (hlo : lo ≤ w0.heap.size) (ax : Option Addr) (nx cx : Nat) (X : List Nat) (hx : a.eval x = .slice ax nx cx) (hR : Rd w ax nx cx X) (h0 : 0 < nx) (hb : m + nx ≤ 140737488355328)
    (hK : ∀ gx cx w', Ans w' lo (some ⟨gx, 0, none⟩) (m + nx) cx (D ++ X) → w0.grownBy w' r → Mine w0 r (some ⟨gx, 0, none⟩) (m + nx) cx → K (a.put o.dst (.slice (some ⟨gx, 0, none⟩) (m + nx) cx)) w') :
    if Region.wanted o (yielded ops a.tmps) = true then Oper.wp Try.prog o a w K Q else E := by
  obtain ⟨b, off, rfl, _, _⟩ := hR.at' h0
  refine step_apB _ hg s x hop (.slice ao m co) m (bys D) hs hA.own ⟨b, off, none⟩ nx cx (bys X) hx (by rw [bys_length, hR.len]) (rd_news hR h0) (bys_one _) h0 hb ?_
  intro gx cx' w2 hgx hgr2 hown2 _
  rw [bys_app] at hown2
  have hG2 := grown_mine hG hgr2 hM
  have hsz := hG.size
  refine hK gx cx' w2 ⟨hown2, isB_append hA.byte hR.byte, fun g h => ?_⟩ hG2 (fun g h => ?_)
  · have e : gx = g := Option.some.inj h
    subst e
    rcases hgx with h | h
    · exact hA.new gx h
    · exact Nat.le_trans hlo (Nat.le_trans hsz h)
  · have e : gx = g := Option.some.inj h
    subst e
    rcases hgx with h | h
    · exact hM gx h
    · exact .inr (Nat.le_trans hsz h)
/-- what Encode answers -/
def encP (up se : Bool) (ap pt ct : Int) (D : List Nat) : List Nat := if mayE ap pt ct D.length = 0 then hdL up.toNat se.toNat ap.toNat pt.toNat ct.toNat D.length ++ D else []
theorem mayE_ok {ap pt ct : Int} {n : Nat} (h : mayE ap pt ct n = 0) : ((0 ≤ ap ∧ ap ≤ 2047) ∧ (0 ≤ pt ∧ pt ≤ 3) ∧ (0 ≤ ct ∧ ct ≤ 16383)) ∧ 1 ≤ n ∧ n ≤ 65536 := by
  unfold mayE at h
  by_cases h1 : (0 ≤ ap ∧ ap ≤ 2047) ∧ (0 ≤ pt ∧ pt ≤ 3) ∧ (0 ≤ ct ∧ ct ≤ 16383)
  · rw [if_pos h1] at h
    by_cases h2 : n = 0 ∨ 65536 < n
    · rw [if_pos h2] at h; omega
    · exact ⟨h1, by omega, by omega⟩
  · rw [if_neg h1] at h; omega
theorem hdL_len (u s ap pt ct n : Nat) : (hdL u s ap pt ct n).length = 6 := tab_len _ _
set_option maxHeartbeats 4000000 in
theorem encode_any (up se : Bool) (ap pt ct : Int) (a : Option Addr) (n cap : Nat) (D : List Nat) (w : World) (hR : Rd w a n cap D) :
    Calls Try.prog 4 #[pkV up se ap pt ct a n cap] w fun e w' => ∃ a' n' c', e = .returned (.tuple #[.slice a' n' c', .int .i64 (mayE ap pt ct n : Nat)]) ∧ Ans w' w.heap.size a' n' c' (encP up se ap pt ct D) ∧ w.grownBy w' none := by
  have HL : Hid (D.length = n) := hR.len
  have b0 := BxP.new w up se ap pt ct a n cap
  have g0 := World.grownBy_alloc w (.cells #[.bool up, .bool se, .int .i64 ap, .int .i64 pt, .int .i64 ct, .slice a n cap] 29) none
  by_cases hE : mayE ap pt ct n = 0
  · obtain ⟨⟨⟨a1, a2⟩, ⟨p1, p2⟩, c1, c2⟩, n1, n2⟩ := mayE_ok hE
    obtain ⟨ap', rfl⟩ := Int.eq_ofNat_of_zero_le a1
    obtain ⟨pt', rfl⟩ := Int.eq_ofNat_of_zero_le p1
    obtain ⟨ct', rfl⟩ := Int.eq_ofNat_of_zero_le c1
    have HEn : Hid (encP up se (ap' : Int) (pt' : Int) (ct' : Int) D = hdL up.toNat se.toNat ap' pt' ct' n ++ D) := by
      show _ = _
      unfold encP
      rw [HL.out, if_pos hE]; rfl
    have hwr := fun wz => wrong_any up se (ap' : Int) (pt' : Int) (ct' : Int) a n cap wz
    rw [hE] at hwr ⊢
    have hhd := fun wz => headOf_any up se ap' pt' ct' a n cap wz (by omega) (by omega) (by omega) n1 n2
    unfold pkV at hwr hhd ⊢
    generalize hw0 : w.alloc (.cells #[.bool up, .bool se, .int .i64 (ap' : Int), .int .i64 (pt' : Int), .int .i64 (ct' : Int), .slice a n cap] 29) = w0 at b0 g0
    have t1 : True := trivial
    obtain ⟨c0, c1', c2', c3, c4, c5⟩ := b0.cell
    go_enter Try.func4, Try.ntmps4
    go_wp2_with (first
      | (go_at_call 6; have _t := t1; clear t1; refine (hwr _).mono ?_; rintro e w1 ⟨rfl, g1⟩; have b1 := b0.keep g1 (by simp); clear c0 c1' c2' c3 c4 c5; obtain ⟨c0, c1', c2', c3, c4, c5⟩ := b1.cell; have hR1 := hR.keep (grown_trans g0 g1); have hsz1 : w.heap.size ≤ w1.heap.size := (grown_trans g0 g1).size))
    go_region_law (first
      | (go_simp; go_at_call 7; refine (hhd _).mono ?_; rintro e w2 ⟨a2', c2'', rfl, hA2, g2⟩; have g12 := grown_trans (grown_drew w1 none) g2; have hR2 := hR1.keep g12; have hM2 : Mine w1 none a2' 6 c2'' := fun g hg => .inr (hA2.new g hg); have b2 := b1.keep g12 (by simp); have c5b := b2.cell.2.2.2.2.2)
      | (refine step_join w1 w2 rfl (.tmp 11) (.tmp 13) rfl a2' 6 c2'' w1.heap.size none _ rfl hA2 g12 hM2 (Nat.le_refl _) a n cap D rfl hR2 (by omega) (by omega) ?_; intro gx cx w3 hA3 hG3 hM3))
    all_goals
      go_wp2
      go_ret2
      exact ⟨_, _, _, rfl, by rw [HEn.out]; exact hA3.wide hsz1, grown_trans (grown_trans g0 g1) hG3⟩
  · have HEn : Hid (encP up se ap pt ct D = []) := by
      show _ = _
      unfold encP
      rw [HL.out, if_neg hE]
    have hwr := fun wz => wrong_any up se ap pt ct a n cap wz
    generalize mayE ap pt ct n = E at hE hwr ⊢
    unfold pkV at hwr ⊢
    generalize hw0 : w.alloc (.cells #[.bool up, .bool se, .int .i64 ap, .int .i64 pt, .int .i64 ct, .slice a n cap] 29) = w0 at b0 g0
    have t1 : True := trivial
    obtain ⟨c0, c1', c2', c3, c4, c5⟩ := b0.cell
    have hne : (((E : Int) == 0) : Bool) = false := by simp; omega
    go_enter Try.func4, Try.ntmps4
    go_wp2_with (first
      | (go_at_call 6; have _t := t1; clear t1; refine (hwr _).mono ?_; rintro e w1 ⟨rfl, g1⟩))
    go_ret2
    exact ⟨_, _, _, rfl, by rw [HEn.out]; exact ans_nil _ _, grown_trans g0 g1⟩
end Go.Proofs.Ytijjkhmdhpbhpaa
