import Derived.Test.YtlaiocefbhoccaaDoorYKm
import Derived.Test.YtlaiocefbhoccaaDoorYCv
import Derived.Test.YtlaiocefbhoccaaDoorYRt
namespace Go.Proofs.YtlaiocefbhoccaaDoor
open Go.RowKit
set_option maxRecDepth 100000
set_option linter.unusedVariables false
set_option linter.unusedSimpArgs false
theorem own_from {w : World} {lo : Nat} {a : Option Addr} {n cap : Nat} {L : List Nat} (h : Ans w lo a n cap L) : w.ownsRow lo 5 1 (.slice a n cap) n (bys L) := by
  refine ⟨h.own.1, ?_⟩
  rcases h.own.2 with h1 | ⟨g, cap', cur, h1, _, h2⟩
  · exact .inl h1
  · refine .inr ⟨g, cap', cur, h1, h.new g (by rw [h1]; rfl), h2⟩
/-- 'append(v, x...)' of bytes, x however long -/
theorem wpList_joinA (w0 w : World) (lo : Nat) {ops : Array Oper} {rest : List Oper} {o : Oper} {a : Act} {Q : Exit → Act → World → Prop} (hg : o.guard = none) (s x : Operand)
    (hop : o.op = Op.call { callee := .builtin .append, args := #[s, x], argTypes := #[24, 24] }) (ao : Option Addr) (m co : Nat) (D : List Nat) (hs : a.eval s = .slice ao m co)
    (hA : Ans w lo ao m co D) (hm0 : 0 < m) (hlo : w0.heap.size ≤ lo) (hlw : lo ≤ w.heap.size) (hG : w0.grownBy w none) (ax : Option Addr) (k cx : Nat) (X : List Nat) (hx : a.eval x = .slice ax k cx) (hX : Rd w ax k cx X)
    (hb : m + k ≤ 140737488355000)
    (hK : ∀ a1 c1 w', Ans w' lo a1 (m + k) c1 (D ++ X) → w0.grownBy w' none → w.grownBy w' (Value.slice ao m co).ownBlock → wpList Tryd.prog ops Q rest (a.put o.dst (.slice a1 (m + k) c1)) w') :
    wpList Tryd.prog ops Q (o :: rest) a w := by
  by_cases hk : 0 < k
  · obtain ⟨b, off, rfl, _, _⟩ := hX.at' hk
    refine wpList_joinB w0 w lo hg s x hop ao m co D hs hA hlo hlw hG ⟨b, off, none⟩ k cx X hx hX.len hX.byte (cells_rd hX hk) hk hb ?_
    intro gx cx' w' h1 h2 _ h4
    exact hK _ _ _ h1 h2 h4
  · obtain rfl : k = 0 := by omega
    have hXz : X = [] := List.eq_nil_of_length_eq_zero hX.len
    subst hXz
    have hcb := hX.max
    obtain ⟨i0, hi, hz0, hz1, hz2⟩ := info_parts Tryd.info_u8
    cases ax with
    | none =>
      have hc0 : cx = 0 := hX.nil rfl
      subst hc0
      refine wpList_append_own_none hg s x 24 hop 0 5 i0 1 Tryd.underlying24 hi (.slice ao m co) m (bys D) hs hA.own hx ?_
      refine hK ao co w ?_ hG (World.grownBy.refl _ _)
      rw [List.append_nil]; exact hA
    | some ad =>
      refine wpList_append_own w hg s x 24 hop lo 5 i0 (.int .u8 0) 1 1 Tryd.underlying24 hi hz0 hz1 hz2 rfl (by decide) (.slice ao m co) m (bys D) hs (own_from hA) ad 0 cx [] hx rfl (fun j u h => by simp at h) (fun u h => by simp at h) (by have := hA.max; omega) (by omega) hlw ?_
      intro v' w' hown' hgr hnil
      rw [List.append_nil] at hown'
      rcases hown'.2 with ⟨_, h0⟩ | ⟨g', cap', cur, rfl, hge, hrest⟩
      · omega
      · refine hK _ _ w' ?_ (grown_far hG hgr (fun g h => Nat.le_trans hlo (hA.new g h))) hgr
        rw [List.append_nil]
        exact ⟨own_base hown', hA.byte, fun g h => by have e : g' = g := Option.some.inj h; omega⟩
/-- the bytes that are sealed: head and hidden body; with the tag -/
def slH (W : Nat → Nat) (c i : Nat) (B : List Nat) : List Nat := [i] ++ beT 6 c 6 ++ cvL W c B
def slL (W : Nat → Nat) (c i : Nat) (B : List Nat) : List Nat := slH W c i B ++ tagL W c (slH W c i B)
theorem kmB_true {id : Int} {n : Nat} {S : List Int} {top seen : Int} (h : kmB id n S top seen = true) : (0 ≤ id ∧ id ≤ 255) ∧ n = 8 ∧ ∀ i, i < 8 → nthI S i = ((nthI S i).toNat : Int) ∧ (nthI S i).toNat < 4294967296 := by
  unfold kmB at h
  simp only [Bool.and_eq_true, beq_iff_eq] at h
  obtain ⟨⟨⟨h1, h2⟩, _⟩, _⟩ := h
  refine ⟨kwB_ok h1, ?_⟩
  unfold wdE at h2
  by_cases h8 : n = 8
  · rw [if_pos h8] at h2
    by_cases hw : wdB S = true
    · exact ⟨h8, fun i hi => by have := wdB_ok hw i hi; omega⟩
    · rw [if_neg hw] at h2; omega
  · rw [if_neg h8] at h2; omega
set_option maxHeartbeats 4000000 in
theorem sealed_bad (id : Int) (a bo : Option Addr) (n cap m cb : Nat) (top seen z : Int) (S : List Int) (w : World) (hp : RdI w a n cap S) (bt : -9223372036854775808 ≤ top ∧ top ≤ 9223372036854775807) (bs : -9223372036854775808 ≤ seen ∧ seen ≤ 9223372036854775807) (hk : kmB id n S top seen = false) :
    Calls Tryd.prog 18 #[kyV id a n cap top seen, .int .i64 z, .slice bo m cb] w fun e w' => e = .returned (.tuple #[.slice none 0 0, .int .i64 11]) ∧ w.grownBy w' none := by
  have gA := World.grownBy_alloc w (.cells #[.int .i64 id, .slice a n cap, .int .i64 top, .int .i64 seen] 36) none
  have hM := rkeyMay_any id a n cap top seen S _ (hp.keep gA) bt bs
  rw [hk] at hM
  go_enter Tryd.func18, Tryd.ntmps18
  go_wp2_with (go_at_call 37; refine hM.mono ?_; rintro e w1 ⟨rfl, g1⟩)
  go_ret2
  exact ⟨rfl, grown_trans gA g1⟩
set_option maxHeartbeats 4000000 in
theorem sealed_range (id : Int) (a bo : Option Addr) (n cap m cb : Nat) (top seen z : Int) (S : List Int) (w : World) (hp : RdI w a n cap S) (bt : -9223372036854775808 ≤ top ∧ top ≤ 9223372036854775807) (bs : -9223372036854775808 ≤ seen ∧ seen ≤ 9223372036854775807) (hk : kmB id n S top seen = true) (hz : kwB z 0 281474976710655 = false) :
    Calls Tryd.prog 18 #[kyV id a n cap top seen, .int .i64 z, .slice bo m cb] w fun e w' => e = .returned (.tuple #[.slice none 0 0, .int .i64 2]) ∧ w.grownBy w' none := by
  have gA := World.grownBy_alloc w (.cells #[.int .i64 id, .slice a n cap, .int .i64 top, .int .i64 seen] 36) none
  have hM := rkeyMay_any id a n cap top seen S _ (hp.keep gA) bt bs
  rw [hk] at hM
  have hz' : ¬ (0 ≤ z ∧ z ≤ 281474976710655) := of_decide_eq_false hz
  by_cases h1 : z < 0
  · go_enter Tryd.func18, Tryd.ntmps18
    go_wp2_with (go_at_call 37; refine hM.mono ?_; rintro e w1 ⟨rfl, g1⟩)
    go_ret2
    exact ⟨rfl, grown_trans gA g1⟩
  · have h2 : z > 281474976710655 := by omega
    go_enter Tryd.func18, Tryd.ntmps18
    go_wp2_with (go_at_call 37; refine hM.mono ?_; rintro e w1 ⟨rfl, g1⟩)
    go_ret2
    exact ⟨rfl, grown_trans gA g1⟩
set_option maxHeartbeats 4000000 in
theorem sealed_long (id : Int) (a bo : Option Addr) (n cap m cb : Nat) (top seen z : Int) (S : List Int) (w : World) (hp : RdI w a n cap S) (bt : -9223372036854775808 ≤ top ∧ top ≤ 9223372036854775807) (bs : -9223372036854775808 ≤ seen ∧ seen ≤ 9223372036854775807) (hk : kmB id n S top seen = true) (hz : kwB z 0 281474976710655 = true) (B : List Nat) (hb : Rd w bo m cb B) (hm : 1000 < m) :
    Calls Tryd.prog 18 #[kyV id a n cap top seen, .int .i64 z, .slice bo m cb] w fun e w' => e = .returned (.tuple #[.slice none 0 0, .int .i64 1]) ∧ w.grownBy w' none := by
  have gA := World.grownBy_alloc w (.cells #[.int .i64 id, .slice a n cap, .int .i64 top, .int .i64 seen] 36) none
  have hM := rkeyMay_any id a n cap top seen S _ (hp.keep gA) bt bs
  rw [hk] at hM
  obtain ⟨z0, z1⟩ := kwB_ok hz
  have h1 : ¬ z < 0 := by omega
  have h2 : ¬ z > 281474976710655 := by omega
  have q1 := hb.le; have q2 := hb.max
  unfold maxLen at q2
  have hmi : (m : Int) > 1000 := by omega
  go_enter Tryd.func18, Tryd.ntmps18
  go_wp2_with (go_at_call 37; refine hM.mono ?_; rintro e w1 ⟨rfl, g1⟩)
  go_ret2
  exact ⟨rfl, grown_trans gA g1⟩
set_option maxHeartbeats 8000000 in
theorem sealed_ok (i : Nat) (a bo : Option Addr) (cap m cb c : Nat) (top seen : Int) (S : List Int) (W : Nat → Nat) (B : List Nat) (w : World) (hp : RdI w a 8 cap S) (bt : -9223372036854775808 ≤ top ∧ top ≤ 9223372036854775807) (bs : -9223372036854775808 ≤ seen ∧ seen ≤ 9223372036854775807) (hk : kmB i 8 S top seen = true)
    (hi : i ≤ 255) (hW : ∀ i, i < 8 → nthI S i = (W i : Int) ∧ W i < 4294967296) (hc : c < 281474976710656) (hb : Rd w bo m cb B) (hm : m ≤ 1000) :
    Calls Tryd.prog 18 #[kyV i a 8 cap top seen, .int .i64 c, .slice bo m cb] w fun e w' => ∃ a' c', e = .returned (.tuple #[.slice a' (m + 15) c', .int .i64 0]) ∧ Ans w' w.heap.size a' (m + 15) c' (slL W c i B) ∧ w.grownBy w' none := by
  have gA := World.grownBy_alloc w (.cells #[.int .i64 (i : Nat), .slice a 8 cap, .int .i64 top, .int .i64 seen] 36) none
  have bx := heap_alloc_new w (.cells #[.int .i64 (i : Nat), .slice a 8 cap, .int .i64 top, .int .i64 seen] 36)
  have hM := rkeyMay_any i a 8 cap top seen S _ (hp.keep gA) bt bs
  rw [hk] at hM
  have hci : ¬ (c : Int) > 281474976710655 := by omega
  have hmi : ¬ (m : Int) > 1000 := by omega
  have hil : i < 256 := by omega
  have hi8 : (i : Int) % 256 = (i : Int) := by omega
  clear hk
  go_enter Tryd.func18, Tryd.ntmps18
  go_wp2_with (go_at_call 37; refine hM.mono ?_; rintro e w1 ⟨rfl, g1⟩; have bx1 : w1.heap[w.heap.size]? = _ := (g1.block w.heap.size (by simp) (by simp)).trans bx; have c0 : w1.cell? ⟨w.heap.size, 0, none⟩ = some (.int .i64 (i : Nat)) := by rw [cell_of_row _ _ _ _ _ _ bx1]; rfl)
  have hsb : (w.alloc (.cells #[.int .i64 (i : Nat), .slice a 8 cap, .int .i64 top, .int .i64 seen] 36)).heap.size = w.heap.size + 1 := by simp
  generalize w.alloc (.cells #[.int .i64 (i : Nat), .slice a 8 cap, .int .i64 top, .int .i64 seen] 36) = wb at *
  have g1A := World.grownBy_alloc w1 (.cells #[.int .u8 (i : Nat)] 5) none
  have GB0 := grown_trans g1 g1A
  have hA0 : Ans (w1.alloc (.cells #[.int .u8 (i : Nat)] 5)) wb.heap.size (some ⟨w1.heap.size, 0, none⟩) 1 1 ([i] ++ beT 6 c 0) :=
    ⟨⟨rfl, .inr ⟨w1.heap.size, 1, #[.int .u8 (i : Nat)], rfl, Nat.zero_le _, heap_alloc_new w1 _, Nat.le_refl _, by decide, rfl, rfl⟩⟩, (fun y hy => by simp [beT] at hy; omega), fun g h => by have e : w1.heap.size = g := Option.some.inj h; have := g1.size; omega⟩
  generalize w1.alloc (.cells #[.int .u8 (i : Nat)] 5) = wc at *
  clear hM bx1 c0 g1A
  go_loopw [8, 9] (fun x q wr => ∃ (j p : Nat) (ao : Option Addr) (co : Nat), j + p = 6 ∧ q = .int .i64 ((j : Int) - 1) ∧ x = .slice ao (1 + p) co ∧ Ans wr wb.heap.size ao (1 + p) co ([i] ++ beT 6 c p) ∧ wb.grownBy wr none) (fun _ q _ => (intOf q + 1).toNat)
  case atStart => exact ⟨6, 0, _, _, rfl, rfl, rfl, hA0, GB0⟩
  case round =>
    obtain ⟨j, p, ao, co, hjp, rfl, rfl, hAp, hGp⟩ := hrel
    cases j with
    | zero =>
      obtain rfl : p = 6 := by omega
      have hbxr : wr.heap[w.heap.size]? = _ := (hGp.block w.heap.size (by omega) (by simp)).trans bx
      have c1 : wr.cell? ⟨w.heap.size, 1, none⟩ = some (.slice a 8 cap) := by rw [cell_of_row _ _ _ _ _ _ hbxr]; rfl
      have GW := grown_trans gA hGp
      have hCv := covered_any a bo cap c m cb S W B wr (hp.keep GW) hW hc (hb.keep GW) hm
      have hBl := hb.len
      have t1 : True := trivial
      go_wp2_with (first
        | (go_at_call 38; refine hCv.mono ?_; rintro e w3 ⟨av, cv, rfl, hA3, g3⟩; have hAk := hAp.keep g3; have G3 := grown_trans hGp g3; have hs3 := G3.size)
        | (at_builtin; have _t := t1; clear t1; refine wpList_joinA wb w3 wb.heap.size rfl _ _ rfl ao 7 co _ rfl hAk (by decide) (Nat.le_refl _) hs3 G3 av m cv _ rfl hA3.rd (by omega) ?_; intro a4 c4 w4 hA4 G4 gr4; have hbx4 : w4.heap[w.heap.size]? = _ := (G4.block w.heap.size (by omega) (by simp)).trans bx; have c14 : w4.cell? ⟨w.heap.size, 1, none⟩ = some (.slice a 8 cap) := (by rw [cell_of_row _ _ _ _ _ _ hbx4]; rfl); have G04 := grown_trans gA G4; have hT := tagP_ok a a4 cap c (7 + m) c4 S W _ w4 (hp.keep G04) hW hc hA4.rd (by omega); have t2 : True := trivial)
        | (go_at_call 15; refine hT.mono ?_; rintro e w5 ⟨a5, c5, rfl, hA5, g5⟩; have hA45 := hA4.keep g5; have G5 := grown_trans G4 g5; have hs5 := G5.size)
        | (at_builtin; have _t := t2; clear t2; refine wpList_joinA wb w5 wb.heap.size rfl _ _ rfl a4 (7 + m) c4 _ rfl hA45 (by omega) (Nat.le_refl _) hs5 G5 a5 8 c5 _ rfl hA5.rd (by omega) ?_; intro a6 c6 w6 hA6 G6 gr6))
      go_ret2
      refine ⟨a6, c6, ?_, ?_, grown_trans gA G6⟩
      · rw [show m + 15 = 7 + m + 8 by omega]; rfl
      · rw [show m + 15 = 7 + m + 8 by omega]
        exact ⟨hA6.own, hA6.byte, fun g h => by have := hA6.new g h; omega⟩
    | succ j =>
      have e1 : ((j + 1 : Nat) : Int) - 1 = (j : Int) := by omega
      rw [e1]
      clear e1
      obtain ⟨y, hy⟩ : ∃ y, y = c / 2 ^ (8 * j) % 256 := ⟨_, rfl⟩
      have ey : (c : Int) / 2 ^ (8 * j) % 256 = (y : Int) := by rw [hy, Int.natCast_emod, Int.natCast_ediv, Int.natCast_pow]; rfl
      have hyl : y < 256 := by rw [hy]; exact Nat.mod_lt _ (by decide)
      have HY : Hid ([i] ++ beT 6 c (p + 1) = [i] ++ beT 6 c p ++ [y]) := by
        show _ = _
        rw [beT_succ, List.append_assoc]
        unfold beB
        rw [hy, show (6 - 1 - p) * 8 = 8 * j by omega]
      have hj0 : (0 : Int) ≤ (j : Int) := by omega
      have hj8 : 8 * (j : Int) < 64 := by omega
      have hAl := hAp.keep (World.grownBy_alloc wr (.cells #[.int .u8 (y : Nat)] 5) none)
      have hGl := grown_trans hGp (World.grownBy_alloc wr (.cells #[.int .u8 (y : Nat)] 5) none)
      have hsz := hGl.size
      have hyB : IsB [y] := fun z hz => by simp at hz; subst hz; exact hyl
      clear hy
      go_wp2_with (at_builtin; refine wpList_joinB wb _ wb.heap.size rfl _ _ rfl ao (1 + p) co _ rfl hAl (Nat.le_refl _) hsz hGl ⟨wr.heap.size, 0, none⟩ 1 1 [y] rfl rfl hyB (cell_one wr (.int .u8 (y : Nat))) (by decide) (by omega) ?_; intro gx cx w5 hA5 hG5 hgx hgr5)
      rw [← HY.out] at hA5
      go_roundw
      case rel => exact ⟨j, p + 1, some ⟨gx, 0, none⟩, cx, by omega, by go_num, rfl, hA5, hG5⟩
      case measure => simp [intOf] <;> omega
end Go.Proofs.YtlaiocefbhoccaaDoor
