import Derived.Test.YtoennacklbkemaaTRSc
namespace Go.Proofs.Ytoennacklbkemaa
open Go.RowKit
set_option maxRecDepth 100000
set_option linter.unusedVariables false
set_option linter.unusedSimpArgs false

theorem mark_rd (w : World) : Rd (w.alloc (.cells #[.int .u8 26, .int .u8 207, .int .u8 252, .int .u8 29] 5)) (some ⟨w.heap.size, 0, none⟩) 4 4 [26, 207, 252, 29] := by
  have hB : Blk (w.alloc (.cells #[.int .u8 26, .int .u8 207, .int .u8 252, .int .u8 29] 5)) w.heap.size [26, 207, 252, 29] := heap_alloc_new w _
  exact hB.rd (by intro x hx; simp at hx; omega) (by decide) (by decide)
theorem rd_news {w : World} {b off n cap : Nat} {L : List Nat} (h : Rd w (some ⟨b, off, none⟩) n cap L) (h0 : 0 < n) : ∀ j u, (bys L)[j]? = some u → w.cell? ((⟨b, off, none⟩ : Addr).add j) = some u := by
  intro j u hu
  have hj : j < L.length := by have := (List.getElem?_eq_some_iff.1 hu).1; rw [bys_length] at this; exact this
  obtain ⟨b', off', e, _, hc⟩ := h.at' h0
  cases e
  rw [nth_bys L j hj] at hu
  rw [addr_add, ← hu]
  exact hc j (by rw [← h.len]; exact hj)
theorem bys_app (A B : List Nat) : bys A ++ bys B = bys (A ++ B) := by simp [bys]
/-- 'append(v, x...)', v an answer, x another -/
theorem wpList_join (w0 w : World) {ops : Array Oper} {rest : List Oper} {o : Oper} {a : Act} {Q : Exit → Act → World → Prop} (hg : o.guard = none) (s x : Operand)
    (hop : o.op = Op.call { callee := .builtin .append, args := #[s, x], argTypes := #[22, 22] }) (ao : Option Addr) (m co lo : Nat) (r : Option Nat) (D : List Nat) (hs : a.eval s = .slice ao m co)
    (hA : Ans w lo ao m co D) (hG : w0.grownBy w r) (hM : Mine w0 r ao m co) (hlo : lo ≤ w0.heap.size) (ax : Option Addr) (nx cx : Nat) (X : List Nat) (hx : a.eval x = .slice ax nx cx) (hR : Rd w ax nx cx X) (h0 : 0 < nx) (hb : m + nx ≤ 140737488355328)
    (hK : ∀ gx cx w', Ans w' lo (some ⟨gx, 0, none⟩) (m + nx) cx (D ++ X) → w0.grownBy w' r → Mine w0 r (some ⟨gx, 0, none⟩) (m + nx) cx → wpList Try.prog ops Q rest (a.put o.dst (.slice (some ⟨gx, 0, none⟩) (m + nx) cx)) w') :
    wpList Try.prog ops Q (o :: rest) a w := by
  obtain ⟨b, off, rfl, _, _⟩ := hR.at' h0
  refine wpList_apB _ hg s x hop (.slice ao m co) m (bys D) hs hA.own ⟨b, off, none⟩ nx cx (bys X) hx (by rw [bys_length, hR.len]) (rd_news hR h0) (bys_one _) h0 hb ?_
  intro gx cx' w2 hgx hgr2 hown2
  rw [bys_app] at hown2
  have hG2 := grown_mine hG hgr2 hM
  have hsz := hG.size
  refine hK gx cx' w2 ⟨hown2, isB_append hA.byte hR.byte, fun g h => ?_⟩ hG2 (fun g h => ?_)
  · have e : gx = g := Option.some.inj h
    subst e
    rcases hgx with h | h
    · exact hA.new gx h
    · exact Nat.le_trans hlo (Nat.le_trans hsz h)
  · have e : gx = g := Option.some.inj h
    subst e
    rcases hgx with h | h
    · exact hM gx h
    · exact .inr (Nat.le_trans hsz h)
set_option maxHeartbeats 1000000 in
theorem rframed_any (a : Option Addr) (n cap : Nat) (L : List Nat) (w : World) (hp : Rd w a n cap L) :
    Calls Try.prog 18 #[.slice a n cap] w fun e w' => ∃ a' n' c', e = .returned (.tuple #[.slice a' n' c', .int .i64 (frmE L)]) ∧ Ans w' w.heap.size a' n' c' (frmR L) ∧ w.grownBy w' none := by
  have HL : Hid (L.length = n) := hp.len
  have hle := hp.le
  have hmx := hp.max
  unfold maxLen at hmx
  by_cases h0 : n = 0
  · have HE : Hid (frmE L = 1) := by show _ = _; unfold frmE; rw [HL.out, if_pos (.inl h0)]
    have HR : Hid (frmR L = []) := by show _ = _; unfold frmR; rw [HL.out, if_pos (.inl h0)]
    subst h0
    go_enter Try.func18, Try.ntmps18
    go_wp2
    go_ret2
    exact ⟨none, 0, 0, by rw [HE.out]; rfl, by rw [HR.out]; exact ans_nil _ _, World.grownBy.refl _ _⟩
  · by_cases hbig : 2048 < n
    · have HE : Hid (frmE L = 1) := by show _ = _; unfold frmE; rw [HL.out, if_pos (.inr hbig)]
      have HR : Hid (frmR L = []) := by show _ = _; unfold frmR; rw [HL.out, if_pos (.inr hbig)]
      have h0' : ((n : Int) == 0) = false := by simp; omega
      go_enter Try.func18, Try.ntmps18
      go_wp2
      go_ret2
      exact ⟨none, 0, 0, by rw [HE.out]; rfl, by rw [HR.out]; exact ans_nil _ _, World.grownBy.refl _ _⟩
    · have HE : Hid (frmE L = 0) := by show _ = _; unfold frmE; rw [HL.out, if_neg (by omega)]
      have HR : Hid (frmR L = tab 32 mkN ++ bitL (scrL L)) := by show _ = _; unfold frmR frmL; rw [HL.out, if_neg (by omega)]
      have h0' : ((n : Int) == 0) = false := by simp; omega
      have hmk := mark_rd w
      have gmk := World.grownBy_alloc w (.cells #[.int .u8 26, .int .u8 207, .int .u8 252, .int .u8 29] 5) none
      generalize hwm : w.alloc (.cells #[.int .u8 26, .int .u8 207, .int .u8 252, .int .u8 29] 5) = wm at hmk gmk
      have hpm := hp.keep gmk
      have t1 : True := trivial
      go_enter Try.func18, Try.ntmps18
      go_wp2_with (first
        | (go_at_call 17; have _t := t1; clear t1; (try rw [hwm]); refine (rbits_any _ 4 4 _ wm hmk (by decide)).mono ?_; rintro e w1 ⟨a1, c1, rfl, hA1, g1⟩; have t2 : True := trivial)
        | (go_at_call 15; refine (rscramble_any a n cap L w1 (hpm.keep g1) (by omega)).mono ?_; rintro e w2 ⟨a2, c2, rfl, hA2, g2⟩)
        | (go_at_call 17; have _t := t2; clear t2; refine (rbits_any a2 n c2 _ w2 hA2.rd (by omega)).mono ?_; rintro e w3 ⟨a3, c3, rfl, hA3, g3⟩)
        | (at_builtin; refine wpList_join wm w3 rfl _ _ rfl a1 (8 * 4) c1 wm.heap.size none _ rfl (hA1.keep (grown_trans g2 g3)) (grown_trans g1 (grown_trans g2 g3)) (fun g hg => .inr (hA1.new g hg)) (Nat.le_refl _) a3 (8 * n) c3 _ rfl hA3.rd (by omega) (by omega) ?_; intro gx cx w4 hA4 hG4 hM4))
      go_ret2
      rw [mark_bits] at hA4
      exact ⟨_, _, cx, by rw [HE.out]; rfl, by rw [HR.out]; exact hA4.wide gmk.size, grown_trans gmk hG4⟩
theorem frmR_le (L : List Nat) : (frmR L).length ≤ 16416 := by
  unfold frmR frmL
  split
  · simp
  · rw [List.length_append, tab_len, bitL_len, scrL_len]; omega
set_option maxHeartbeats 1000000 in
theorem frames_walk (a : Option Addr) (n cap : Nat) (P : List Nat) (w : World) (hp : Rd w a n cap P) (hn : n ≤ 140737488351232) :
    Calls Try.prog 4 #[.slice a n cap] w fun e w' => e = .returned (.bool true) ∧ Below w.heap.size w w' := by
  have t1 : True := trivial
  have sle := frmR_le P
  go_enter Try.func4, Try.ntmps4
  go_wp2_with (first
    | (go_at_call 9; have _t := t1; clear t1; refine (roomy_any a n cap P w hp hn).mono ?_; rintro e w1 ⟨rfl, ⟨Dh, hh1⟩, g01⟩; have hp1 := hp.keep g01; have t2 : True := trivial)
    | (go_at_call 18; have _t := t2; clear t2; refine (rframed_any a n cap P w1 hp1).mono ?_; rintro e w2 ⟨aw, nw, cw, rfl, hw2, g12⟩; have hH2 := (hh1.keep g12).rd hp.byte hp.len hn; have t3 : True := trivial)
    | (go_at_call 19; have _t := t3; clear t3; refine (frame_any _ n _ P w2 hH2).mono ?_; rintro e w3 ⟨aa, na, ca, rfl, ha3, g23⟩; have hH3 := hH2.keep g23; have t4 : True := trivial)
    | (go_at_call 19; have _t := t4; clear t4; refine (frame_any _ n _ P w3 hH3).mono ?_; rintro e w4 ⟨ab, nb, cb, rfl, hb4, g34⟩; have hna := ha3.len; have t5 : True := trivial)
    | (go_at_call 12; have _t := t5; clear t5; refine (twice_any aa ab aw na nb nw ca cb cw w2.heap.size _ w4 (ha3.keep g34) hb4.rd (hw2.keep (grown_trans g23 g34)).rd (by omega) (ha3.later hb4 (Nat.le_refl _)) (ha3.earlier hw2 (Nat.le_refl _))).mono ?_; rintro e w5 ⟨rfl, g45⟩; have g15 := grown_far (grown_trans g12 (grown_trans g23 g34)) g45 (ha3.far _ g12.size); have g05 := grown_trans g01 g15; have t6 : True := trivial)
    | (go_at_call 13; have _t := t6; clear t6; refine (left_any w.heap.size a n cap P Dh w5 (hh1.keep g15) (hp.keep g05) hn).mono ?_; rintro e w6 ⟨rfl, g56⟩))
  go_ret
  exact ⟨rfl, (Below.refl _ _).grown (grown_trans g05 g56) (Nat.le_refl _) (fun k hk => by cases hk)⟩
end Go.Proofs.Ytoennacklbkemaa
