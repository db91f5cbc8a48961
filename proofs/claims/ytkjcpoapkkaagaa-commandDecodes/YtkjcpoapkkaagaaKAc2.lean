import Derived.Test.YtkjcpoapkkaagaaKAc1
import Derived.ChangeKeysEq
namespace Go.Proofs.Ytkjcpoapkkaagaa
open Go.RowKit
set_option maxRecDepth 100000
set_option linter.unusedVariables false
set_option linter.unusedSimpArgs false

theorem plain_u8 : Try.prog.plainKey 5 = true := by kernel_rfl
theorem cells_u8 : Try.prog.cellsOf 5 = 1 := by kernel_rfl
theorem eq_u8 (d : Nat) (x y : Int) (w : World) : (Op.equalIn (d + 1) 5 (.int .u8 x) (.int .u8 y)).run Try.prog w = .ok (x == y) w := run_equalIn_int w d 5 .u8 .u8 x y Try.underlying5
theorem items_u8 (d : Nat) (xs ys : List Int) (is : List Nat) (w : World) (hx : ∀ i ∈ is, i < xs.length) (hy : ∀ i ∈ is, i < ys.length) :
    (Op.eqItems (d + 1) 5 1 (xs.map (Value.int .u8 ·)).toArray (ys.map (Value.int .u8 ·)).toArray is).run Try.prog w = .ok (is.all fun i => xs.getD i 0 == ys.getD i 0) w := by
  induction is with
  | nil => simp [Op.eqItems]
  | cons i is ih =>
    have h1 := hx i (by simp)
    have h2 := hy i (by simp)
    have p1 := run_part_plain w plain_u8 (xs := (xs.map (Value.int .u8 ·)).toArray) (off := i * 1) (v := .int .u8 (xs.getD i 0)) (by simp [h1])
    have p2 := run_part_plain w plain_u8 (xs := (ys.map (Value.int .u8 ·)).toArray) (off := i * 1) (v := .int .u8 (ys.getD i 0)) (by simp [h2])
    simp only [Op.eqItems, Sem.run_bind, p1, p2, Result.andThen_ok, eq_u8]
    rw [List.all_cons]
    cases hb : (xs.getD i 0 == ys.getD i 0) with
    | false => simp
    | true => simpa using ih (fun j hj => hx j (by simp [hj])) (fun j hj => hy j (by simp [hj]))
/-- arrays of bytes compared -/
theorem arr_u8 {t : TypeId} {n : Nat} (hu : Try.prog.underlying t = some (.array n 5)) (xs ys : List Int) (hx : xs.length = n) (hy : ys.length = n) (w : World) :
    (Op.equalIn 10000 t (.agg (xs.map (Value.int .u8 ·)).toArray) (.agg (ys.map (Value.int .u8 ·)).toArray)).run Try.prog w = .ok ((List.range n).all fun i => xs.getD i 0 == ys.getD i 0) w := by
  obtain ⟨i0, hi, _⟩ := info_parts Try.info_u8
  rw [run_equalIn_array w 9999 _ _ hu hi, cells_u8]
  exact items_u8 9998 xs ys _ w (fun i h => by rw [hx]; exact List.mem_range.1 h) (fun i h => by rw [hy]; exact List.mem_range.1 h)
theorem arr1_u8 (x y : Int) (w : World) : (Op.equalIn 10000 114 (.agg #[.int .u8 x]) (.agg #[.int .u8 y])).run Try.prog w = .ok (x == y) w :=
  (arr_u8 Try.underlying114 [x] [y] rfl rfl w).trans (by congr 1; simp [List.range_succ])
theorem arr2_u8 (x x' y y' : Int) (w : World) : (Op.equalIn 10000 115 (.agg #[.int .u8 x, .int .u8 x']) (.agg #[.int .u8 y, .int .u8 y'])).run Try.prog w = .ok (x == y && x' == y') w :=
  (arr_u8 Try.underlying115 [x, x'] [y, y'] rfl rfl w).trans (by congr 1; simp [List.range_succ])
theorem arr_at {P : Program} {w : World} (arr e : TypeId) (n : Nat) (a : Option Addr) (len cap : Nat) (h : P.underlying arr = some (.array n e)) (hn : n ≤ len) : (Instr.arrayAt arr (.slice a len cap)).run P w = .ok (.pointer a) w := by
  simp [Instr.arrayAt, run_underlying h, Nat.not_lt.2 hn]
/-- what is for the gate itself -/
def Gt.oby (g : Gt) (D : List Nat) : Gt × Nat :=
  if D.length = 1 ∧ nth D 0 = 0 then (Gt.mk g.cr g.nx g.ha false false false ((g.ct + 1) % 4), 0)
  else if D.length = 3 ∧ nth D 0 = 130 ∧ nth D 1 = 0 then (if g.sh = true then (Gt.mk g.cr g.nx g.ha g.sh g.wa g.ag ((g.ct + 1) % 4), 0) else (Gt.mk g.cr (nth D 2) g.ha g.sh false false ((g.ct + 1) % 4), 0))
  else (g, 8)
set_option maxHeartbeats 16000000 in
theorem obey_any (b : Nat) (g : Gt) (a : Option Addr) (n c : Nat) (D : List Nat) (w : World) (h : BxS w b 89 g.A) (hg : g.may = true) (hR : Rd w a n c D) (hn : n ≤ 1017) :
    Calls Try.prog 79 #[.pointer (some ⟨b, 0, none⟩), .slice a n c] w fun e w' => e = .returned (.int .i64 ((g.oby D).2 : Nat)) ∧ BxS w' b 89 (g.oby D).1.A ∧ w.grownBy w' (some b) := by
  obtain ⟨⟨q1, q2⟩, ⟨n1, n2⟩, ⟨a1, a2⟩, ⟨k1, k2⟩⟩ := gmay_ok hg
  obtain ⟨cr, nx, ha, sh, wa, ag, ct⟩ := g
  unfold Gt.oby
  simp only [Gt.A] at h n1 n2 a1 a2 k1 k2 q1 q2 ⊢
  clear hg
  obtain ⟨c0, c1, c2, c3, c4, c5, c6⟩ := BxS.cell7 h
  have hle := hR.le
  rw [hR.len]
  by_cases e1 : n = 1
  · subst e1
    obtain ⟨bd, off, rfl, hbw, hcc⟩ := hR.at' (by omega)
    have d0 := hcc 0 (by omega)
    rw [Nat.add_zero] at d0
    clear hcc
    have hAr := fun cz => arr_at (P := Try.prog) (w := w) 114 _ 1 (some ⟨bd, off, none⟩) 1 cz Try.underlying114 (Nat.le_refl _)
    generalize nth D 0 = x at d0 ⊢
    by_cases hx : x = 0
    · subst hx
      have hEq := arr1_u8 0 0 w
      rw [show ((0 : Int) == 0) = true from rfl] at hEq
      rw [if_pos ⟨rfl, rfl⟩]
      have f3 := h.free 3
      have hS : BxS _ b 89 (gtA cr nx ha false wa ag ct) := h.set 3 (.bool false)
      have gS := grown_set w b 3 (.bool false)
      have hC := calm_any b cr nx ha false wa ag ct _ hS
      have hK := fun wz hz => count_any b cr nx ha false false false ct wz hz k1 k2
      go_enter Try.func79, Try.ntmps79
      go_wp2_with (first
        | (go_at_call 89; refine hC.mono ?_; rintro e w2 ⟨rfl, h2, g2⟩)
        | (go_at_call 80; refine (hK w2 h2).mono ?_; rintro e w3 ⟨rfl, h3, g3⟩))
      go_ret
      exact ⟨rfl, h3, grown_trans gS (grown_trans g2 g3)⟩
    · rw [if_neg (fun h => hx h.2), if_neg (fun h => by omega)]
      have l0 : (((x : Int) == 0) : Bool) = false := by simp; omega
      have hEq := arr1_u8 x 0 w
      rw [l0] at hEq
      clear hx
      go_enter Try.func79, Try.ntmps79
      go_wp2
      go_ret
      exact ⟨rfl, h, World.grownBy.refl _ _⟩
  · rw [if_neg (fun h => e1 h.1)]
    have l1 : (((n : Int) == 1) : Bool) = false := by simp; omega
    by_cases e3 : n = 3
    · subst e3
      obtain ⟨bd, off, rfl, hbw, hcc⟩ := hR.at' (by omega)
      have d0 := hcc 0 (by omega)
      have d1 := hcc 1 (by omega)
      have d2 := hcc 2 (by omega)
      rw [Nat.add_zero] at d0
      clear hcc
      have hAr := fun cz => arr_at (P := Try.prog) (w := w) 115 _ 2 (some ⟨bd, off, none⟩) 3 cz Try.underlying115 (by decide)
      have b2 := hR.byte.nth 2
      generalize nth D 0 = x at d0 ⊢
      generalize nth D 1 = y at d1 ⊢
      generalize nth D 2 = z at d2 b2 ⊢
      by_cases hx : x = 130
      · subst hx
        by_cases hy : y = 0
        · subst hy
          rw [if_pos ⟨rfl, rfl, rfl⟩]
          have hEq := arr2_u8 130 0 130 0 w
          rw [show (((130 : Int) == 130) && ((0 : Int) == 0)) = true from rfl] at hEq
          cases sh
          · rw [if_neg (by decide)]
            have f1 := h.free 1
            have hS : BxS _ b 89 (gtA cr (z : Int) ha false wa ag ct) := h.set 1 (.int .i64 (z : Int))
            have gS := grown_set w b 1 (.int .i64 (z : Int))
            have hC := calm_any b cr (z : Int) ha false wa ag ct _ hS
            have hK := fun wz hz => count_any b cr (z : Int) ha false false false ct wz hz k1 k2
            go_enter Try.func79, Try.ntmps79
            go_wp2_with (first
              | (go_at_call 89; refine hC.mono ?_; rintro e w2 ⟨rfl, h2, g2⟩)
              | (go_at_call 80; refine (hK w2 h2).mono ?_; rintro e w3 ⟨rfl, h3, g3⟩))
            go_ret
            exact ⟨rfl, h3, grown_trans gS (grown_trans g2 g3)⟩
          · rw [if_pos rfl]
            have hK := count_any b cr nx ha true wa ag ct w h k1 k2
            go_enter Try.func79, Try.ntmps79
            go_wp2_with (first
              | (go_at_call 80; refine hK.mono ?_; rintro e w3 ⟨rfl, h3, g3⟩))
            go_ret
            exact ⟨rfl, h3, g3⟩
        · rw [if_neg (fun h => hy h.2.2)]
          have l0 : (((y : Int) == 0) : Bool) = false := by simp; omega
          have hEq := arr2_u8 130 y 130 0 w
          rw [l0, Bool.and_false] at hEq
          clear hy
          go_enter Try.func79, Try.ntmps79
          go_wp2
          go_ret
          exact ⟨rfl, h, World.grownBy.refl _ _⟩
      · rw [if_neg (fun h => hx h.2.1)]
        have l0 : (((x : Int) == 130) : Bool) = false := by simp; omega
        have hEq := arr2_u8 x y 130 0 w
        rw [l0, Bool.false_and] at hEq
        clear hx
        go_enter Try.func79, Try.ntmps79
        go_wp2
        go_ret
        exact ⟨rfl, h, World.grownBy.refl _ _⟩
    · rw [if_neg (fun h => e3 h.1)]
      have l3 : (((n : Int) == 3) : Bool) = false := by simp; omega
      go_enter Try.func79, Try.ntmps79
      go_wp2
      go_ret
      exact ⟨rfl, h, World.grownBy.refl _ _⟩
/-- an order that may be, for this craft -/
def Gt.tak (g : Gt) (bp co : Bool) (sq : Int) (D : List Nat) (room : Bool) : Gt × Bool × Nat :=
  if co = true then ((g.oby D).1, false, (g.oby D).2) else if bp = true then (g.cnt, true, 0) else ((g.que sq room).1, decide ((g.que sq room).2 = 0), (g.que sq room).2)
set_option maxHeartbeats 8000000 in
theorem ktake_any (b : Nat) (g : Gt) (cr : Int) (bp co : Bool) (sq : Int) (a : Option Addr) (n c : Nat) (D : List Nat) (room : Bool) (w : World) (h : BxS w b 89 g.A) (hg : g.may = true) (hR : Rd w a n c D) (hn : n ≤ 1017) (s0 : 0 ≤ sq) (s1 : sq ≤ 255) :
    Calls Try.prog 63 #[.pointer (some ⟨b, 0, none⟩), .agg (orA cr bp co sq a n c), .bool room] w fun e w' => e = .returned (.tuple #[.bool (g.tak bp co sq D room).2.1, .int .i64 ((g.tak bp co sq D room).2.2 : Nat)]) ∧ BxS w' b 89 (g.tak bp co sq D room).1.A ∧ w.grownBy w' (some b) := by
  have hO := fun wz h1 h2 => obey_any b g a n c D wz h1 hg h2 hn
  have hQ := fun wz h1 => queue_any b g sq room wz h1 hg s0 s1
  have hK := fun wz (h1 : BxS wz b 89 g.A) => count_any b g.cr g.nx g.ha g.sh g.wa g.ag g.ct wz h1 (gmay_ok hg).2.2.2.1 (gmay_ok hg).2.2.2.2
  have b0 := BxS.new w 24 (orA cr bp co sq a n c)
  have g0 := World.grownBy_alloc w (.cells (orA cr bp co sq a n c) 24) none
  unfold Gt.tak
  unfold orA at b0 g0 ⊢
  generalize hw0 : w.alloc (.cells #[.int .i64 cr, .bool bp, .bool co, .int .i64 sq, .slice a n c] 24) = w0 at b0 g0
  obtain ⟨c0, c1, c2, c3, c4⟩ := b0.cell5
  have h0 := h.keep g0 (by simp)
  have hR0 := hR.keep g0
  have gW := grown_weak g0 (some b)
  cases co
  case true =>
    rw [if_pos rfl]
    generalize (g.oby D).1.A = Z at hO ⊢
    generalize (g.oby D).2 = E at hO ⊢
    go_enter Try.func63, Try.ntmps63
    go_wp2_with (first
      | (go_at_call 79; refine (hO w0 h0 hR0).mono ?_; rintro e w2 ⟨rfl, h2, g2⟩))
    go_ret2
    exact ⟨rfl, h2, grown_trans gW g2⟩
  rw [if_neg (by decide)]
  cases bp
  case true =>
    rw [if_pos rfl]
    unfold Gt.cnt Gt.A
    go_enter Try.func63, Try.ntmps63
    go_wp2_with (first
      | (go_at_call 80; refine (hK w0 h0).mono ?_; rintro e w2 ⟨rfl, h2, g2⟩))
    go_ret2
    exact ⟨rfl, h2, grown_trans gW g2⟩
  rw [if_neg (by decide)]
  generalize (g.que sq room).1.A = Z at hQ ⊢
  generalize (g.que sq room).2 = E at hQ ⊢
  by_cases hE : E = 0
  · subst hE
    go_enter Try.func63, Try.ntmps63
    go_wp2_with (first
      | (go_at_call 81; refine (hQ w0 h0).mono ?_; rintro e w2 ⟨rfl, h2, g2⟩))
    go_ret2
    exact ⟨rfl, h2, grown_trans gW g2⟩
  · rw [decide_eq_false hE]
    have l0 : (((E : Int) == 0) : Bool) = false := by simp; omega
    go_enter Try.func63, Try.ntmps63
    go_wp2_with (first
      | (go_at_call 81; refine (hQ w0 h0).mono ?_; rintro e w2 ⟨rfl, h2, g2⟩))
    go_ret2
    exact ⟨rfl, h2, grown_trans gW g2⟩
end Go.Proofs.Ytkjcpoapkkaagaa
