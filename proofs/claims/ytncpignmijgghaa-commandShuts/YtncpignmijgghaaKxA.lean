import Derived.Test.YtncpignmijgghaaKOr1
import Derived.ChangeKeysEq
namespace Go.Proofs.Ytncpignmijgghaa
open Go.RowKit
set_option maxRecDepth 100000
set_option linter.unusedVariables false
set_option linter.unusedSimpArgs false

/-- a gate -/
structure Gt where
  cr : Int
  nx : Int
  ha : Int
  sh : Bool
  wa : Bool
  ag : Bool
  ct : Int
def Gt.A (g : Gt) : Array Value := gtA g.cr g.nx g.ha g.sh g.wa g.ag g.ct
def Gt.may (g : Gt) : Bool := gtB g.cr g.nx g.ha g.ct
def Gt.cnt (g : Gt) : Gt := { g with ct := (g.ct + 1) % 4 }
def Gt.calm (g : Gt) : Gt := { g with wa := false, ag := false }
/-- an order that has to be the next one -/
def Gt.que (g : Gt) (sq : Int) (room : Bool) : Gt × Nat :=
  if g.sh = true then (g, 15)
  else if (sq - g.nx) % 256 = 0 then (if room = true then ((Gt.mk g.cr ((g.nx + 1) % 256) g.ha g.sh false false g.ct), 0) else (Gt.mk g.cr g.nx g.ha g.sh true true g.ct, 12))
  else if (sq - g.nx) % 256 < g.ha then (Gt.mk g.cr g.nx g.ha g.sh g.wa true g.ct, 7)
  else if 256 - g.ha ≤ (sq - g.nx) % 256 then (g, 13) else (Gt.mk g.cr g.nx g.ha true g.wa g.ag g.ct, 15)
theorem gmay_ok {g : Gt} (h : g.may = true) : (0 ≤ g.cr ∧ g.cr ≤ 1023) ∧ (0 ≤ g.nx ∧ g.nx ≤ 255) ∧ (1 ≤ g.ha ∧ g.ha ≤ 127) ∧ (0 ≤ g.ct ∧ g.ct ≤ 3) := by
  unfold Gt.may gtB at h
  simp only [Bool.and_eq_true_iff] at h
  obtain ⟨⟨⟨a1, a2⟩, a3⟩, a4⟩ := h
  exact ⟨kwB_ok a1, kwB_ok a3, kwB_ok a2, kwB_ok a4⟩
theorem BxS.same {w : World} {g : Nat} {t : TypeId} {A B : Array Value} (h : BxS w g t A) (e : A = B) : BxS w g t B := e ▸ h
set_option maxHeartbeats 2000000 in
theorem count_any (b : Nat) (cr nx ha : Int) (sh wa ag : Bool) (ct : Int) (w : World) (h : BxS w b 59 (gtA cr nx ha sh wa ag ct)) (h0 : 0 ≤ ct) (h3 : ct ≤ 3) :
    Calls Try.prog 45 #[.pointer (some ⟨b, 0, none⟩)] w fun e w' => e = .returned (.tuple #[]) ∧ BxS w' b 59 (gtA cr nx ha sh wa ag ((ct + 1) % 4)) ∧ w.grownBy w' (some b) := by
  obtain ⟨c0, c1, c2, c3, c4, c5, c6⟩ := BxS.cell7 h
  have f6 := h.free 6
  have hS : Hid _ := h.set 6 (.int .i64 ((ct + 1) % 4))
  have gS := grown_set w b 6 (.int .i64 ((ct + 1) % 4))
  obtain ⟨k, rfl⟩ := Int.eq_ofNat_of_zero_le h0
  have ha' : bits .and .i64 ((k : Int) + 1) 3 = ((k : Int) + 1) % 4 := by
    rw [show ((k : Int) + 1) = ((k + 1 : Nat) : Int) by omega]
    exact i64_low (k + 1) 2 (by omega) (by decide)
  go_enter Try.func45, Try.ntmps45
  go_wp2
  go_end0
  exact ⟨rfl, hS.out, gS⟩
set_option maxHeartbeats 2000000 in
theorem calm_any (b : Nat) (cr nx ha : Int) (sh wa ag : Bool) (ct : Int) (w : World) (h : BxS w b 59 (gtA cr nx ha sh wa ag ct)) :
    Calls Try.prog 50 #[.pointer (some ⟨b, 0, none⟩)] w fun e w' => e = .returned (.tuple #[]) ∧ BxS w' b 59 (gtA cr nx ha sh false false ct) ∧ w.grownBy w' (some b) := by
  obtain ⟨c0, c1, c2, c3, c4, c5, c6⟩ := BxS.cell7 h
  have f4 := h.free 4
  have hS := h.set 4 (.bool false)
  have f5 := hS.free 5
  have c5' := (BxS.cell7 hS).2.2.2.2.2.1
  have hT : Hid _ := hS.set 5 (.bool false)
  have gS := grown_trans (grown_set w b 4 (.bool false)) (grown_set (w.setCell ⟨b, 4, none⟩ (.bool false)) b 5 (.bool false))
  go_enter Try.func50, Try.ntmps50
  go_wp2
  go_end0
  exact ⟨rfl, hT.out, gS⟩
set_option maxHeartbeats 8000000 in
theorem queue_any (b : Nat) (g : Gt) (sq : Int) (room : Bool) (w : World) (h : BxS w b 59 g.A) (hg : g.may = true) (s0 : 0 ≤ sq) (s1 : sq ≤ 255) :
    Calls Try.prog 46 #[.pointer (some ⟨b, 0, none⟩), .int .i64 sq, .bool room] w fun e w' => e = .returned (.int .i64 ((g.que sq room).2 : Nat)) ∧ BxS w' b 59 (g.que sq room).1.A ∧ w.grownBy w' (some b) := by
  obtain ⟨⟨q1, q2⟩, ⟨n1, n2⟩, ⟨a1, a2⟩, ⟨k1, k2⟩⟩ := gmay_ok hg
  obtain ⟨cr, nx, ha, sh, wa, ag, ct⟩ := g
  unfold Gt.que
  simp only [Gt.A] at h n1 n2 a1 a2 k1 k2 q1 q2 ⊢
  clear hg
  obtain ⟨c0, c1, c2, c3, c4, c5, c6⟩ := BxS.cell7 h
  have t1 : True := trivial
  cases sh
  case true =>
    rw [if_pos rfl]
    go_enter Try.func46, Try.ntmps46
    go_wp2
    go_ret
    exact ⟨rfl, h, World.grownBy.refl _ _⟩
  rw [if_neg (by decide)]
  have hA := fun wz => around_any (sq - nx) wz
  have hd0 : 0 ≤ (sq - nx) % 256 := by omega
  have hd1 : (sq - nx) % 256 < 256 := by omega
  generalize (sq - nx) % 256 = d at hA hd0 hd1 ⊢
  by_cases h0 : d = 0
  · rw [if_pos h0]
    subst h0
    cases room
    · have f4 := h.free 4
      have hS := h.set 4 (.bool true)
      have f5 := hS.free 5
      have c5' := (BxS.cell7 hS).2.2.2.2.2.1
      have hT : Hid _ := hS.set 5 (.bool true)
      have gS := grown_trans (grown_set w b 4 (.bool true)) (grown_set (w.setCell ⟨b, 4, none⟩ (.bool true)) b 5 (.bool true))
      go_enter Try.func46, Try.ntmps46
      go_wp2_with (first
        | (go_at_call 51; refine (hA _).mono ?_; rintro e wx ⟨rfl, hw⟩; have hw := hw.symm; subst hw))
      go_ret
      exact ⟨rfl, hT.out, gS⟩
    · have hB := fun wz => around_any (nx + 1) wz
      generalize (nx + 1) % 256 = y at hB ⊢
      have f1 := h.free 1
      have hS : BxS _ b 59 (gtA cr y ha false wa ag ct) := h.set 1 (.int .i64 y)
      have gS := grown_set w b 1 (.int .i64 y)
      have hC := calm_any b cr y ha false wa ag ct _ hS
      go_enter Try.func46, Try.ntmps46
      go_wp2_with (first
        | (go_at_call 51; have _t := t1; clear t1; refine (hA _).mono ?_; rintro e wx ⟨rfl, hw⟩; have hw := hw.symm; subst hw; have t2 : True := trivial)
        | (go_at_call 51; have _t := t2; clear t2; refine (hB _).mono ?_; rintro e wx ⟨rfl, hw⟩; have hw := hw.symm; subst hw)
        | (go_at_call 50; refine hC.mono ?_; rintro e w2 ⟨rfl, h2, g2⟩))
      go_ret
      exact ⟨rfl, h2, grown_trans gS g2⟩
  · rw [if_neg h0]
    have l0 : ((d == 0) : Bool) = false := by simp; omega
    by_cases h1 : d < ha
    · rw [if_pos h1]
      have f5 := h.free 5
      have hS : Hid _ := h.set 5 (.bool true)
      have gS := grown_set w b 5 (.bool true)
      go_enter Try.func46, Try.ntmps46
      go_wp2_with (first
        | (go_at_call 51; refine (hA _).mono ?_; rintro e wx ⟨rfl, hw⟩; have hw := hw.symm; subst hw))
      go_ret
      exact ⟨rfl, hS.out, gS⟩
    · rw [if_neg h1]
      by_cases h2 : 256 - ha ≤ d
      · rw [if_pos h2]
        have l2 : 255 - ha < d := by omega
        go_enter Try.func46, Try.ntmps46
        go_wp2_with (first
          | (go_at_call 51; refine (hA _).mono ?_; rintro e wx ⟨rfl, hw⟩; have hw := hw.symm; subst hw))
        go_ret
        exact ⟨rfl, h, World.grownBy.refl _ _⟩
      · rw [if_neg h2]
        have l2 : ¬ 255 - ha < d := by omega
        have f3 := h.free 3
        have hS : Hid _ := h.set 3 (.bool true)
        have gS := grown_set w b 3 (.bool true)
        go_enter Try.func46, Try.ntmps46
        go_wp2_with (first
          | (go_at_call 51; refine (hA _).mono ?_; rintro e wx ⟨rfl, hw⟩; have hw := hw.symm; subst hw))
        go_ret
        exact ⟨rfl, hS.out, gS⟩

theorem plain_u8 : Try.prog.plainKey 5 = true := by kernel_rfl
theorem cells_u8 : Try.prog.cellsOf 5 = 1 := by kernel_rfl
theorem eq_u8 (d : Nat) (x y : Int) (w : World) : (Op.equalIn (d + 1) 5 (.int .u8 x) (.int .u8 y)).run Try.prog w = .ok (x == y) w := run_equalIn_int w d 5 .u8 .u8 x y Try.underlying5
theorem items_u8 (d : Nat) (xs ys : List Int) (is : List Nat) (w : World) (hx : ∀ i ∈ is, i < xs.length) (hy : ∀ i ∈ is, i < ys.length) :
    (Op.eqItems (d + 1) 5 1 (xs.map (Value.int .u8 ·)).toArray (ys.map (Value.int .u8 ·)).toArray is).run Try.prog w = .ok (is.all fun i => xs.getD i 0 == ys.getD i 0) w := by
  induction is with
  | nil => simp [Op.eqItems]
  | cons i is ih =>
    have h1 := hx i (by simp)
    have h2 := hy i (by simp)
    have p1 := run_part_plain w plain_u8 (xs := (xs.map (Value.int .u8 ·)).toArray) (off := i * 1) (v := .int .u8 (xs.getD i 0)) (by simp [h1])
    have p2 := run_part_plain w plain_u8 (xs := (ys.map (Value.int .u8 ·)).toArray) (off := i * 1) (v := .int .u8 (ys.getD i 0)) (by simp [h2])
    simp only [Op.eqItems, Sem.run_bind, p1, p2, Result.andThen_ok, eq_u8]
    rw [List.all_cons]
    cases hb : (xs.getD i 0 == ys.getD i 0) with
    | false => simp
    | true => simpa using ih (fun j hj => hx j (by simp [hj])) (fun j hj => hy j (by simp [hj]))
/-- arrays of bytes compared -/
theorem arr_u8 {t : TypeId} {n : Nat} (hu : Try.prog.underlying t = some (.array n 5)) (xs ys : List Int) (hx : xs.length = n) (hy : ys.length = n) (w : World) :
    (Op.equalIn 10000 t (.agg (xs.map (Value.int .u8 ·)).toArray) (.agg (ys.map (Value.int .u8 ·)).toArray)).run Try.prog w = .ok ((List.range n).all fun i => xs.getD i 0 == ys.getD i 0) w := by
  obtain ⟨i0, hi, _⟩ := info_parts Try.info_u8
  rw [run_equalIn_array w 9999 _ _ hu hi, cells_u8]
  exact items_u8 9998 xs ys _ w (fun i h => by rw [hx]; exact List.mem_range.1 h) (fun i h => by rw [hy]; exact List.mem_range.1 h)
theorem arr1_u8 (x y : Int) (w : World) : (Op.equalIn 10000 87 (.agg #[.int .u8 x]) (.agg #[.int .u8 y])).run Try.prog w = .ok (x == y) w :=
  (arr_u8 Try.underlying87 [x] [y] rfl rfl w).trans (by congr 1; simp [List.range_succ])
theorem arr2_u8 (x x' y y' : Int) (w : World) : (Op.equalIn 10000 88 (.agg #[.int .u8 x, .int .u8 x']) (.agg #[.int .u8 y, .int .u8 y'])).run Try.prog w = .ok (x == y && x' == y') w :=
  (arr_u8 Try.underlying88 [x, x'] [y, y'] rfl rfl w).trans (by congr 1; simp [List.range_succ])
theorem arr_at {P : Program} {w : World} (arr e : TypeId) (n : Nat) (a : Option Addr) (len cap : Nat) (h : P.underlying arr = some (.array n e)) (hn : n ≤ len) : (Instr.arrayAt arr (.slice a len cap)).run P w = .ok (.pointer a) w := by
  simp [Instr.arrayAt, run_underlying h, Nat.not_lt.2 hn]
/-- what is for the gate itself -/
def Gt.oby (g : Gt) (D : List Nat) : Gt × Nat :=
  if D.length = 1 ∧ nth D 0 = 0 then (Gt.mk g.cr g.nx g.ha false false false ((g.ct + 1) % 4), 0)
  else if D.length = 3 ∧ nth D 0 = 130 ∧ nth D 1 = 0 then (if g.sh = true then (Gt.mk g.cr g.nx g.ha g.sh g.wa g.ag ((g.ct + 1) % 4), 0) else (Gt.mk g.cr (nth D 2) g.ha g.sh false false ((g.ct + 1) % 4), 0))
  else (g, 8)
set_option maxHeartbeats 16000000 in
theorem obey_any (b : Nat) (g : Gt) (a : Option Addr) (n c : Nat) (D : List Nat) (w : World) (h : BxS w b 59 g.A) (hg : g.may = true) (hR : Rd w a n c D) (hn : n ≤ 1017) :
    Calls Try.prog 44 #[.pointer (some ⟨b, 0, none⟩), .slice a n c] w fun e w' => e = .returned (.int .i64 ((g.oby D).2 : Nat)) ∧ BxS w' b 59 (g.oby D).1.A ∧ w.grownBy w' (some b) := by
  obtain ⟨⟨q1, q2⟩, ⟨n1, n2⟩, ⟨a1, a2⟩, ⟨k1, k2⟩⟩ := gmay_ok hg
  obtain ⟨cr, nx, ha, sh, wa, ag, ct⟩ := g
  unfold Gt.oby
  simp only [Gt.A] at h n1 n2 a1 a2 k1 k2 q1 q2 ⊢
  clear hg
  obtain ⟨c0, c1, c2, c3, c4, c5, c6⟩ := BxS.cell7 h
  have hle := hR.le
  rw [hR.len]
  by_cases e1 : n = 1
  · subst e1
    obtain ⟨bd, off, rfl, hbw, hcc⟩ := hR.at' (by omega)
    have d0 := hcc 0 (by omega)
    rw [Nat.add_zero] at d0
    clear hcc
    have hAr := fun cz => arr_at (P := Try.prog) (w := w) 87 _ 1 (some ⟨bd, off, none⟩) 1 cz Try.underlying87 (Nat.le_refl _)
    generalize nth D 0 = x at d0 ⊢
    by_cases hx : x = 0
    · subst hx
      have hEq := arr1_u8 0 0 w
      rw [show ((0 : Int) == 0) = true from rfl] at hEq
      rw [if_pos ⟨rfl, rfl⟩]
      have f3 := h.free 3
      have hS : BxS _ b 59 (gtA cr nx ha false wa ag ct) := h.set 3 (.bool false)
      have gS := grown_set w b 3 (.bool false)
      have hC := calm_any b cr nx ha false wa ag ct _ hS
      have hK := fun wz hz => count_any b cr nx ha false false false ct wz hz k1 k2
      go_enter Try.func44, Try.ntmps44
      go_wp2_with (first
        | (go_at_call 50; refine hC.mono ?_; rintro e w2 ⟨rfl, h2, g2⟩)
        | (go_at_call 45; refine (hK w2 h2).mono ?_; rintro e w3 ⟨rfl, h3, g3⟩))
      go_ret
      exact ⟨rfl, h3, grown_trans gS (grown_trans g2 g3)⟩
    · rw [if_neg (fun h => hx h.2), if_neg (fun h => by omega)]
      have l0 : (((x : Int) == 0) : Bool) = false := by simp; omega
      have hEq := arr1_u8 x 0 w
      rw [l0] at hEq
      clear hx
      go_enter Try.func44, Try.ntmps44
      go_wp2
      go_ret
      exact ⟨rfl, h, World.grownBy.refl _ _⟩
  · rw [if_neg (fun h => e1 h.1)]
    have l1 : (((n : Int) == 1) : Bool) = false := by simp; omega
    by_cases e3 : n = 3
    · subst e3
      obtain ⟨bd, off, rfl, hbw, hcc⟩ := hR.at' (by omega)
      have d0 := hcc 0 (by omega)
      have d1 := hcc 1 (by omega)
      have d2 := hcc 2 (by omega)
      rw [Nat.add_zero] at d0
      clear hcc
      have hAr := fun cz => arr_at (P := Try.prog) (w := w) 88 _ 2 (some ⟨bd, off, none⟩) 3 cz Try.underlying88 (by decide)
      have b2 := hR.byte.nth 2
      generalize nth D 0 = x at d0 ⊢
      generalize nth D 1 = y at d1 ⊢
      generalize nth D 2 = z at d2 b2 ⊢
      by_cases hx : x = 130
      · subst hx
        by_cases hy : y = 0
        · subst hy
          rw [if_pos ⟨rfl, rfl, rfl⟩]
          have hEq := arr2_u8 130 0 130 0 w
          rw [show (((130 : Int) == 130) && ((0 : Int) == 0)) = true from rfl] at hEq
          cases sh
          · rw [if_neg (by decide)]
            have f1 := h.free 1
            have hS : BxS _ b 59 (gtA cr (z : Int) ha false wa ag ct) := h.set 1 (.int .i64 (z : Int))
            have gS := grown_set w b 1 (.int .i64 (z : Int))
            have hC := calm_any b cr (z : Int) ha false wa ag ct _ hS
            have hK := fun wz hz => count_any b cr (z : Int) ha false false false ct wz hz k1 k2
            go_enter Try.func44, Try.ntmps44
            go_wp2_with (first
              | (go_at_call 50; refine hC.mono ?_; rintro e w2 ⟨rfl, h2, g2⟩)
              | (go_at_call 45; refine (hK w2 h2).mono ?_; rintro e w3 ⟨rfl, h3, g3⟩))
            go_ret
            exact ⟨rfl, h3, grown_trans gS (grown_trans g2 g3)⟩
          · rw [if_pos rfl]
            have hK := count_any b cr nx ha true wa ag ct w h k1 k2
            go_enter Try.func44, Try.ntmps44
            go_wp2_with (first
              | (go_at_call 45; refine hK.mono ?_; rintro e w3 ⟨rfl, h3, g3⟩))
            go_ret
            exact ⟨rfl, h3, g3⟩
        · rw [if_neg (fun h => hy h.2.2)]
          have l0 : (((y : Int) == 0) : Bool) = false := by simp; omega
          have hEq := arr2_u8 130 y 130 0 w
          rw [l0, Bool.and_false] at hEq
          clear hy
          go_enter Try.func44, Try.ntmps44
          go_wp2
          go_ret
          exact ⟨rfl, h, World.grownBy.refl _ _⟩
      · rw [if_neg (fun h => hx h.2.1)]
        have l0 : (((x : Int) == 130) : Bool) = false := by simp; omega
        have hEq := arr2_u8 x y 130 0 w
        rw [l0, Bool.false_and] at hEq
        clear hx
        go_enter Try.func44, Try.ntmps44
        go_wp2
        go_ret
        exact ⟨rfl, h, World.grownBy.refl _ _⟩
    · rw [if_neg (fun h => e3 h.1)]
      have l3 : (((n : Int) == 3) : Bool) = false := by simp; omega
      go_enter Try.func44, Try.ntmps44
      go_wp2
      go_ret
      exact ⟨rfl, h, World.grownBy.refl _ _⟩
/-- an order that may be, for this craft -/
def Gt.tak (g : Gt) (bp co : Bool) (sq : Int) (D : List Nat) (room : Bool) : Gt × Bool × Nat :=
  if co = true then ((g.oby D).1, false, (g.oby D).2) else if bp = true then (g.cnt, true, 0) else ((g.que sq room).1, decide ((g.que sq room).2 = 0), (g.que sq room).2)
set_option maxHeartbeats 8000000 in
theorem ktake_any (b : Nat) (g : Gt) (cr : Int) (bp co : Bool) (sq : Int) (a : Option Addr) (n c : Nat) (D : List Nat) (room : Bool) (w : World) (h : BxS w b 59 g.A) (hg : g.may = true) (hR : Rd w a n c D) (hn : n ≤ 1017) (s0 : 0 ≤ sq) (s1 : sq ≤ 255) :
    Calls Try.prog 23 #[.pointer (some ⟨b, 0, none⟩), .agg (orA cr bp co sq a n c), .bool room] w fun e w' => e = .returned (.tuple #[.bool (g.tak bp co sq D room).2.1, .int .i64 ((g.tak bp co sq D room).2.2 : Nat)]) ∧ BxS w' b 59 (g.tak bp co sq D room).1.A ∧ w.grownBy w' (some b) := by
  have hO := fun wz h1 h2 => obey_any b g a n c D wz h1 hg h2 hn
  have hQ := fun wz h1 => queue_any b g sq room wz h1 hg s0 s1
  have hK := fun wz (h1 : BxS wz b 59 g.A) => count_any b g.cr g.nx g.ha g.sh g.wa g.ag g.ct wz h1 (gmay_ok hg).2.2.2.1 (gmay_ok hg).2.2.2.2
  have b0 := BxS.new w 40 (orA cr bp co sq a n c)
  have g0 := World.grownBy_alloc w (.cells (orA cr bp co sq a n c) 40) none
  unfold Gt.tak
  unfold orA at b0 g0 ⊢
  generalize hw0 : w.alloc (.cells #[.int .i64 cr, .bool bp, .bool co, .int .i64 sq, .slice a n c] 40) = w0 at b0 g0
  obtain ⟨c0, c1, c2, c3, c4⟩ := b0.cell5
  have h0 := h.keep g0 (by simp)
  have hR0 := hR.keep g0
  have gW := grown_weak g0 (some b)
  cases co
  case true =>
    rw [if_pos rfl]
    generalize (g.oby D).1.A = Z at hO ⊢
    generalize (g.oby D).2 = E at hO ⊢
    go_enter Try.func23, Try.ntmps23
    go_wp2_with (first
      | (go_at_call 44; refine (hO w0 h0 hR0).mono ?_; rintro e w2 ⟨rfl, h2, g2⟩))
    go_ret2
    exact ⟨rfl, h2, grown_trans gW g2⟩
  rw [if_neg (by decide)]
  cases bp
  case true =>
    rw [if_pos rfl]
    unfold Gt.cnt Gt.A
    go_enter Try.func23, Try.ntmps23
    go_wp2_with (first
      | (go_at_call 45; refine (hK w0 h0).mono ?_; rintro e w2 ⟨rfl, h2, g2⟩))
    go_ret2
    exact ⟨rfl, h2, grown_trans gW g2⟩
  rw [if_neg (by decide)]
  generalize (g.que sq room).1.A = Z at hQ ⊢
  generalize (g.que sq room).2 = E at hQ ⊢
  by_cases hE : E = 0
  · subst hE
    go_enter Try.func23, Try.ntmps23
    go_wp2_with (first
      | (go_at_call 46; refine (hQ w0 h0).mono ?_; rintro e w2 ⟨rfl, h2, g2⟩))
    go_ret2
    exact ⟨rfl, h2, grown_trans gW g2⟩
  · rw [decide_eq_false hE]
    have l0 : (((E : Int) == 0) : Bool) = false := by simp; omega
    go_enter Try.func23, Try.ntmps23
    go_wp2_with (first
      | (go_at_call 46; refine (hQ w0 h0).mono ?_; rintro e w2 ⟨rfl, h2, g2⟩))
    go_ret2
    exact ⟨rfl, h2, grown_trans gW g2⟩

def gt0 : Gt := ⟨0, 0, 0, false, false, false, 0⟩
/-- what Accept answers -/
def Gt.acc (g : Gt) (cr : Int) (bp co : Bool) (sq : Int) (D : List Nat) (room : Bool) : Gt × Bool × Nat :=
  if g.may = true then (if orE cr bp co sq D.length = 0 then (if cr = g.cr then g.tak bp co sq D room else (g, false, 10)) else (g, false, orE cr bp co sq D.length)) else (gt0, false, 11)
set_option maxHeartbeats 16000000 in
theorem accept_any (g : Gt) (cr : Int) (bp co : Bool) (sq : Int) (a : Option Addr) (n c : Nat) (D : List Nat) (room : Bool) (w : World) (hR : Rd w a n c D) :
    Calls Try.prog 10 #[.agg g.A, .agg (orA cr bp co sq a n c), .bool room] w fun e w' => e = .returned (.tuple #[.agg (g.acc cr bp co sq D room).1.A, .bool (g.acc cr bp co sq D room).2.1, .int .i64 ((g.acc cr bp co sq D room).2.2 : Nat)]) ∧ w.grownBy w' none := by
  have HL : Hid (D.length = n) := hR.len
  have hM := fun wz => gmay_any g.cr g.nx g.ha g.sh g.wa g.ag g.ct wz
  have hW := fun wz => worder_any cr bp co sq a n c wz
  have hT := fun b wz h1 h2 h3 h4 h5 h6 => ktake_any b g cr bp co sq a n c D room wz h1 h2 h3 h4 h5 h6
  unfold Gt.acc
  rw [HL.out]
  generalize g.tak bp co sq D room = T at hT ⊢
  obtain ⟨T1, T2, T3⟩ := T
  have hok := @orE_ok cr bp co sq n
  have hM : ∀ wz : World, Calls Try.prog 21 #[.agg (gtA g.cr g.nx g.ha g.sh g.wa g.ag g.ct)] wz fun e w' => e = .returned (.bool g.may) ∧ wz.grownBy w' none := hM
  obtain ⟨gr, nx, ha, sh, wa, ag, ct⟩ := g
  obtain ⟨ur, ux, ua, uh, uw, ug, ut⟩ := T1
  generalize orE cr bp co sq n = E at hW hok ⊢
  generalize Gt.may ⟨gr, nx, ha, sh, wa, ag, ct⟩ = M at hM hT ⊢
  simp only [Gt.A] at hT ⊢
  have bG := BxS.new w 33 (gtA gr nx ha sh wa ag ct)
  have g0 := World.grownBy_alloc w (.cells (gtA gr nx ha sh wa ag ct) 33) none
  unfold gtA at bG g0
  generalize hw0 : w.alloc (.cells #[.int .i64 gr, .int .i64 nx, .int .i64 ha, .bool sh, .bool wa, .bool ag, .int .i64 ct] 33) = w0 at bG g0
  have bO := BxS.new w0 40 (orA cr bp co sq a n c)
  have g1 := World.grownBy_alloc w0 (.cells (orA cr bp co sq a n c) 40) none
  unfold orA at bO g1
  generalize hw1 : w0.alloc (.cells #[.int .i64 cr, .bool bp, .bool co, .int .i64 sq, .slice a n c] 40) = w1 at bO g1
  have bZ := BxS.new w1 33 #[.int .i64 0, .int .i64 0, .int .i64 0, .bool false, .bool false, .bool false, .int .i64 0]
  have g2 := World.grownBy_alloc w1 (.cells #[.int .i64 0, .int .i64 0, .int .i64 0, .bool false, .bool false, .bool false, .int .i64 0] 33) none
  generalize hw2 : w1.alloc (.cells #[.int .i64 0, .int .i64 0, .int .i64 0, .bool false, .bool false, .bool false, .int .i64 0] 33) = w2 at bZ g2
  have z1 := bG.lt
  have z2 := bO.lt
  have z3 := bZ.lt
  have BG := (bG.keep g1 (by simp)).keep g2 (by simp)
  have BO := bO.keep g2 (by simp)
  have G := grown_trans (grown_trans g0 g1) g2
  have hs1 := g0.size
  have hs2 := g1.size
  have hs3 := g2.size
  have hR2 := hR.keep G
  have i7 := Try.info_gt
  obtain ⟨c0, c1, c2, c3, c4, c5, c6⟩ := BG.cell7
  obtain ⟨d0, d1, d2, d3, d4⟩ := BO.cell5
  have t1 : True := trivial
  have t2 : True := trivial
  unfold gtA at hM hT ⊢
  unfold orA at hW hT ⊢
  cases M
  case false =>
    rw [if_neg (by decide)]
    unfold gt0
    go_enter Try.func10, Try.ntmps10
    go_wp2_with (first
      | (go_at_call 21; have _t := t1; clear t1; refine (hM _).mono ?_; rintro e w3 ⟨rfl, g3⟩; have bZ3 := bZ.keep g3 (by simp))
      | (have _t := t2; refine wpList_stX _ rfl _ (.tmp 6) (.tmp 16) rfl w1.heap.size _ _ rfl rfl bZ3 i7 rfl (by simp [Value.oneCell']) ?_; clear t2; intro w9 b9 g9))
    refine bodyPost_ret (results_cell3 rfl _ _ _ ⟨w1.heap.size, 0, none⟩ _ (.bool false) (.int .i64 11) rfl (BxS.load (t := 33) b9 Try.underlying33 Try.info_gt) rfl rfl) rfl ?_
    exact ⟨rfl, grown_far (grown_trans G g3) g9 (fun q e => by cases e; omega)⟩
  rw [if_pos rfl]
  by_cases hE : E = 0
  case neg =>
    rw [if_neg hE]
    have hne : (((E : Int) != 0) : Bool) = true := by simp; omega
    clear hok hE
    go_enter Try.func10, Try.ntmps10
    go_wp2_with (first
      | (go_at_call 21; have _t := t1; clear t1; refine (hM _).mono ?_; rintro e w3 ⟨rfl, g3⟩; clear c0 c1 c2 c3 c4 c5 c6 d0 d1 d2 d3 d4; obtain ⟨d0, d1, d2, d3, d4⟩ := (BO.keep g3 (by simp)).cell5)
      | (go_at_call 22; refine (hW _).mono ?_; rintro e w4 ⟨rfl, g4⟩; clear d0 d1 d2 d3 d4; have g34 := grown_trans g3 g4; have bZ4 := bZ.keep g34 (by simp); obtain ⟨c0, c1, c2, c3, c4, c5, c6⟩ := (BG.keep g34 (by simp)).cell7)
      | (have _t := t2; refine wpList_stX _ rfl _ (.tmp 6) (.tmp 21) rfl w1.heap.size _ _ rfl rfl bZ4 i7 rfl (by simp [Value.oneCell']) ?_; clear t2; intro w9 b9 g9))
    refine bodyPost_ret (results_cell3 rfl _ _ _ ⟨w1.heap.size, 0, none⟩ _ (.bool false) (.int .i64 (E : Int)) rfl (BxS.load (t := 33) b9 Try.underlying33 Try.info_gt) rfl rfl) rfl ?_
    exact ⟨rfl, grown_far (grown_trans G g34) g9 (fun q e => by cases e; omega)⟩
  rw [if_pos hE]
  subst hE
  obtain ⟨_, ⟨s1, s2⟩, _, n1, n2⟩ := hok rfl
  clear hok
  by_cases hC : cr = gr
  case neg =>
    rw [if_neg hC]
    have hne : ((cr != gr) : Bool) = true := by simp; omega
    clear hC
    go_enter Try.func10, Try.ntmps10
    go_wp2_with (first
      | (go_at_call 21; have _t := t1; clear t1; refine (hM _).mono ?_; rintro e w3 ⟨rfl, g3⟩; clear c0 c1 c2 c3 c4 c5 c6 d0 d1 d2 d3 d4; obtain ⟨d0, d1, d2, d3, d4⟩ := (BO.keep g3 (by simp)).cell5)
      | (go_at_call 22; refine (hW _).mono ?_; rintro e w4 ⟨rfl, g4⟩; clear d0 d1 d2 d3 d4; have g34 := grown_trans g3 g4; have bZ4 := bZ.keep g34 (by simp); obtain ⟨c0, c1, c2, c3, c4, c5, c6⟩ := (BG.keep g34 (by simp)).cell7; obtain ⟨d0, d1, d2, d3, d4⟩ := (BO.keep g34 (by simp)).cell5)
      | (have _t := t2; refine wpList_stX _ rfl _ (.tmp 6) (.tmp 28) rfl w1.heap.size _ _ rfl rfl bZ4 i7 rfl (by simp [Value.oneCell']) ?_; clear t2; intro w9 b9 g9))
    refine bodyPost_ret (results_cell3 rfl _ _ _ ⟨w1.heap.size, 0, none⟩ _ (.bool false) (.int .i64 10) rfl (BxS.load (t := 33) b9 Try.underlying33 Try.info_gt) rfl rfl) rfl ?_
    exact ⟨rfl, grown_far (grown_trans G g34) g9 (fun q e => by cases e; omega)⟩
  rw [if_pos hC]
  subst hC
  go_enter Try.func10, Try.ntmps10
  go_wp2_with (first
    | (go_at_call 21; have _t := t1; clear t1; refine (hM _).mono ?_; rintro e w3 ⟨rfl, g3⟩; clear c0 c1 c2 c3 c4 c5 c6 d0 d1 d2 d3 d4; obtain ⟨d0, d1, d2, d3, d4⟩ := (BO.keep g3 (by simp)).cell5)
    | (go_at_call 22; refine (hW _).mono ?_; rintro e w4 ⟨rfl, g4⟩; clear d0 d1 d2 d3 d4; have g34 := grown_trans g3 g4; obtain ⟨c0, c1, c2, c3, c4, c5, c6⟩ := (BG.keep g34 (by simp)).cell7; have gA := World.grownBy_alloc w4 (.cells #[.int .i64 cr, .int .i64 nx, .int .i64 ha, .bool sh, .bool wa, .bool ag, .int .i64 ct] 59) none; have N5 := BxS.new w4 59 #[.int .i64 cr, .int .i64 nx, .int .i64 ha, .bool sh, .bool wa, .bool ag, .int .i64 ct]; have g35 := grown_trans g34 gA; obtain ⟨d0, d1, d2, d3, d4⟩ := (BO.keep g35 (by simp)).cell5; obtain ⟨d0', _, _, _, _⟩ := (BO.keep g34 (by simp)).cell5)
    | (go_at_call 23; refine (hT w4.heap.size _ N5 (by trivial) (hR2.keep g35) n2 s1 s2).mono ?_; rintro e w6 ⟨rfl, h6, g6⟩; clear c0 c1 c2 c3 c4 c5 c6 d0 d1 d2 d3 d4; have bZ6 := (bZ.keep g35 (by simp)).keep g6 (by have := g34.size; simp; omega); obtain ⟨c0, c1, c2, c3, c4, c5, c6⟩ := h6.cell7)
    | (have _t := t2; refine wpList_stX _ rfl _ (.tmp 6) (.tmp 38) rfl w1.heap.size _ _ rfl rfl bZ6 i7 rfl (by simp [Value.oneCell']) ?_; clear t2; intro w9 b9 g9))
  refine bodyPost_ret (results_cell3 rfl _ _ _ ⟨w1.heap.size, 0, none⟩ _ (.bool T2) (.int .i64 (T3 : Int)) rfl (BxS.load (t := 33) b9 Try.underlying33 Try.info_gt) rfl rfl) rfl ?_
  exact ⟨rfl, grown_far (grown_far (grown_trans G g35) g6 (fun q e => by cases e; have := (grown_trans G g34).size; omega)) g9 (fun q e => by cases e; omega)⟩

theorem kwB_i {n a b : Int} (h1 : a ≤ n) (h2 : n ≤ b) : kwB n a b = true := by unfold kwB; simp; omega
theorem gt_may (n h ct : Int) (sh wa ag : Bool) (h0 : 0 ≤ n) (h1 : n ≤ 255) (h2 : 1 ≤ h) (h3 : h ≤ 127) (c0 : 0 ≤ ct) (c1 : ct ≤ 3) : (Gt.mk 9 n h sh wa ag ct).may = true := by
  show gtB 9 n h ct = true
  unfold gtB
  rw [kwB_i (by decide) (by decide), kwB_i h2 h3, kwB_i h0 h1, kwB_i c0 c1]
  rfl
theorem or_may (bp co : Bool) (sq : Int) (hc : (co && !bp) = false) (s0 : 0 ≤ sq) (s1 : sq ≤ 255) : orE 9 bp co sq 1 = 0 := by
  unfold orE
  rw [kwB_i (by decide) (by decide), kwB_i s0 s1, hc, kwB_i (by decide) (by decide)]
  rfl
theorem acc_of {g : Gt} (hg : g.may = true) (h9 : g.cr = 9) (bp co : Bool) (sq : Int) (x : Nat) (hc : (co && !bp) = false) (s0 : 0 ≤ sq) (s1 : sq ≤ 255) : g.acc 9 bp co sq [x] true = g.tak bp co sq [x] true := by
  unfold Gt.acc
  rw [if_pos hg, show [x].length = 1 from rfl, if_pos (or_may bp co sq hc s0 s1), if_pos h9.symm]
/-- what is too far away shuts the gate -/
theorem acc_far (n h d : Int) (h0 : 0 ≤ n) (h1 : n ≤ 255) (h2 : 1 ≤ h) (h3 : h ≤ 127) (d0 : h ≤ d) (d1 : d < 256 - h) (x : Nat) :
    (Gt.mk 9 n h false false false 0).acc 9 false false ((n + d) % 256) [x] true = (Gt.mk 9 n h true false false 0, false, 15) := by
  rw [acc_of (gt_may n h 0 _ _ _ h0 h1 h2 h3 (by decide) (by decide)) rfl _ _ _ _ rfl (by omega) (by omega)]
  have e : ((n + d) % 256 - n) % 256 = d := by omega
  unfold Gt.tak Gt.que
  simp only [e, Bool.false_eq_true, if_false]
  rw [if_neg (by omega), if_neg (by omega), if_neg (by omega)]
  rfl
/-- a gate that is shut: what goes past it is let in -/
theorem acc_past (n h ct : Int) (wa ag : Bool) (h0 : 0 ≤ n) (h1 : n ≤ 255) (h2 : 1 ≤ h) (h3 : h ≤ 127) (c0 : 0 ≤ ct) (c1 : ct ≤ 3) (sq : Int) (s0 : 0 ≤ sq) (s1 : sq ≤ 255) (x : Nat) :
    (Gt.mk 9 n h true wa ag ct).acc 9 true false sq [x] true = (Gt.mk 9 n h true wa ag ((ct + 1) % 4), true, 0) := by
  rw [acc_of (gt_may n h ct _ _ _ h0 h1 h2 h3 c0 c1) rfl _ _ _ _ rfl s0 s1]
  rfl
/-- nothing else is -/
theorem acc_shut (n h ct : Int) (wa ag : Bool) (h0 : 0 ≤ n) (h1 : n ≤ 255) (h2 : 1 ≤ h) (h3 : h ≤ 127) (c0 : 0 ≤ ct) (c1 : ct ≤ 3) (sq : Int) (s0 : 0 ≤ sq) (s1 : sq ≤ 255) (x : Nat) :
    (Gt.mk 9 n h true wa ag ct).acc 9 false false sq [x] true = (Gt.mk 9 n h true wa ag ct, false, 15) := by
  rw [acc_of (gt_may n h ct _ _ _ h0 h1 h2 h3 c0 c1) rfl _ _ _ _ rfl s0 s1]
  rfl
/-- it is freed -/
theorem acc_free (n h ct : Int) (wa ag : Bool) (h0 : 0 ≤ n) (h1 : n ≤ 255) (h2 : 1 ≤ h) (h3 : h ≤ 127) (c0 : 0 ≤ ct) (c1 : ct ≤ 3) :
    (Gt.mk 9 n h true wa ag ct).acc 9 true true 0 [0] true = (Gt.mk 9 n h false false false ((ct + 1) % 4), false, 0) := by
  rw [acc_of (gt_may n h ct _ _ _ h0 h1 h2 h3 c0 c1) rfl _ _ _ _ rfl (by decide) (by decide)]
  rfl
/-- the next one is let in -/
theorem acc_next (n h ct : Int) (h0 : 0 ≤ n) (h1 : n ≤ 255) (h2 : 1 ≤ h) (h3 : h ≤ 127) (c0 : 0 ≤ ct) (c1 : ct ≤ 3) (x : Nat) :
    ∃ g, (Gt.mk 9 n h false false false ct).acc 9 false false n [x] true = (g, true, 0) := by
  rw [acc_of (gt_may n h ct _ _ _ h0 h1 h2 h3 c0 c1) rfl _ _ _ _ rfl h0 h1]
  refine ⟨Gt.mk 9 ((n + 1) % 256) h false false false ct, ?_⟩
  unfold Gt.tak Gt.que
  simp
end Go.Proofs.Ytncpignmijgghaa
